/-
  Texts put together for the claim of 'CircleParty' (pack 4): ContI, CircI, CircS, LawCircleParty, Head, Facts.
-/
import Derived.Test.YthpapkfpcijpoaaCirclePartyP1
import Derived.Test.YthpapkfpcijpoaaCirclePartyP2
import Derived.Test.YthpapkfpcijpoaaCirclePartyP3
import Derived.Deep.RegionHeld3
import Derived.Test.YthpapkfpcijpoaaRows
/-
  'slices.Contains' at numbers, from the shelf.
-/
namespace Go.Proofs.Ythpapkfpcijpoaa
open Go.RowKit

set_option maxRecDepth 100000 in
theorem containsI_any (q : List Int) (x : Int) (A : Option Addr) (c : Nat) (w : World) (hl : q.length ≤ 1048576) (hA : CRead w w.heap.size A (icells q)) :
    Calls Try.prog 82 #[.slice A q.length c, .int .i64 x] w fun e w' => e = .returned (.bool (hasI q x)) ∧ w = w' := by
  by_cases h0 : q.length = 0
  · have hq : q = [] := List.eq_nil_of_length_eq_zero h0
    subst hq
    have h := AnyG.slices_Contains_int_empty Try.containsI A c x w
    change Calls Try.prog 82 _ _ _ at h
    exact h.mono fun _ _ ⟨he, hw⟩ => ⟨he, hw.symm⟩
  · obtain ⟨b, off, rfl, hb, hc⟩ := hA.ints (by omega)
    have h := AnyG.slices_Contains_int Try.containsI b off q.length c q x w (Nat.le_refl _) (by omega) hc
    rw [List.take_length] at h
    change Calls Try.prog 82 _ _ _ at h
    exact h.mono fun _ _ ⟨he, hw⟩ => ⟨he, hw.symm⟩
end Go.Proofs.Ythpapkfpcijpoaa
/-
  'CircleParty': the program's, by its contracts.
-/
namespace Go.Proofs.Ythpapkfpcijpoaa
open Go.RowKit

theorem stepAt_no {n : Int} {q : List Int} {j : Nat} (h : ¬ (1 ≤ q.getD j 0 ∧ q.getD j 0 ≤ Int.tdiv n 2 ∧ (j = 0 ∨ q.getD (j - 1) 0 < q.getD j 0))) : stepAt n q j = false := decide_eq_false h
set_option maxHeartbeats 1000000 in
set_option maxRecDepth 100000 in
theorem areSteps_any (n : Int) (q : List Int) (A : Option Addr) (c : Nat) (w : World) (hn0 : 1 ≤ n) (hn : n ≤ 12) (hl : q.length ≤ 1048576) (hA : CRead w w.heap.size A (icells q)) :
    Calls Try.prog 80 #[.int .i64 n, .slice A q.length c] w fun e w' => e = .returned (.bool (areStepsB n q)) ∧ w = w' := by
  obtain ⟨r, hr⟩ : ∃ r, areStepsB n q = r := ⟨_, rfl⟩
  rw [hr]
  have Hr := Lib.hid hr
  have hd0 : 0 ≤ Int.tdiv n 2 ∧ Int.tdiv n 2 ≤ 6 := by rw [Int.tdiv_eq_ediv_of_nonneg (by omega)]; omega
  obtain ⟨D, hD⟩ : ∃ D, Int.tdiv n 2 = D := ⟨_, rfl⟩
  rw [hD] at hd0
  clear hr
  go_enter Try.func80, Try.ntmps80
  go_wp2
  go_loop [9] (fun i => ∃ k : Nat, k ≤ q.length ∧ i = .int .i64 k ∧ ∀ j, j < k → stepAt n q j = true) (fun i => q.length - (intOf i).toNat)
  case atStart => exact ⟨0, Nat.zero_le _, rfl, fun j hj => by omega⟩
  case round =>
    obtain ⟨k, hk, rfl, hall⟩ := hrel
    have Hall := Lib.hid hall
    clear hall
    by_cases hlt : k < q.length
    · have hki : (k : Int) < (q.length : Int) := by omega
      obtain ⟨x, hx⟩ := getSome q k hlt
      obtain ⟨b, off, e, _, c0⟩ := hA.int hx
      obtain rfl := e
      have hg := getD_some hx
      by_cases h1 : x < 1
      · have e : r = false := by rw [← Hr.out]; exact steps_no hlt (stepAt_no (by rw [hg]; omega))
        subst e
        clear hx hg
        go_wp2
        go_ret
        exact ⟨rfl, rfl⟩
      · by_cases h2 : D < x
        · have e : r = false := by rw [← Hr.out]; exact steps_no hlt (stepAt_no (by rw [hg, hD]; omega))
          subst e
          clear hx hg
          go_wp2
          go_ret
          exact ⟨rfl, rfl⟩
        · by_cases hk0 : k = 0
          · have hn1 : ∀ j, j < k + 1 → stepAt n q j = true := fun j hj => by
              obtain rfl : j = k := by omega
              exact decide_eq_true ⟨by rw [hg]; omega, by rw [hg, hD]; omega, .inl hk0⟩
            have Hn1 := Lib.hid hn1
            have hkz : ¬ ((0 : Int) < (k : Int)) := by omega
            clear hx hg hn1 hk0
            go_wp2
            go_round
            case rel => exact ⟨k + 1, by omega, by go_num, Hn1.out⟩
            case measure => simp [intOf]; omega
          · obtain ⟨y, hy⟩ := getSome q (k - 1) (by omega)
            obtain ⟨b', off', e', _, c1⟩ := hA.int hy
            simp only [Option.some.injEq, Addr.mk.injEq, and_true] at e'
            obtain ⟨rfl, rfl⟩ := e'
            have hgy := getD_some hy
            have hkz : (0 : Int) < (k : Int) := by omega
            have hk1 : ((k : Int) - 1).toNat = k - 1 := by omega
            have hk2 : (0 : Int) ≤ (k : Int) - 1 := by omega
            have hk3 : (k : Int) - 1 < (q.length : Int) := by omega
            by_cases hl2 : y < x
            · have hn1 : ∀ j, j < k + 1 → stepAt n q j = true := fun j hj => by
                by_cases e : j = k
                · subst e; exact decide_eq_true ⟨by rw [hg]; omega, by rw [hg, hD]; omega, .inr (by rw [hg, hgy]; exact hl2)⟩
                · exact Hall.out j (by omega)
              have Hn1 := Lib.hid hn1
              have hnl : ¬ x ≤ y := by omega
              clear hx hy hg hgy hn1 hk0
              go_wp2
              go_round
              case rel => exact ⟨k + 1, by omega, by go_num, Hn1.out⟩
              case measure => simp [intOf]; omega
            · have e : r = false := by rw [← Hr.out]; exact steps_no hlt (stepAt_no (by rw [hg, hgy]; omega))
              subst e
              have hnl : x ≤ y := by omega
              clear hx hy hg hgy hk0
              go_wp2
              go_ret
              exact ⟨rfl, rfl⟩
    · have hkl : k = q.length := by omega
      subst hkl
      have hge : ¬ ((q.length : Int) < (q.length : Int)) := by omega
      have e : r = true := by rw [← Hr.out]; exact steps_of Hall.out
      subst e
      go_wp2
      go_ret
      exact ⟨rfl, rfl⟩
set_option maxHeartbeats 1000000 in
set_option maxRecDepth 100000 in
theorem circTold_any (n x y gs gn : Nat) (q : List Int) (A : Option Addr) (c : Nat) (w : World) (hn : n ≤ 12) (hxy : x < y) (hy : y < n) (hl : q.length ≤ 1048576) (hA : CRead w w.heap.size A (icells q))
    (cs : w.cell? ⟨gs, 0, none⟩ = some (.slice A q.length c)) (cn : w.cell? ⟨gn, 0, none⟩ = some (.int .i64 n)) :
    Calls Try.prog 81 #[.int .i64 x, .int .i64 y, .pointer (some ⟨gs, 0, none⟩), .pointer (some ⟨gn, 0, none⟩)] w fun e w' => e = .returned (.bool (circT n q x y)) ∧ w = w' := by
  unfold circT
  have h1 := containsI_any q ((y : Int) - x) A c w hl hA
  have h2 := containsI_any q ((n : Int) - ((y : Int) - x)) A c w hl hA
  obtain ⟨r1, hr1⟩ : ∃ r, hasI q ((y : Int) - x) = r := ⟨_, rfl⟩
  obtain ⟨r2, hr2⟩ : ∃ r, hasI q ((n : Int) - ((y : Int) - x)) = r := ⟨_, rfl⟩
  rw [hr1] at h1 ⊢
  rw [hr2] at h2 ⊢
  have C1 := Lib.hid h1
  have C2 := Lib.hid h2
  clear h1 h2 hr1 hr2
  cases r1 with
  | true =>
    go_enter Try.func81, Try.ntmps81
    go_wp2_with fail
    refine C1.out.mono ?_
    rintro e w2 ⟨rfl, rfl⟩
    go_wp2
    go_ret
    exact ⟨rfl, rfl⟩
  | false =>
    go_enter Try.func81, Try.ntmps81
    go_wp2_with fail
    refine C1.out.mono ?_
    rintro e w2 ⟨rfl, rfl⟩
    go_wp2_with fail
    refine C2.out.mono ?_
    rintro e w2 ⟨rfl, rfl⟩
    go_wp2
    go_ret
    exact ⟨rfl, rfl⟩
set_option maxHeartbeats 1000000 in
set_option maxRecDepth 100000 in
theorem whereCirc_any (n x y gs gn gb : Nat) (q : List Int) (A : Option Addr) (c : Nat) (w : World) (hn : n ≤ 12) (hxy : x < y) (hy : y < n) (hl : q.length ≤ 1048576) (hA : CRead w w.heap.size A (icells q))
    (cs : w.cell? ⟨gs, 0, none⟩ = some (.slice A q.length c)) (cn : w.cell? ⟨gn, 0, none⟩ = some (.int .i64 n)) (cg : w.cell? ⟨gb, 0, none⟩ = some (.func (.func 81) #[] #[.pointer (some ⟨gs, 0, none⟩), .pointer (some ⟨gn, 0, none⟩)])) :
    Calls Try.prog 94 #[.agg #[.int .i64 x, .int .i64 y], .pointer (some ⟨gb, 0, none⟩)] w fun e w' => e = .returned (.bool (!circT n q x y)) ∧ Below w.heap.size w w' := by
  have hg := World.block_lt_of_cell? w _ cg
  have hgs := World.block_lt_of_cell? w _ cs
  have hgn := World.block_lt_of_cell? w _ cn
  simp only at hg hgs hgn
  have cg2 : (w.alloc (Obj.cells #[.int .i64 x, .int .i64 y] 71)).cell? ⟨gb, 0, none⟩ = some (.func (.func 81) #[] #[.pointer (some ⟨gs, 0, none⟩), .pointer (some ⟨gn, 0, none⟩)]) := (World.cell?_alloc_lt _ _ _ hg).trans cg
  have cs2 : (w.alloc (Obj.cells #[.int .i64 x, .int .i64 y] 71)).cell? ⟨gs, 0, none⟩ = some (.slice A q.length c) := (World.cell?_alloc_lt _ _ _ hgs).trans cs
  have cn2 : (w.alloc (Obj.cells #[.int .i64 x, .int .i64 y] 71)).cell? ⟨gn, 0, none⟩ = some (.int .i64 n) := (World.cell?_alloc_lt _ _ _ hgn).trans cn
  have call := circTold_any n x y gs gn q A c (w.alloc (Obj.cells #[.int .i64 x, .int .i64 y] 71)) hn hxy hy hl ((hA.below (B' := w.heap.size) (by go_grown) (Nat.le_refl _)).more (by go_size)) cs2 cn2
  obtain ⟨r, hr⟩ : ∃ r, circT n q x y = r := ⟨_, rfl⟩
  rw [hr] at call ⊢
  have Call := Lib.hid call
  clear hr call cg cs cs2 cn cn2 hA
  go_enter Try.func94, Try.ntmps94
  go_wp2_with fail
  refine Call.out.mono ?_
  rintro e w2 ⟨rfl, rfl⟩
  go_wp2
  go_ret
  exact ⟨rfl, by go_grown⟩
set_option maxHeartbeats 1000000 in
set_option maxRecDepth 100000 in
theorem implCircleParty_any (n : Int) (q : List Int) (A : Option Addr) (c : Nat) (w : World) (hl : q.length ≤ 1048576) (hA : CRead w w.heap.size A (icells q)) :
    Calls Try.prog 41 #[.int .i64 n, .slice A q.length c] w (GotPartyOk w (resCircleParty n q).1 (resCircleParty n q).2.1 (resCircleParty n q).2.2) := by
  by_cases h1 : n < 1
  · have e : resCircleParty n q = (0, [], false) := if_neg (by omega)
    rw [e]
    clear e
    go_enter Try.func41, Try.ntmps41
    go_wp2
    refine bodyPost_ret (v := .tuple #[.agg #[.int .i64 0, .slice none 0 0], .bool false]) (by simp [results, Try.results41, go_sem]) rfl ?_
    exact ⟨none, 0, rfl, World.ownsRow_nil _ _ _ _, by go_grown⟩
  by_cases h2 : 12 < n
  · have e : resCircleParty n q = (0, [], false) := if_neg (by omega)
    rw [e]
    clear e
    go_enter Try.func41, Try.ntmps41
    go_wp2
    refine bodyPost_ret (v := .tuple #[.agg #[.int .i64 0, .slice none 0 0], .bool false]) (by simp [results, Try.results41, go_sem]) rfl ?_
    exact ⟨none, 0, rfl, World.ownsRow_nil _ _ _ _, by go_grown⟩
  obtain ⟨n, rfl⟩ : ∃ k : Nat, n = k := ⟨n.toNat, by omega⟩
  obtain ⟨V, hV⟩ : ∃ V, (w.alloc (Obj.cells #[.int .i64 n] 3)).alloc (Obj.cells #[.slice A q.length c] 45) = V := ⟨_, rfl⟩
  have zV : V.heap.size = w.heap.size + 1 + 1 := by rw [← hV]; simp
  have kV : Below w.heap.size w V := by rw [← hV]; go_grown
  have vn : V.cell? ⟨w.heap.size, 0, none⟩ = some (.int .i64 n) := by rw [← hV]; simp
  have vs : V.cell? ⟨w.heap.size + 1, 0, none⟩ = some (.slice A q.length c) := by rw [← hV]; simp
  obtain ⟨X, hX⟩ : ∃ X, V.alloc (Obj.cells #[.int .i64 0, .slice none 0 0] 31) = X := ⟨_, rfl⟩
  have kX : Below w.heap.size w X := by rw [← hX]; exact kV.alloc kV.size _
  have zX : w.heap.size + 1 + 1 < X.heap.size := by rw [← hX, World.size_alloc, zV]; omega
  have cn : X.cell? ⟨w.heap.size, 0, none⟩ = some (.int .i64 n) := by rw [← hX]; exact (World.cell?_alloc_lt _ _ _ (by show w.heap.size < _; omega)).trans vn
  have cs : X.cell? ⟨w.heap.size + 1, 0, none⟩ = some (.slice A q.length c) := by rw [← hX]; exact (World.cell?_alloc_lt _ _ _ (by show w.heap.size + 1 < _; omega)).trans vs
  have X0 : X.cell? ⟨w.heap.size + 1 + 1, 0, none⟩ = some (.int .i64 0) := by rw [← hX, ← zV]; simp
  have X1 : X.cell? ⟨w.heap.size + 1 + 1, 1, none⟩ = some (.slice none 0 0) := by rw [← hX, ← zV]; simp
  have Z0 : X.frozen? ⟨w.heap.size + 1 + 1, 0, none⟩ = false := by rw [← hX, ← zV]; simp
  have Z1 : X.frozen? ⟨w.heap.size + 1 + 1, 1, none⟩ = false := by rw [← hX, ← zV]; simp
  have hX : ((w.alloc (Obj.cells #[.int .i64 n] 3)).alloc (Obj.cells #[.slice A q.length c] 45)).alloc (Obj.cells #[.int .i64 0, .slice none 0 0] 31) = X := by rw [hV]; exact hX
  clear hV zV kV vn vs
  have rX := (hA.below kX (Nat.le_refl _)).more kX.size
  have hst := areSteps_any n q A c X (by omega) (by omega) hl rX
  have call := partyWhere_any n (by omega) (circT n q) 81 #[.pointer (some ⟨w.heap.size + 1, 0, none⟩), .pointer (some ⟨w.heap.size, 0, none⟩)] X (fun Y x y hY hYs hxy hyn => by
    simp only [Int.toNat_natCast]
    have kY : Below X.heap.size X Y := Below.trans (b := _) (by go_grown) (hY.mono (by omega))
    exact whereCirc_any n x y (w.heap.size + 1) w.heap.size X.heap.size q A c Y (by omega) hxy hyn hl ((hA.below (kX.trans (kY.mono (by omega))) (Nat.le_refl _)).more (by have := kY.size; omega)) (carry kY cs (by omega)) (carry kY cn (by omega)) (carry hY (by simp) (by omega)))
  have HX := Lib.hid hX
  cases hs : areStepsB n q with
  | false =>
    have e : resCircleParty n q = (0, [], false) := if_neg (by rw [hs]; simp)
    rw [e]
    rw [hs] at hst
    have Hst := Lib.hid hst
    clear e hX hst call hs
    go_enter Try.func41, Try.ntmps41
    go_wp2_with fail
    rw [HX.out]
    refine Hst.out.mono ?_
    rintro e w3 ⟨rfl, rfl⟩
    go_wp2
    refine bodyPost_ret (v := .tuple #[.agg #[.int .i64 0, .slice none 0 0], .bool false]) (by simp [results, Try.results41, go_sem, X0, X1]) rfl ?_
    exact ⟨none, 0, rfl, World.ownsRow_nil _ _ _ _, (kX.setCell (p := ⟨w.heap.size + 1 + 1, 0, none⟩) (by show w.heap.size ≤ w.heap.size + 1 + 1; omega) _).setCell (p := ⟨w.heap.size + 1 + 1, 1, none⟩) (by show w.heap.size ≤ w.heap.size + 1 + 1; omega) _⟩
  | true =>
    have e : resCircleParty n q = ((n : Int), tabP n (circT n q), true) := if_pos ⟨by omega, hs⟩
    rw [e]
    rw [hs] at hst
    obtain ⟨R, hR⟩ : ∃ R, tabP n (circT n q) = R := ⟨_, rfl⟩
    rw [hR] at call ⊢
    have Hst := Lib.hid hst
    have Call := Lib.hid call
    clear e hX hst call hs hR
    go_enter Try.func41, Try.ntmps41
    go_wp2_with fail
    rw [HX.out]
    refine Hst.out.mono ?_
    rintro e w3 ⟨rfl, rfl⟩
    go_wp2_with fail
    refine Call.out.mono ?_
    rintro e w4 ⟨A3, c3, rfl, own3, hb3⟩
    have y0 : w4.cell? ⟨w.heap.size + 1 + 1, 0, none⟩ = some (.int .i64 0) := carry hb3 X0 (by omega)
    have y1 : w4.cell? ⟨w.heap.size + 1 + 1, 1, none⟩ = some (.slice none 0 0) := carry hb3 X1 (by omega)
    have y2 : w4.frozen? ⟨w.heap.size + 1 + 1, 0, none⟩ = false := (hb3.frozen (p := ⟨w.heap.size + 1 + 1, 0, none⟩) (by show w.heap.size + 1 + 1 < _; omega)).trans Z0
    have y3 : w4.frozen? ⟨w.heap.size + 1 + 1, 1, none⟩ = false := (hb3.frozen (p := ⟨w.heap.size + 1 + 1, 1, none⟩) (by show w.heap.size + 1 + 1 < _; omega)).trans Z1
    have kw : Below w.heap.size w w4 := kX.trans (hb3.mono (by omega))
    clear X0 X1 Z0 Z1 cn cs
    go_wp2
    refine bodyPost_ret (v := .tuple #[.agg #[.int .i64 n, .slice A3 R.length c3], .bool true]) (by simp [results, Try.results41, go_sem, y0, y1]) rfl ?_
    exact ⟨A3, c3, rfl, own_lower (ownsRow_setCell_below (ownsRow_setCell_below own3 (a := ⟨w.heap.size + 1 + 1, 0, none⟩) (by show w.heap.size + 1 + 1 < _; omega) _) (a := ⟨w.heap.size + 1 + 1, 1, none⟩) (by show w.heap.size + 1 + 1 < _; omega) _) (by omega),
      (kw.setCell (p := ⟨w.heap.size + 1 + 1, 0, none⟩) (by show w.heap.size ≤ w.heap.size + 1 + 1; omega) _).setCell (p := ⟨w.heap.size + 1 + 1, 1, none⟩) (by show w.heap.size ≤ w.heap.size + 1 + 1; omega) _⟩
end Go.Proofs.Ythpapkfpcijpoaa
/-
  'CircleParty': the model's, by its contracts.
-/
namespace Go.Proofs.Ythpapkfpcijpoaa
open Go.RowKit

theorem drewN_below {B : Nat} {a w : World} (h : Below B a w) (n : Nat) : Below B a (w.drewN n) := h.trans ⟨rfl, rfl, rfl, Nat.le_refl _, fun _ _ => rfl⟩
set_option maxHeartbeats 4000000 in
set_option maxRecDepth 100000 in
theorem specCircleParty_any (n : Int) (q : List Int) (A : Option Addr) (c : Nat) (w : World) (hl : q.length ≤ 1048576) (hA : CRead w w.heap.size A (icells q)) :
    Calls Try.prog 39 #[.int .i64 n, .slice A q.length c] w (GotPartyOk w (resCircleParty n q).1 (resCircleParty n q).2.1 (resCircleParty n q).2.2) := by
  have rA : ∀ o, CRead (w.alloc o) (w.alloc o).heap.size A (icells q) := fun o => (hA.below (B' := w.heap.size) (by go_grown) (Nat.le_refl _)).more (by go_size)
  by_cases h1 : 1 ≤ n ∧ n ≤ 12
  rotate_left
  · have e : resCircleParty n q = (0, [], false) := if_neg (fun h => h1 h.1)
    rw [e]
    clear e rA
    go_enter Try.func39, Try.ntmps39
    go_wp2_with fail
    refine (l1In_no _ 1 12 (by omega) _).mono ?_
    rintro e w' ⟨rfl, rfl⟩
    go_wp2
    refine bodyPost_ret (v := .tuple #[.agg #[.int .i64 0, .slice none 0 0], .bool false]) (by simp [results, Try.results39, go_sem]) rfl ?_
    exact ⟨none, 0, rfl, World.ownsRow_nil _ _ _ _, by go_grown⟩
  obtain ⟨n, rfl⟩ : ∃ k : Nat, n = k := ⟨n.toNat, by omega⟩
  by_cases h6 : 6 < q.length
  · have e : resCircleParty n q = (0, [], false) := if_neg (fun h => by have := steps_len h.2 (by omega) (by omega); omega)
    rw [e]
    have h6i : (6 : Int) < (q.length : Int) := by omega
    clear e rA
    go_enter Try.func39, Try.ntmps39
    go_wp2_with fail
    refine (l1In_yes _ 1 12 (by omega) (by omega) _).mono ?_
    rintro e w' ⟨rfl, rfl⟩
    go_wp2
    refine bodyPost_ret (v := .tuple #[.agg #[.int .i64 0, .slice none 0 0], .bool false]) (by simp [results, Try.results39, go_sem]) rfl ?_
    exact ⟨none, 0, rfl, World.ownsRow_nil _ _ _ _, by go_grown⟩
  have h6i : ¬ ((6 : Int) < (q.length : Int)) := by omega
  have htd : Int.tdiv (n : Int) 2 = (n : Int) / 2 := Int.tdiv_eq_ediv_of_nonneg (by omega)
  have Htd := Lib.hid htd
  clear htd
  cases hal : l1AllB q 1 ((n : Int) / 2) with
  | false =>
    have e : resCircleParty n q = (0, [], false) := if_neg (fun h => by have := steps_l1 h.2; rw [Htd.out] at this; rw [this] at hal; cases hal)
    rw [e]
    have Hal := Lib.hid hal
    clear e hal
    go_enter Try.func39, Try.ntmps39
    go_wp2_with fail
    refine (l1In_yes _ 1 12 (by omega) (by omega) _).mono ?_
    rintro e w' ⟨rfl, rfl⟩
    go_wp2_with fail
    refine (l1All_any q A c 1 _ _ hl (rA _)).mono ?_
    rw [Hal.out]
    rintro e w' ⟨rfl, rfl⟩
    clear rA
    go_wp2
    refine bodyPost_ret (v := .tuple #[.agg #[.int .i64 0, .slice none 0 0], .bool false]) (by simp [results, Try.results39, go_sem]) rfl ?_
    exact ⟨none, 0, rfl, World.ownsRow_nil _ _ _ _, by go_grown⟩
  | true =>
    have hp : isP (n : Int) [] = true := by unfold isP; simp; omega
    have htab := fun X : World => paTable_any (n : Int) [] none 0 X hp CRead.nil
    simp only [Int.toNat_natCast, List.length_nil] at htab
    obtain ⟨⟨rp, rl, rb⟩, hres⟩ : ∃ r, resCircleParty n q = r := ⟨_, rfl⟩
    rw [hres]
    have Hres := Lib.hid hres
    have Hal := Lib.hid hal
    have Htab := Lib.hid htab
    clear hal hp htab hres
    go_enter Try.func39, Try.ntmps39
    go_wp2_with fail
    refine (l1In_yes _ 1 12 (by omega) (by omega) _).mono ?_
    rintro e w' ⟨rfl, rfl⟩
    go_wp2_with fail
    refine (l1All_any q A c 1 _ _ hl (rA _)).mono ?_
    rw [Hal.out]
    rintro e w' ⟨rfl, rfl⟩
    obtain ⟨X, hX⟩ : ∃ X, w.alloc (Obj.cells #[.int .i64 0, .slice none 0 0] 31) = X := ⟨_, rfl⟩
    have kX : Below w.heap.size w X := by rw [← hX]; go_grown
    have zX : w.heap.size < X.heap.size := by rw [← hX]; simp
    have X0 : X.cell? ⟨w.heap.size, 0, none⟩ = some (.int .i64 0) := by rw [← hX]; simp
    have X1 : X.cell? ⟨w.heap.size, 1, none⟩ = some (.slice none 0 0) := by rw [← hX]; simp
    have Z0 : X.frozen? ⟨w.heap.size, 0, none⟩ = false := by rw [← hX]; simp
    have Z1 : X.frozen? ⟨w.heap.size, 1, none⟩ = false := by rw [← hX]; simp
    have rX : CRead X X.heap.size A (icells q) := (hA.below kX (Nat.le_refl _)).more kX.size
    go_wp2_with fail
    clear hX rA
    go_loopw [6] (fun i wr => ∃ k : Nat, 1 ≤ k ∧ i = .int .i64 k ∧ (k ≤ q.length ∨ k = 1) ∧ (∀ j, 1 ≤ j → j < k → j < q.length → q.getD (j - 1) 0 < q.getD j 0) ∧ Below X.heap.size X wr) (fun i _ => q.length + 1 - (intOf i).toNat)
    case atStart => exact ⟨1, Nat.le_refl _, rfl, .inr rfl, (fun j h1 h2 => by omega), Below.refl _ _⟩
    case round =>
      obtain ⟨k, hk1, rfl, hk, hall, hbX⟩ := hrel
      have kr : Below w.heap.size w wr := kX.trans (hbX.mono kX.size)
      have zr : w.heap.size < wr.heap.size := Nat.lt_of_lt_of_le zX hbX.size
      have R0 : wr.cell? ⟨w.heap.size, 0, none⟩ = some (.int .i64 0) := carry hbX X0 zX
      have R1 : wr.cell? ⟨w.heap.size, 1, none⟩ = some (.slice none 0 0) := carry hbX X1 zX
      have F0 : wr.frozen? ⟨w.heap.size, 0, none⟩ = false := (hbX.frozen (p := ⟨w.heap.size, 0, none⟩) zX).trans Z0
      have F1 : wr.frozen? ⟨w.heap.size, 1, none⟩ = false := (hbX.frozen (p := ⟨w.heap.size, 1, none⟩) zX).trans Z1
      have rr : CRead wr wr.heap.size A (icells q) := (rX.below hbX (Nat.le_refl _)).more hbX.size
      have Hall := Lib.hid hall
      clear hall
      by_cases hlt : k < q.length
      · have hki : (k : Int) < (q.length : Int) := by omega
        obtain ⟨x, hx⟩ := getSome q k hlt
        obtain ⟨b, off, e, _, c0⟩ := rr.int hx
        obtain rfl := e
        obtain ⟨y, hy⟩ := getSome q (k - 1) (by omega)
        obtain ⟨b', off', e', _, c1⟩ := rr.int hy
        simp only [Option.some.injEq, Addr.mk.injEq, and_true] at e'
        obtain ⟨rfl, rfl⟩ := e'
        have hg := getD_some hx
        have hgy := getD_some hy
        have hk1' : ((k : Int) - 1).toNat = k - 1 := by omega
        have hk2 : (0 : Int) ≤ (k : Int) - 1 := by omega
        have hk3 : (k : Int) - 1 < (q.length : Int) := by omega
        by_cases hl2 : y < x
        · have hn1 : ∀ j, 1 ≤ j → j < k + 1 → j < q.length → q.getD (j - 1) 0 < q.getD j 0 := fun j h1 h2 h3 => by
            by_cases e : j = k
            · subst e; rw [hg, hgy]; exact hl2
            · exact Hall.out j h1 (by omega) h3
          have Hn1 := Lib.hid hn1
          have hnl : ¬ x ≤ y := by omega
          clear hx hy hg hgy hn1
          go_wp2_with fail
          go_quiet (fail)
          go_wp2
          go_roundw
          case rel => exact ⟨k + 1, by omega, by go_num, by omega, Hn1.out, drewN_below hbX _⟩
          case measure => simp [intOf]; omega
        · have e : resCircleParty n q = (0, [], false) := if_neg (fun h => by have := (steps_at h.2 hlt).2.2; rw [hg, hgy] at this; omega)
          have hres := Hres.out
          rw [e] at hres
          simp only [Prod.mk.injEq] at hres
          obtain ⟨rfl, rfl, rfl⟩ := hres
          have hnl : x ≤ y := by omega
          clear hx hy hg hgy e
          go_wp2_with fail
          go_quiet (fail)
          go_wp2
          refine bodyPost_ret (v := .tuple #[.agg #[.int .i64 0, .slice none 0 0], .bool false]) (by simp [results, Try.results39, go_sem, R0, R1]) rfl ?_
          exact ⟨none, 0, rfl, World.ownsRow_nil _ _ _ _, ((drewN_below kr _).setCell (p := ⟨w.heap.size, 0, none⟩) (by simp) _).setCell (p := ⟨w.heap.size, 1, none⟩) (by simp) _⟩
      · have hge : ¬ ((k : Int) < (q.length : Int)) := by omega
        have hs : areStepsB n q = true := steps_split (by rw [Htd.out]; exact Hal.out) (fun j h1 h2 => Hall.out j h1 (by omega) h2)
        have e : resCircleParty n q = ((n : Int), tabP n (circT n q), true) := if_pos ⟨by omega, hs⟩
        have hres := Hres.out
        obtain ⟨R, hR⟩ : ∃ R, tabP n (circT n q) = R := ⟨_, rfl⟩
        rw [e, hR] at hres
        simp only [Prod.mk.injEq] at hres
        obtain ⟨rfl, rfl, rfl⟩ := hres
        have HR := Lib.hid hR
        have Hs := Lib.hid hs
        clear hR
        obtain ⟨wq, hwq⟩ : ∃ x, x = wr := ⟨_, rfl⟩
        subst hwq
        clear e hs
        go_wp2_with fail
        refine (Htab.out _).mono ?_
        rintro e w3 ⟨A3, c3, G, rfl, tab, hb3⟩
        have y0 : w3.cell? ⟨w.heap.size, 0, none⟩ = some (.int .i64 0) := carry hb3 R0 zr
        have y1 : w3.cell? ⟨w.heap.size, 1, none⟩ = some (.slice none 0 0) := carry hb3 R1 zr
        have y2 : w3.frozen? ⟨w.heap.size, 0, none⟩ = false := (hb3.frozen (p := ⟨w.heap.size, 0, none⟩) zr).trans F0
        have y3 : w3.frozen? ⟨w.heap.size, 1, none⟩ = false := (hb3.frozen (p := ⟨w.heap.size, 1, none⟩) zr).trans F1
        have k3 : Below w.heap.size w w3 := kr.trans (hb3.mono kr.size)
        have s3 : w.heap.size < w3.heap.size := Nat.lt_of_lt_of_le zr hb3.size
        obtain ⟨g3, rfl⟩ := own_form tab.own (by omega)
        have Tab := Lib.hid tab
        clear tab hb3 R0 R1 F0 F1
        go_wp2
        go_loopw [50] (fun i wr => ∃ (k : Nat) (t : Nat → Nat → Bool), k ≤ n ∧ i = .int .i64 k ∧ TabG wr wq.heap.size (.slice (some ⟨g3, 0, none⟩) n c3) n n G t ∧ (∀ a b, t a b = true ↔ hitP n q k 0 a b) ∧ Below wq.heap.size w3 wr) (fun i _ => n - (intOf i).toNat)
        case atStart => exact ⟨0, adj [], Nat.zero_le _, rfl, Tab.out, (fun a b => by rw [adj_nil]; exact ⟨fun h => (by cases h), fun h => absurd h (hit_none a b)⟩), Below.refl _ _⟩
        case round =>
          clear Tab
          obtain ⟨k, t, hk, rfl, tab, ht, hb⟩ := hrel
          have Ht := Lib.hid ht
          have Tab := Lib.hid tab
          have Hb := Lib.hid hb
          clear ht tab hb
          by_cases hlt : k < n
          · have hki : (k : Int) < (n : Int) := by omega
            go_wp2
            go_loopw [55] (fun i wr => ∃ (j : Nat) (t : Nat → Nat → Bool), j ≤ q.length ∧ i = .int .i64 j ∧ TabG wr wq.heap.size (.slice (some ⟨g3, 0, none⟩) n c3) n n G t ∧ (∀ a b, t a b = true ↔ hitP n q k j a b) ∧ Below wq.heap.size w3 wr) (fun i _ => q.length - (intOf i).toNat)
            case atStart => exact ⟨0, t, Nat.zero_le _, rfl, Tab.out, Ht.out, Hb.out⟩
            case round =>
              clear Tab Ht Hb
              obtain ⟨j, t, hj, rfl, tab, ht, hb⟩ := hrel
              by_cases hlt2 : j < q.length
              · have hji : (j : Int) < (q.length : Int) := by omega
                obtain ⟨s, hx⟩ := getSome q j hlt2
                have hst := steps_at Hs.out hlt2
                rw [getD_some hx, Htd.out] at hst
                obtain ⟨m, rfl⟩ : ∃ m : Nat, s = m := ⟨s.toNat, by omega⟩
                have hm := hst.1
                have hm2 := hst.2.1
                have hm6 : (m : Int) ≤ 6 := by omega
                have k5 := k3.trans (hb.mono (by omega))
                obtain ⟨b, off, e, _, c0⟩ := ((hA.below k5 (Nat.le_refl _)).more k5.size).int hx
                obtain rfl := e
                obtain ⟨O, hO⟩ : ∃ O, (k + m) % n = O := ⟨_, rfl⟩
                have hOn : O < n := by rw [← hO]; exact Nat.mod_lt _ (by omega)
                have hOi : (O : Int) < (n : Int) := by omega
                have htm : Int.tmod ((k : Int) + (m : Int)) (n : Int) = (O : Int) := by rw [Int.tmod_eq_emod_of_nonneg (by omega), ← hO]; rfl
                have hn0 : ¬ ((n : Int) = 0) := by omega
                have hn0' : ¬ (n = 0) := by omega
                have t1 := tab.set (a := k) (b := O) hlt true
                have t2 := t1.set (a := O) (b := k) hOn true
                have o0 := tab.outer hlt
                have cc1 := tab.cell hlt hOn
                have f1 := tab.frozen hlt O
                have o1 := t1.outer hOn
                have cc2 := t1.cell hOn hlt
                have f2 := t1.frozen hOn k
                have T2 := Lib.hid t2
                have Ht2 := Lib.hid (upd_hit (O := O) (s := (m : Int)) hlt hx (by rw [Int.toNat_natCast]; exact hO) ht)
                have K2 := Lib.hid ((hb.setCell (p := ⟨G k, O, none⟩) (tab.blk hlt).1 (.bool true)).setCell (p := ⟨G O, k, none⟩) (tab.blk hOn).1 (.bool true))
                clear t1 t2 tab ht hb hO hx hst k5
                go_wp2
                go_roundw
                case rel => exact ⟨j + 1, _, by omega, by go_num, T2.out, Ht2.out, K2.out⟩
                case measure => simp [intOf]; omega
              · have hjq : j = q.length := by omega
                subst hjq
                have hge : ¬ ((q.length : Int) < (q.length : Int)) := by omega
                have Ht2 := Lib.hid (fun a b => (ht a b).trans (hit_row a b).symm)
                have Tab := Lib.hid tab
                clear ht tab
                go_wp2
                go_roundw
                case rel => exact ⟨k + 1, t, by omega, by go_num, Tab.out, Ht2.out, hb⟩
                case measure => simp [intOf]; omega
          · have hkn : k = n := by omega
            subst hkn
            have hge : ¬ ((k : Int) < (k : Int)) := by omega
            have hb := Hb.out
            have z0 : wr.cell? ⟨w.heap.size, 0, none⟩ = some (.int .i64 0) := carry hb y0 (by omega)
            have z1 : wr.cell? ⟨w.heap.size, 1, none⟩ = some (.slice none 0 0) := carry hb y1 (by omega)
            have z2 : wr.frozen? ⟨w.heap.size, 0, none⟩ = false := (hb.frozen (p := ⟨w.heap.size, 0, none⟩) zr).trans y2
            have z3 : wr.frozen? ⟨w.heap.size, 1, none⟩ = false := (hb.frozen (p := ⟨w.heap.size, 1, none⟩) zr).trans y3
            have k5 : Below w.heap.size w wr := k3.trans (hb.mono (by omega))
            have sr : w.heap.size < wr.heap.size := Nat.lt_of_lt_of_le s3 hb.size
            have hof := paOf_any k t _ c3 G _ wr (by omega) Tab.out
            rw [tabP_hit Hs.out Ht.out, HR.out] at hof
            have Hof := Lib.hid hof
            clear y0 y1 y2 y3 hb hof
            go_wp2_with fail
            refine Hof.out.mono ?_
            rintro e w4 ⟨A4, c4, rfl, own4, hb4⟩
            have y0 : w4.cell? ⟨w.heap.size, 0, none⟩ = some (.int .i64 0) := carry hb4 z0 sr
            have y1 : w4.cell? ⟨w.heap.size, 1, none⟩ = some (.slice none 0 0) := carry hb4 z1 sr
            have y2 : w4.frozen? ⟨w.heap.size, 0, none⟩ = false := (hb4.frozen (p := ⟨w.heap.size, 0, none⟩) sr).trans z2
            have y3 : w4.frozen? ⟨w.heap.size, 1, none⟩ = false := (hb4.frozen (p := ⟨w.heap.size, 1, none⟩) sr).trans z3
            have k6 : Below w.heap.size w w4 := k5.trans (hb4.mono k5.size)
            clear z0 z1 z2 z3
            go_wp2
            refine bodyPost_ret (v := .tuple #[.agg #[.int .i64 k, .slice A4 R.length c4], .bool true]) (by simp [results, Try.results39, go_sem, y0, y1]) rfl ?_
            exact ⟨A4, c4, rfl, own_lower (ownsRow_setCell_below (ownsRow_setCell_below own4 (a := ⟨w.heap.size, 0, none⟩) sr _) (a := ⟨w.heap.size, 1, none⟩) sr _) (by omega),
              (k6.setCell (p := ⟨w.heap.size, 0, none⟩) (by simp) _).setCell (p := ⟨w.heap.size, 1, none⟩) (by simp) _⟩
end Go.Proofs.Ythpapkfpcijpoaa
/-
  'laws.FnExactCircleParty' returns true, whatever its arguments: out of the contracts of the model's function and of the program's.
-/
namespace Go.Proofs.Ythpapkfpcijpoaa
open Go.RowKit

set_option maxHeartbeats 4000000 in
set_option maxRecDepth 100000 in
theorem lawCircleParty_any (i0 : Int) (q1 : List Int) (A1 : Option Addr) (c1 : Nat) (W : World) (hl1 : q1.length ≤ maxLen) (hA1 : CRead W W.heap.size A1 (icells q1)) :
    Calls Try.prog 10 #[.int .i64 i0, .slice A1 q1.length c1] W fun e w' => e = .returned (.bool true) ∧ Below W.heap.size W w' := by
  have hone : (0 : Int) ≤ 1 ∧ (1 : Int) ≤ 16777216 := by omega
  by_cases hq1 : (1048576 : Int) < (q1.length : Int)
  · unfold maxLen at *
    go_enter Try.func10, Try.ntmps10
    go_wp2
    go_ret
    exact ⟨rfl, by go_grown⟩
  have hn1 : q1.length ≤ 1048576 := by omega
  obtain ⟨⟨rq, rm, rok⟩, hres⟩ : ∃ r, resCircleParty i0 q1 = r := ⟨_, rfl⟩
  have hrn : rm.length ≤ 1048576 := by have h := resCircleParty_len i0 q1; rw [hres] at h; exact h
  have hrl : rm.length ≤ maxLen := by unfold maxLen; omega
  have Hres := Lib.hid hres
  clear hres
  go_enter Try.func10, Try.ntmps10
  go_wp2_with fail
  refine (toIntS_got q1 A1 c1 _ hn1 hA1).mono ?_
  rintro e w1 ⟨T1, d1, rfl, n1, hb1⟩
  have g1 : Below W.heap.size W w1 := hb1
  have s1 := hb1.size
  have k1 : Below W.heap.size W w1 := g1
  have r1 : Lies (.slice T1 q1.length d1) (W.heap.size) w1.heap.size := own_lies n1
  go_wp2_with fail
  refine (specCircleParty_any i0 q1 _ _ _ hn1 (CRead.of_own n1)).mono ?_
  rw [Hres.out]
  rintro e w2 ⟨T2, d2, rfl, n2, hb2⟩
  have g2 : Below w1.heap.size w1 w2 := hb2
  have s2 := hb2.size
  have o2_0 := own_below n1 g2 (Nat.le_refl _)
  have k2 := k1.trans (g2.mono k1.size)
  clear n1
  have r2 : Lies (.slice T2 rm.length d2) (w1.heap.size) w2.heap.size := own_lies n2
  clear o2_0 r1
  go_wp2_with fail
  refine (toIntS_got q1 A1 c1 _ hn1 ((hA1.below (B' := W.heap.size) (Below.trans k2 (by go_grown)) (Nat.le_refl _)).more (by go_size))).mono ?_
  rintro e w4 ⟨T4, d4, rfl, n4, hb4⟩
  simp only [World.size_alloc] at n4
  simp only [World.size_alloc] at hb4
  have g4 : Below w2.heap.size w2 w4 := Below.trans (b := _) (by go_grown) (hb4.mono (by omega))
  have s4 := hb4.size
  simp only [World.size_alloc] at s4
  have f4_0 : w4.cell? ⟨w2.heap.size, 0, none⟩ = some (.int .i64 rq) := carry hb4 (by simp) (by omega)
  have f4_1 : w4.cell? ⟨w2.heap.size, 1, none⟩ = some (.slice T2 rm.length d2) := carry hb4 (by simp) (by omega)
  have o4_0 := own_below n2 g4 (Nat.le_refl _)
  have k4 := k2.trans (g4.mono k2.size)
  clear n2
  have r4 : Lies (.slice T4 q1.length d4) (w2.heap.size + 1) w4.heap.size := own_lies n4
  go_wp2_with fail
  refine (implCircleParty_any i0 q1 _ _ _ hn1 (CRead.of_own n4)).mono ?_
  rw [Hres.out]
  rintro e w5 ⟨T5, d5, rfl, n5, hb5⟩
  have g5 : Below w4.heap.size w4 w5 := hb5
  have s5 := hb5.size
  have f5_0 := carry g5 f4_0 (by omega)
  have f5_1 := carry g5 f4_1 (by omega)
  have o5_0 := own_below o4_0 g5 (Nat.le_refl _)
  have o5_1 := own_below n4 g5 (Nat.le_refl _)
  have k5 := k4.trans (g5.mono k4.size)
  clear f4_0 f4_1 o4_0 n4
  have r5 : Lies (.slice T5 rm.length d5) (w4.heap.size) w5.heap.size := own_lies n5
  have q6_0 : (w5.alloc (Obj.cells #[.int .i64 rq, .slice T5 rm.length d5] 31)).cell? ⟨w2.heap.size, 0, none⟩ = some (.int .i64 rq) := (World.cell?_alloc_lt _ _ _ (show w2.heap.size < w5.heap.size by omega)).trans f5_0
  have q6_1 : (w5.alloc (Obj.cells #[.int .i64 rq, .slice T5 rm.length d5] 31)).cell? ⟨w2.heap.size, 1, none⟩ = some (.slice T2 rm.length d2) := (World.cell?_alloc_lt _ _ _ (show w2.heap.size < w5.heap.size by omega)).trans f5_1
  go_wp2_with fail
  refine (eqParty_any rq rq rm rm _ _ _ _ _ hrl hrl ((((CRead.of_own n5).below (B' := w5.heap.size) (by go_grown) (Nat.le_refl _)).more (by go_size))) ((((CRead.of_own o5_0).below (B' := w5.heap.size) (by go_grown) (Nat.le_refl _)).more (by go_size)))).mono ?_
  rw [decide_eq_true ⟨rfl, rfl⟩]
  rintro e w7 ⟨rfl, hb7⟩
  simp only [World.size_alloc] at hb7
  have g7 : Below w5.heap.size w5 w7 := Below.trans (b := _) (by go_grown) (hb7.mono (by omega))
  have s7 := hb7.size
  simp only [World.size_alloc] at s7
  have f7_0 := carry g7 f5_0 (by omega)
  have f7_1 := carry g7 f5_1 (by omega)
  have f7_2 : w7.cell? ⟨w5.heap.size, 0, none⟩ = some (.int .i64 rq) := carry hb7 (by simp) (by omega)
  have f7_3 : w7.cell? ⟨w5.heap.size, 1, none⟩ = some (.slice T5 rm.length d5) := carry hb7 (by simp) (by omega)
  have o7_0 := own_below o5_0 g7 (Nat.le_refl _)
  have o7_1 := own_below o5_1 g7 (Nat.le_refl _)
  have o7_2 := own_below n5 g7 (Nat.le_refl _)
  have k7 := k5.trans (g7.mono k5.size)
  clear f5_0 f5_1 o5_0 o5_1 n5 q6_0 q6_1
  go_wp2_with fail
  refine (toIntS_got q1 A1 c1 _ hn1 ((hA1.below k7 (Nat.le_refl _)).more k7.size)).mono ?_
  rintro e w8 ⟨T8, d8, rfl, n8, hb8⟩
  have g8 : Below w7.heap.size w7 w8 := hb8
  have s8 := hb8.size
  have f8_0 := carry g8 f7_0 (by omega)
  have f8_1 := carry g8 f7_1 (by omega)
  have f8_2 := carry g8 f7_2 (by omega)
  have f8_3 := carry g8 f7_3 (by omega)
  have o8_0 := own_below o7_0 g8 (Nat.le_refl _)
  have o8_1 := own_below o7_1 g8 (Nat.le_refl _)
  have o8_2 := own_below o7_2 g8 (Nat.le_refl _)
  have k8 := k7.trans (g8.mono k7.size)
  clear f7_0 f7_1 f7_2 f7_3 o7_0 o7_1 o7_2
  have r8 : Lies (.slice T8 q1.length d8) (w7.heap.size) w8.heap.size := own_lies n8
  go_wp2_with fail
  refine (eqIntS_any q1 q1 _ _ _ _ _ hl1 hl1 (CRead.of_own o8_1) (CRead.of_own n8)).mono ?_
  rw [decide_eq_true rfl]
  rintro e w9 ⟨rfl, hb9⟩
  have g9 : Below w8.heap.size w8 w9 := hb9
  have s9 := hb9.size
  have f9_0 := carry g9 f8_0 (by omega)
  have f9_1 := carry g9 f8_1 (by omega)
  have f9_2 := carry g9 f8_2 (by omega)
  have f9_3 := carry g9 f8_3 (by omega)
  have o9_0 := own_below o8_0 g9 (Nat.le_refl _)
  have o9_1 := own_below o8_1 g9 (Nat.le_refl _)
  have o9_2 := own_below o8_2 g9 (Nat.le_refl _)
  have o9_3 := own_below n8 g9 (Nat.le_refl _)
  have k9 := k8.trans (g9.mono k8.size)
  clear f8_0 f8_1 f8_2 f8_3 o8_0 o8_1 o8_2 n8
  clear o9_3 r8
  go_wp2_with fail
  refine (markIntS_any q1 _ _ _ (1) _ _ rfl hn1 (by omega) o9_1).mono ?_
  rintro e w10 ⟨rfl, n10, hg10⟩
  have s10 := hg10.size
  have f10_0 := carryG hg10 r4 f9_0 (by omega)
  have f10_1 := carryG hg10 r4 f9_1 (by omega)
  have f10_2 := carryG hg10 r4 f9_2 (by omega)
  have f10_3 := carryG hg10 r4 f9_3 (by omega)
  have o10_0 := keptG hg10 r4 o9_0 r2 (by omega)
  have o10_2 := keptG hg10 r4 o9_2 r5 (by omega)
  have k10 := belowG k9 hg10 r4 k9.size (by omega)
  clear f9_0 f9_1 f9_2 f9_3 o9_0 o9_1 o9_2
  have hmk : ¬ (1 + (q1.length : Int) < 0) := by omega
  go_wp2_with fail
  refine (eqParty_any rq rq rm rm _ _ _ _ _ hrl hrl (CRead.of_own o10_2) (CRead.of_own o10_0)).mono ?_
  rw [decide_eq_true ⟨rfl, rfl⟩]
  rintro e w11 ⟨rfl, hb11⟩
  have g11 : Below w10.heap.size w10 w11 := hb11
  have s11 := hb11.size
  have f11_0 := carry g11 f10_0 (by omega)
  have f11_1 := carry g11 f10_1 (by omega)
  have f11_2 := carry g11 f10_2 (by omega)
  have f11_3 := carry g11 f10_3 (by omega)
  have o11_0 := own_below o10_0 g11 (Nat.le_refl _)
  have o11_1 := own_below n10 g11 (Nat.le_refl _)
  have o11_2 := own_below o10_2 g11 (Nat.le_refl _)
  have k11 := k10.trans (g11.mono k10.size)
  clear f10_0 f10_1 f10_2 f10_3 o10_0 n10 o10_2
  clear o11_1 r4
  go_wp2_with fail
  refine (markParty_any rq rm _ _ _ 1 _ _ rfl hrn hone o11_2).mono ?_
  rintro e w12 ⟨rfl, n12, hg12⟩
  have s12 := hg12.size
  have f12_0 := carryG hg12 r5 f11_0 (by omega)
  have f12_1 := carryG hg12 r5 f11_1 (by omega)
  have f12_2 := carryG hg12 r5 f11_2 (by omega)
  have f12_3 := carryG hg12 r5 f11_3 (by omega)
  have o12_0 := keptG hg12 r5 o11_0 r2 (by omega)
  have k12 := belowG k11 hg12 r5 k11.size (by omega)
  clear f11_0 f11_1 f11_2 f11_3 o11_0 o11_2
  have hmr : ¬ (1 + 2 * (rm.length : Int) < 0) := by omega
  go_wp2_with fail
  refine (heldParty_any _ _ _ _ 1 _ hrn hone (CRead.of_own n12)).mono ?_
  rintro e w13 ⟨rfl, hb13⟩
  have g13 : Below w12.heap.size w12 w13 := hb13
  have s13 := hb13.size
  have f13_0 := carry g13 f12_0 (by omega)
  have f13_1 := carry g13 f12_1 (by omega)
  have f13_2 := carry g13 f12_2 (by omega)
  have f13_3 := carry g13 f12_3 (by omega)
  have o13_0 := own_below o12_0 g13 (Nat.le_refl _)
  have o13_1 := own_below n12 g13 (Nat.le_refl _)
  have k13 := k12.trans (g13.mono k12.size)
  clear f12_0 f12_1 f12_2 f12_3 o12_0 n12
  go_wp2_with fail
  refine (toIntS_got q1 A1 c1 _ hn1 ((hA1.below k13 (Nat.le_refl _)).more k13.size)).mono ?_
  rintro e w14 ⟨T14, d14, rfl, n14, hb14⟩
  have g14 : Below w13.heap.size w13 w14 := hb14
  have s14 := hb14.size
  have f14_0 := carry g14 f13_0 (by omega)
  have f14_1 := carry g14 f13_1 (by omega)
  have f14_2 := carry g14 f13_2 (by omega)
  have f14_3 := carry g14 f13_3 (by omega)
  have o14_0 := own_below o13_0 g14 (Nat.le_refl _)
  have o14_1 := own_below o13_1 g14 (Nat.le_refl _)
  have k14 := k13.trans (g14.mono k13.size)
  clear f13_0 f13_1 f13_2 f13_3 o13_0 o13_1
  have r14 : Lies (.slice T14 q1.length d14) (w13.heap.size) w14.heap.size := own_lies n14
  go_wp2_with fail
  refine (implCircleParty_any i0 q1 _ _ _ hn1 (CRead.of_own n14)).mono ?_
  rw [Hres.out]
  rintro e w15 ⟨T15, d15, rfl, n15, hb15⟩
  have g15 : Below w14.heap.size w14 w15 := hb15
  have s15 := hb15.size
  have f15_0 := carry g15 f14_0 (by omega)
  have f15_1 := carry g15 f14_1 (by omega)
  have f15_2 := carry g15 f14_2 (by omega)
  have f15_3 := carry g15 f14_3 (by omega)
  have o15_0 := own_below o14_0 g15 (Nat.le_refl _)
  have o15_1 := own_below o14_1 g15 (Nat.le_refl _)
  have o15_2 := own_below n14 g15 (Nat.le_refl _)
  have k15 := k14.trans (g15.mono k14.size)
  clear f14_0 f14_1 f14_2 f14_3 o14_0 o14_1 n14
  have r15 : Lies (.slice T15 rm.length d15) (w14.heap.size) w15.heap.size := own_lies n15
  have q16_0 : (w15.alloc (Obj.cells #[.int .i64 rq, .slice T15 rm.length d15] 31)).cell? ⟨w2.heap.size, 0, none⟩ = some (.int .i64 rq) := (World.cell?_alloc_lt _ _ _ (show w2.heap.size < w15.heap.size by omega)).trans f15_0
  have q16_1 : (w15.alloc (Obj.cells #[.int .i64 rq, .slice T15 rm.length d15] 31)).cell? ⟨w2.heap.size, 1, none⟩ = some (.slice T2 rm.length d2) := (World.cell?_alloc_lt _ _ _ (show w2.heap.size < w15.heap.size by omega)).trans f15_1
  have q16_2 : (w15.alloc (Obj.cells #[.int .i64 rq, .slice T15 rm.length d15] 31)).cell? ⟨w5.heap.size, 0, none⟩ = some (.int .i64 rq) := (World.cell?_alloc_lt _ _ _ (show w5.heap.size < w15.heap.size by omega)).trans f15_2
  have q16_3 : (w15.alloc (Obj.cells #[.int .i64 rq, .slice T15 rm.length d15] 31)).cell? ⟨w5.heap.size, 1, none⟩ = some (.slice T5 rm.length d5) := (World.cell?_alloc_lt _ _ _ (show w5.heap.size < w15.heap.size by omega)).trans f15_3
  clear o15_2 r14
  go_wp2_with fail
  refine (eqParty_any rq rq rm rm _ _ _ _ _ hrl hrl ((((CRead.of_own n15).below (B' := w15.heap.size) (by go_grown) (Nat.le_refl _)).more (by go_size))) ((((CRead.of_own o15_0).below (B' := w15.heap.size) (by go_grown) (Nat.le_refl _)).more (by go_size)))).mono ?_
  rw [decide_eq_true ⟨rfl, rfl⟩]
  rintro e w17 ⟨rfl, hb17⟩
  simp only [World.size_alloc] at hb17
  have g17 : Below w15.heap.size w15 w17 := Below.trans (b := _) (by go_grown) (hb17.mono (by omega))
  have s17 := hb17.size
  simp only [World.size_alloc] at s17
  have f17_0 := carry g17 f15_0 (by omega)
  have f17_1 := carry g17 f15_1 (by omega)
  have f17_2 := carry g17 f15_2 (by omega)
  have f17_3 := carry g17 f15_3 (by omega)
  have f17_4 : w17.cell? ⟨w15.heap.size, 0, none⟩ = some (.int .i64 rq) := carry hb17 (by simp) (by omega)
  have f17_5 : w17.cell? ⟨w15.heap.size, 1, none⟩ = some (.slice T15 rm.length d15) := carry hb17 (by simp) (by omega)
  have o17_0 := own_below o15_0 g17 (Nat.le_refl _)
  have o17_1 := own_below o15_1 g17 (Nat.le_refl _)
  have o17_2 := own_below n15 g17 (Nat.le_refl _)
  have k17 := k15.trans (g17.mono k15.size)
  clear f15_0 f15_1 f15_2 f15_3 o15_0 o15_1 n15 q16_0 q16_1 q16_2 q16_3
  go_wp2_with fail
  refine (heldParty_any _ _ _ _ 1 _ hrn hone (CRead.of_own o17_1)).mono ?_
  rintro e w18 ⟨rfl, hb18⟩
  have g18 : Below w17.heap.size w17 w18 := hb18
  have s18 := hb18.size
  have f18_0 := carry g18 f17_0 (by omega)
  have f18_1 := carry g18 f17_1 (by omega)
  have f18_2 := carry g18 f17_2 (by omega)
  have f18_3 := carry g18 f17_3 (by omega)
  have f18_4 := carry g18 f17_4 (by omega)
  have f18_5 := carry g18 f17_5 (by omega)
  have o18_0 := own_below o17_0 g18 (Nat.le_refl _)
  have o18_1 := own_below o17_1 g18 (Nat.le_refl _)
  have o18_2 := own_below o17_2 g18 (Nat.le_refl _)
  have k18 := k17.trans (g18.mono k17.size)
  clear f17_0 f17_1 f17_2 f17_3 f17_4 f17_5 o17_0 o17_1 o17_2
  go_wp2
  go_ret
  exact ⟨rfl, k18⟩
end Go.Proofs.Ythpapkfpcijpoaa
/-
  THE PROGRAM's HEAD, LOOKED AT ONCE: which make it is, and that a call may enter it. (The head's text is long: the kernel must not read it twice.)
-/
namespace Go.Proofs.Ythpapkfpcijpoaa

theorem make_of {P : Program} {rest : List (List Char)} (h : behindMainWord (wordsSigns P.initOrder.toList) = "cut".toList :: rest) : P.make = some .cut := by
  unfold Program.make
  rw [h]
  rfl
theorem strip_cut (rest : List (List Char)) : stripLifts liftWords ("cut".toList :: rest) = ([], "cut".toList :: rest) := rfl
theorem lifts_of {P : Program} {rest : List (List Char)} (h : behindMainWord (wordsSigns P.initOrder.toList) = "cut".toList :: rest) : P.headLifts = [] := by
  unfold Program.headLifts
  rw [h, strip_cut]
  rfl
theorem final_of {P : Program} {rest : List (List Char)} (h : behindMainWord (wordsSigns P.initOrder.toList) = "cut".toList :: rest) : P.liftsFinal = false := by
  unfold Program.liftsFinal
  rw [lifts_of h, h]
  rfl
theorem enter_of {P : Program} {rest : List (List Char)} (h : behindMainWord (wordsSigns P.initOrder.toList) = "cut".toList :: rest) (h1 : P.laysLater = false) (h2 : P.bearsReflect = false) (h3 : P.doorFits [] = true) : P.mayEnter = true := by
  unfold Program.mayEnter
  rw [h]
  show (_ || _ || _) = true
  rw [strip_cut, h1, h2, h3]
  rfl
end Go.Proofs.Ythpapkfpcijpoaa
/-
  THE PROGRAM's CLOSED FACTS, EACH ONCE; and how a row's facts are put together out of them.
-/
namespace Go.Proofs.Ythpapkfpcijpoaa
open Go.ChangeShapes Go.WideShapes Go.ChangeAt Go.RowKit

def headSigns : List Char := ([104, 97, 114, 110, 101, 115, 115, 32, 52, 101, 57, 49, 97, 50, 49, 55, 98, 99, 56, 49, 48, 49, 57, 55, 99, 98, 54, 48, 98, 51, 50, 53, 53, 55, 99, 100, 51, 57, 53, 50, 48, 54, 98, 49, 54, 102, 57, 51, 99, 101, 50, 56, 56, 101, 49, 97, 50, 100, 101, 49, 101, 98, 56, 97, 100, 53, 49, 54, 102, 56, 99, 101, 32, 99, 117, 116, 32, 97, 116, 32, 108, 111, 111, 112, 46, 101, 120, 97, 109, 112, 108, 101, 47, 103, 48, 49, 50, 53, 55, 47, 108, 97, 119, 115, 46, 70, 110, 69, 120, 97, 99, 116, 67, 111, 109, 109, 111, 110, 84, 97, 98, 108, 101, 32, 108, 111, 111, 112, 46, 101, 120, 97, 109, 112, 108, 101, 47, 103, 48, 49, 50, 53, 55, 47, 108, 97, 119, 115, 46, 70, 110, 69, 120, 97, 99, 116, 73, 115, 70, 114, 105, 101, 110, 100, 108, 121, 32, 108, 111, 111, 112, 46, 101, 120, 97, 109, 112, 108, 101, 47, 103, 48, 49, 50, 53, 55, 47, 108, 97, 119, 115, 46, 70, 110, 69, 120, 97, 99, 116, 87, 105, 110, 100, 109, 105, 108, 108, 80, 97, 114, 116, 121, 32, 108, 111, 111, 112, 46, 101, 120, 97, 109, 112, 108, 101, 47, 103, 48, 49, 50, 53, 55, 47, 108, 97, 119, 115, 46, 70, 110, 69, 120, 97, 99, 116, 73, 115, 87, 105, 110, 100, 109, 105, 108, 108, 32, 108, 111, 111, 112, 46, 101, 120, 97, 109, 112, 108, 101, 47, 103, 48, 49, 50, 53, 55, 47, 108, 97, 119, 115, 46, 70, 110, 69, 120, 97, 99, 116, 80, 111, 108, 105, 116, 105, 99, 105, 97, 110, 79, 102, 32, 108, 111, 111, 112, 46, 101, 120, 97, 109, 112, 108, 101, 47, 103, 48, 49, 50, 53, 55, 47, 108, 97, 119, 115, 46, 70, 110, 69, 120, 97, 99, 116, 69, 113, 117, 97, 108, 78, 117, 109, 98, 101, 114, 32, 108, 111, 111, 112, 46, 101, 120, 97, 109, 112, 108, 101, 47, 103, 48, 49, 50, 53, 55, 47, 108, 97, 119, 115, 46, 70, 110, 69, 120, 97, 99, 116, 83, 116, 114, 111, 110, 103, 78, 117, 109, 98, 101, 114, 115, 32, 108, 111, 111, 112, 46, 101, 120, 97, 109, 112, 108, 101, 47, 103, 48, 49, 50, 53, 55, 47, 108, 97, 119, 115, 46, 70, 110, 69, 120, 97, 99, 116, 67, 105, 114, 99, 108, 101, 80, 97, 114, 116, 121, 32, 108, 111, 111, 112, 46, 101, 120, 97, 109, 112, 108, 101, 47, 103, 48, 49, 50, 53, 55, 47, 108, 97, 119, 115, 46, 70, 110, 69, 120, 97, 99, 116, 80, 97, 105, 114, 80, 97, 114, 116, 121, 32, 108, 111, 111, 112, 46, 101, 120, 97, 109, 112, 108, 101, 47, 103, 48, 49, 50, 53, 55, 47, 108, 97, 119, 115, 46, 70, 110, 69, 120, 97, 99, 116, 76, 105, 110, 101, 115, 79, 102, 32, 108, 111, 111, 112, 46, 101, 120, 97, 109, 112, 108, 101, 47, 103, 48, 49, 50, 53, 55, 47, 108, 97, 119, 115, 46, 70, 110, 69, 120, 97, 99, 116, 77, 111, 115, 116, 80, 101, 111, 112, 108, 101] : List Nat).map Char.ofNat
set_option maxRecDepth 100000 in
theorem Try.initOrder_is : Try.prog.initOrder = String.ofList headSigns := by kernel_rfl
theorem Try.initOrder_signs : Try.prog.initOrder.toList = headSigns := by rw [Try.initOrder_is]; exact String.toList_ofList
set_option maxRecDepth 100000 in
theorem head_words : (behindMainWord (wordsSigns headSigns)).take 1 = ["cut".toList] := by kernel_rfl
theorem Try.words : ∃ rest, behindMainWord (wordsSigns Try.prog.initOrder.toList) = "cut".toList :: rest := by
  rw [Try.initOrder_signs]
  have h := List.take_append_drop 1 (behindMainWord (wordsSigns headSigns))
  rw [head_words] at h
  exact ⟨_, h.symm⟩
theorem Try.make : Try.prog.make = some .cut := by obtain ⟨_, h⟩ := Try.words; exact make_of h
theorem Try.liftsFinal : Try.prog.liftsFinal = false := by obtain ⟨_, h⟩ := Try.words; exact final_of h
theorem Try.laysLater : Try.prog.laysLater = false := by kernel_rfl
theorem Try.bearsReflect : Try.prog.bearsReflect = false := by kernel_rfl
theorem Try.doorFits : Try.prog.doorFits [] = true := by kernel_rfl
theorem Try.mayEnter : Try.prog.mayEnter = true := by obtain ⟨_, h⟩ := Try.words; exact enter_of h Try.laysLater Try.bearsReflect Try.doorFits
theorem Try.mapsRowed : mapsRowed Try.prog = true := by kernel_rfl
theorem Try.stops : (Try.prog.stops == []) = true := by kernel_rfl
theorem Try.stopKnobs : (Try.prog.stopKnobs == []) = true := by kernel_rfl
theorem Try.plainKeys : Try.prog.plainKeys = true := by kernel_rfl
theorem Try.stopsHeard : Try.prog.stopsHeard = true := by kernel_rfl

/-- What the types of one law give: closed facts on its parameters and its result. -/
def typeFacts (P : Program) (fn : Func) (s : ChangeSpec) (c : OpenClaim) : Bool :=
  fn.params.all (P.readableRec ·) && namedTie P c.named s.vars && (c.stops == []) && (c.knobs == []) &&
  (c.maps == (fn.params.toList ++ s.plain.varTypes P).any (P.mapsRec ·)) && (c.ifaces == (fn.params.toList ++ s.plain.varTypes P).any (P.ifacesRec ·)) && (c.mapsOut == P.mapsAmong fn.resultTypes.toList) &&
  (c.loops == (fn.params.toList ++ s.plain.varTypes P).any (P.loopsFrom ·)) && (c.wideKeys == (fn.params.toList ++ s.plain.varTypes P ++ fn.resultTypes.toList).any (P.wideKeysFrom ·)) &&
  s.vars.all (P.varReadable ·) && fn.resultTypes.all (fun t => P.readableRec t && decide (t < P.types.size)) && (c.ifacesOut == fn.resultTypes.toList.any (P.ifacesRec ·)) && (c.loopsOut == fn.resultTypes.toList.any (P.loopsFrom ·)) && c.shortTexts.isNone &&
  (c.kinds == (if c.domain.isEmpty then [] else fn.params.toList.map fun t => match P.underlying t with | some (.int k) => some k | _ => none)) && (c.pinned == c.pinnedBy) &&
  (c.veiled == (fn.params.toList ++ s.plain.varTypes P ++ fn.resultTypes.toList).any (P.veiledRec ·)) && c.veiledFits P fn.params.toList (fn.params.toList ++ s.plain.varTypes P ++ fn.resultTypes.toList)
theorem joined_all {P : Program} {f : FuncId} {fn : Func} {s : ChangeSpec} {c : OpenClaim} (k1 : c.wf (OpenSpec.ofChange s) = true) (kt : typeFacts P fn s c = true)
    (k10 : (c.inPlace == P.inPlace f) = true) (k11 : (c.unfollowed == P.unfollowed f) = true) (k12 : (c.recurses == P.recurses f) = true) (k13 : (c.named == P.varsNamed f) = true)
    (e2 : laidOutB P = true) (e3 : mapsRowed P = true) (e7 : (P.stops == []) = true) (e9 : (P.stopKnobs == []) = true) (e22 : (c.plainKeys == P.plainKeys) = true) (e23 : P.stopsHeard = true) (e24 : P.mayEnter = true)
    (e24b : (c.lifted == P.liftsFinal) = true) (e24c : (P.make == some c.make) = true) : joinedFacts P f fn s c = true := by
  unfold typeFacts at kt
  unfold joinedFacts
  simp only [Bool.and_eq_true] at kt ⊢
  obtain ⟨⟨⟨⟨⟨⟨⟨⟨⟨⟨⟨⟨⟨⟨⟨⟨⟨t1, t2⟩, t3⟩, t4⟩, t5⟩, t6⟩, t7⟩, t8⟩, t9⟩, t10⟩, t11⟩, t12⟩, t13⟩, t14⟩, t15⟩, t16⟩, t17⟩, t18⟩ := kt
  exact ⟨⟨⟨⟨⟨⟨⟨⟨⟨⟨⟨⟨⟨⟨⟨⟨⟨⟨⟨⟨⟨⟨⟨⟨⟨⟨⟨⟨⟨⟨⟨k1, e2⟩, e3⟩, t1⟩, t2⟩, t3⟩, e7⟩, t4⟩, e9⟩, k10⟩, k11⟩, k12⟩, k13⟩, t5⟩, t6⟩, t7⟩, t8⟩, t9⟩, t10⟩, t11⟩, t12⟩, t13⟩, e22⟩, t14⟩, e23⟩, e24⟩, e24b⟩, e24c⟩, t15⟩, t16⟩, t17⟩, t18⟩
theorem joined_of {f : FuncId} {fn : Func} {s : ChangeSpec} {c : OpenClaim} (k1 : c.wf (OpenSpec.ofChange s) = true) (kt : typeFacts Try.prog fn s c = true)
    (k10 : (c.inPlace == Try.prog.inPlace f) = true) (k11 : (c.unfollowed == Try.prog.unfollowed f) = true) (k12 : (c.recurses == Try.prog.recurses f) = true) (k13 : (c.named == Try.prog.varsNamed f) = true)
    (k22 : c.plainKeys = true) (k24b : c.lifted = false) (k24c : c.make = .cut) : joinedFacts Try.prog f fn s c = true :=
  joined_all k1 kt k10 k11 k12 k13 Try.laidOut Try.mapsRowed Try.stops Try.stopKnobs (by rw [k22, Try.plainKeys]; rfl) Try.stopsHeard Try.mayEnter (by rw [k24b, Try.liftsFinal]; rfl) (by rw [k24c, Try.make]; rfl)
end Go.Proofs.Ythpapkfpcijpoaa
