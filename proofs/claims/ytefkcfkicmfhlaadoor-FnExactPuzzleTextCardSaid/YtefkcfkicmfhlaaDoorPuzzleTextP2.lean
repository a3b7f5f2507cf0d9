/-
  Texts put together for the claims of 'PuzzleText' (pack 2): Good, Cmp, Got, Clue, ClueP, PuzT, ClueS.
-/
import Derived.Test.YtefkcfkicmfhlaaDoorPuzzleTextP1
import Derived.StillTailTactics
import Derived.Deep.RegionWith
import Derived.BigQuiet
/-
  WHAT A PARTY IS: the reference model's look and the program's, by their contracts: both answer 'isP'.
-/
namespace Go.Proofs.YtefkcfkicmfhlaaDoor
open Go.RowKit

def l1InB (n lo hi : Int) : Bool := decide (lo ≤ n ∧ n ≤ hi)
set_option maxHeartbeats 400000 in
theorem l1In_any (n lo hi : Int) (w : World) : Calls Tryd.prog 91 #[.int .i64 n, .int .i64 lo, .int .i64 hi] w fun e w' => e = .returned (.bool (l1InB n lo hi)) ∧ w = w' := by
  by_cases h1 : lo ≤ n
  · by_cases h2 : n ≤ hi
    · have e : l1InB n lo hi = true := decide_eq_true ⟨h1, h2⟩
      rw [e]
      clear e
      go_enter Tryd.func91, Tryd.ntmps91
      go_wp2
      go_ret
      exact ⟨rfl, rfl⟩
    · have e : l1InB n lo hi = false := decide_eq_false (by omega)
      rw [e]
      clear e
      go_enter Tryd.func91, Tryd.ntmps91
      go_wp2
      go_ret
      exact ⟨rfl, rfl⟩
  · have e : l1InB n lo hi = false := decide_eq_false (by omega)
    rw [e]
    clear e
    go_enter Tryd.func91, Tryd.ntmps91
    go_wp2
    go_ret
    exact ⟨rfl, rfl⟩
theorem l1In_yes (n lo hi : Int) (h : lo ≤ n) (h' : n ≤ hi) (w : World) : Calls Tryd.prog 91 #[.int .i64 n, .int .i64 lo, .int .i64 hi] w fun e w' => e = .returned (.bool true) ∧ w = w' :=
  (l1In_any n lo hi w).mono fun _ _ hh => by rwa [show l1InB n lo hi = true from decide_eq_true ⟨h, h'⟩] at hh
theorem l1In_no (n lo hi : Int) (h : n < lo ∨ hi < n) (w : World) : Calls Tryd.prog 91 #[.int .i64 n, .int .i64 lo, .int .i64 hi] w fun e w' => e = .returned (.bool false) ∧ w = w' :=
  (l1In_any n lo hi w).mono fun _ _ hh => by rwa [show l1InB n lo hi = false from decide_eq_false (by omega)] at hh

set_option maxHeartbeats 400000 in
theorem paPeople_any (n : Int) (w : World) : Calls Tryd.prog 107 #[.int .i64 n] w fun e w' => e = .returned (.bool (l1InB n 0 12)) ∧ w = w' := by
  go_enter Tryd.func107, Tryd.ntmps107
  go_wp2_with (go_at_call 91; refine (l1In_any _ _ _ _).mono ?_; rintro e w' ⟨rfl, rfl⟩)
  go_ret
  exact ⟨rfl, rfl⟩
theorem paPeople_yes (n : Int) (h : 0 ≤ n) (h' : n ≤ 12) (w : World) : Calls Tryd.prog 107 #[.int .i64 n] w fun e w' => e = .returned (.bool true) ∧ w = w' :=
  (paPeople_any n w).mono fun _ _ hh => by rwa [show l1InB n 0 12 = true from decide_eq_true ⟨h, h'⟩] at hh
theorem paPeople_no (n : Int) (h : n < 0 ∨ 12 < n) (w : World) : Calls Tryd.prog 107 #[.int .i64 n] w fun e w' => e = .returned (.bool false) ∧ w = w' :=
  (paPeople_any n w).mono fun _ _ hh => by rwa [show l1InB n 0 12 = false from decide_eq_false (by omega)] at hh

set_option maxHeartbeats 400000 in
theorem paLess_any (a b c d : Int) (w : World) :
    Calls Tryd.prog 108 #[.agg #[.int .i64 a, .int .i64 b], .agg #[.int .i64 c, .int .i64 d]] w fun e w' => e = .returned (.bool (pairLess (a, b) (c, d))) ∧ Below w.heap.size w w' := by
  by_cases h1 : a < c
  · have e : pairLess (a, b) (c, d) = true := decide_eq_true (.inl h1)
    rw [e]
    clear e
    go_enter Tryd.func108, Tryd.ntmps108
    go_wp2
    go_ret
    exact ⟨rfl, by go_grown⟩
  · by_cases h2 : a = c
    · subst h2
      by_cases h3 : b < d
      · have e : pairLess (a, b) (a, d) = true := decide_eq_true (.inr ⟨rfl, h3⟩)
        rw [e]
        clear e
        go_enter Tryd.func108, Tryd.ntmps108
        go_wp2
        go_ret
        exact ⟨rfl, by go_grown⟩
      · have e : pairLess (a, b) (a, d) = false := decide_eq_false (by simp; omega)
        rw [e]
        clear e
        go_enter Tryd.func108, Tryd.ntmps108
        go_wp2
        go_ret
        exact ⟨rfl, by go_grown⟩
    · have e : pairLess (a, b) (c, d) = false := decide_eq_false (by simp; omega)
      rw [e]
      clear e
      go_enter Tryd.func108, Tryd.ntmps108
      go_wp2
      go_ret
      exact ⟨rfl, by go_grown⟩
theorem paLess_yes (a b c d : Int) (h : a < c ∨ a = c ∧ b < d) (w : World) :
    Calls Tryd.prog 108 #[.agg #[.int .i64 a, .int .i64 b], .agg #[.int .i64 c, .int .i64 d]] w fun e w' => e = .returned (.bool true) ∧ Below w.heap.size w w' :=
  (paLess_any a b c d w).mono fun _ _ hh => by rwa [show pairLess (a, b) (c, d) = true from decide_eq_true h] at hh
theorem paLess_no (a b c d : Int) (h : ¬ (a < c ∨ a = c ∧ b < d)) (w : World) :
    Calls Tryd.prog 108 #[.agg #[.int .i64 a, .int .i64 b], .agg #[.int .i64 c, .int .i64 d]] w fun e w' => e = .returned (.bool false) ∧ Below w.heap.size w w' :=
  (paLess_any a b c d w).mono fun _ _ hh => by rwa [show pairLess (a, b) (c, d) = false from decide_eq_false h] at hh

set_option maxHeartbeats 1000000 in
theorem paGood_any (p : Int) (l : PL) (A : Option Addr) (c : Nat) (w : World) (hl : l.length ≤ 1048576) (hA : CRead w w.heap.size A (pcells l)) :
    Calls Tryd.prog 63 #[.agg #[.int .i64 p, .slice A l.length c]] w fun e w' => e = .returned (.bool (isP p l)) ∧ Below w.heap.size w w' := by
  by_cases hp : p < 0 ∨ 12 < p
  · rw [isP_out p l hp]
    go_enter Tryd.func63, Tryd.ntmps63
    go_wp2_with (go_at_call 107; refine (paPeople_no _ hp _).mono ?_; rintro e w' ⟨rfl, rfl⟩)
    go_ret
    exact ⟨rfl, by go_grown⟩
  · obtain ⟨q, hq⟩ : ∃ q, p * (p - 1) = q := ⟨_, rfl⟩
    have hq0 : 0 ≤ q ∧ q ≤ 132 := by rw [← hq]; exact people_sq (by omega) (by omega)
    have hp0 : 0 ≤ p := by omega
    have hp1 : p ≤ 12 := by omega
    obtain ⟨q0, q1⟩ := hq0
    by_cases hmany : q < 2 * (l.length : Int)
    · rw [isP_many (by rw [hq]; exact hmany)]
      have hm' : q / 2 < (l.length : Int) := by omega
      go_enter Tryd.func63, Tryd.ntmps63
      go_wp2_with (go_at_call 107; refine (paPeople_yes _ hp0 hp1 _).mono ?_; rintro e w' ⟨rfl, rfl⟩)
      go_ret
      exact ⟨rfl, by go_grown⟩
    · have hm' : ¬ (q / 2 < (l.length : Int)) := by omega
      generalize hn : l.length = n at *
      have Hn := Lib.hid hn
      clear hn
      go_enter Tryd.func63, Tryd.ntmps63
      go_wp2_with (go_at_call 107; refine (paPeople_yes _ hp0 hp1 _).mono ?_; rintro e w' ⟨rfl, rfl⟩)
      have hbw : Below (w.heap.size + 1) (w.alloc (Obj.cells #[.int .i64 p, .slice A n c] 34)) (w.alloc (Obj.cells #[.int .i64 p, .slice A n c] 34)) := Below.refl _ _
      go_loopw [25] (fun i wr => ∃ k : Nat, k ≤ n ∧ i = .int .i64 k ∧ (∀ j, j < k → goodAt p l j = true) ∧ Below (w.heap.size + 1) (w.alloc (Obj.cells #[.int .i64 p, .slice A n c] 34)) wr) (fun i _ => n - (intOf i).toNat)
      case atStart => exact ⟨0, Nat.zero_le _, rfl, fun j hj => by omega, hbw⟩
      case round =>
        obtain ⟨k, hk, rfl, hgood, hb⟩ := hrel
        have Hgood := Lib.hid hgood
        clear hgood hbw
        have hs := hb.size
        simp only [World.size_alloc] at hs
        have hbw : Below w.heap.size w wr := Below.trans (b := _) (by go_grown) (hb.mono (by omega))
        have u0 : wr.cell? ⟨w.heap.size, 0, none⟩ = some (.int .i64 p) := (hb.cell (p := ⟨w.heap.size, 0, none⟩) (by simp)).trans (by simp)
        have u1 : wr.cell? ⟨w.heap.size, 1, none⟩ = some (.slice A n c) := (hb.cell (p := ⟨w.heap.size, 1, none⟩) (by simp)).trans (by simp)
        by_cases hlt : k < n
        · obtain ⟨⟨x, y⟩, hx⟩ := getSome l k (by rw [Hn.out]; exact hlt)
          obtain ⟨b, off, rfl, hbb, c0, c1⟩ := (hA.below hbw (Nat.le_refl _)).pair hx
          have hki : (k : Int) < (n : Int) := by omega
          have Hx := Lib.hid hx
          clear hx
          have e0 : ∀ z : Ext (wr.heap.size + 1) (wr.alloc (.cells #[.int .i64 x, .int .i64 y] 98)), z.val.cell? ⟨wr.heap.size, 0, none⟩ = some (.int .i64 x) := fun z => z.cell (by simp) (by omega)
          have e1 : ∀ z : Ext (wr.heap.size + 1) (wr.alloc (.cells #[.int .i64 x, .int .i64 y] 98)), z.val.cell? ⟨wr.heap.size, 1, none⟩ = some (.int .i64 y) := fun z => z.cell (by simp) (by omega)
          have z0 : ∀ z : Ext (wr.heap.size + 1) (wr.alloc (.cells #[.int .i64 x, .int .i64 y] 98)), z.val.cell? ⟨w.heap.size, 0, none⟩ = some (.int .i64 p) := fun z => z.cell ((World.cell?_alloc_lt wr _ _ (by simp; omega)).trans u0) (by omega)
          have z1 : ∀ z : Ext (wr.heap.size + 1) (wr.alloc (.cells #[.int .i64 x, .int .i64 y] 98)), z.val.cell? ⟨w.heap.size, 1, none⟩ = some (.slice (some ⟨b, off, none⟩) n c) := fun z => z.cell ((World.cell?_alloc_lt wr _ _ (by simp; omega)).trans u1) (by omega)
          by_cases hA1 : x < 0 ∨ p - 1 < x
          · go_wp2
            refine wp_region_ext (wr.heap.size + 1) (by kernel_rfl) (by kernel_rfl) ?_
            repeat (go_big_quiet_step ((go_at_call 91; exact Calls.ext_of ((l1In_no _ _ _ hA1 _).mono fun _ _ h => ⟨h.1, h.2 ▸ Below.refl _ _⟩))))
            refine wpQuiet_nil ?_
            rintro w1 ⟨⟨_, hb1⟩, rfl⟩
            go_wp2
            go_ret
            refine ⟨?_, hbw.trans (Below.trans (b := _) ((Below.refl _ _).alloc (by omega) _) (hb1.mono (by omega)))⟩
            rw [isP_no p l (i := k) (by rw [Hn.out]; exact hlt) (goodAt_bad Hx.out (by omega))]
            rfl
          · by_cases hA2 : y < x + 1 ∨ p - 1 < y
            · go_wp2
              refine wp_region_ext (wr.heap.size + 1) (by kernel_rfl) (by kernel_rfl) ?_
              repeat (go_big_quiet_step ((first | (go_at_call_of 91 (Value.int IntKind.i64 x); exact Calls.ext_of ((l1In_yes _ _ _ (by omega) (by omega) _).mono fun _ _ h => ⟨h.1, h.2 ▸ Below.refl _ _⟩)) | (go_at_call_of 91 (Value.int IntKind.i64 y); exact Calls.ext_of ((l1In_no _ _ _ hA2 _).mono fun _ _ h => ⟨h.1, h.2 ▸ Below.refl _ _⟩)))))
              refine wpQuiet_nil ?_
              rintro w1 ⟨⟨_, hb1⟩, rfl⟩
              have hb2 : Below (wr.heap.size) wr w1 := Below.trans (b := _) ((Below.refl _ _).alloc (by omega) _) (hb1.mono (by omega))
              go_wp2
              go_ret
              refine ⟨?_, hbw.trans (hb2.mono (by omega))⟩
              rw [isP_no p l (i := k) (by rw [Hn.out]; exact hlt) (goodAt_bad Hx.out (by omega))]
              rfl
            · have hxy : 0 ≤ x ∧ x < y ∧ y < p := by omega
              have y0 : x + 1 ≤ y := by omega
              have y1 : y ≤ p - 1 := by omega
              have x0 : 0 ≤ x := by omega
              have x1 : x ≤ p - 1 := by omega
              by_cases hkz : k = 0
              · have hk0 : decide ((0 : Int) < (k : Int)) = false := by simp [hkz]
                have hk1 : decide (0 < k) = false := by simp [hkz]
                have Hkz := Lib.hid hkz
                clear hkz
                go_wp2
                refine wp_region_ext (wr.heap.size + 1) (by kernel_rfl) (by kernel_rfl) ?_
                repeat (go_big_quiet_step ((first | (go_at_call_of 91 (Value.int IntKind.i64 x); exact Calls.ext_of ((l1In_yes _ _ _ (by omega) (by omega) _).mono fun _ _ h => ⟨h.1, h.2 ▸ Below.refl _ _⟩)) | (go_at_call_of 91 (Value.int IntKind.i64 y); exact Calls.ext_of ((l1In_yes _ _ _ (by omega) (by omega) _).mono fun _ _ h => ⟨h.1, h.2 ▸ Below.refl _ _⟩)))))
                refine wpQuiet_nil ?_
                rintro w1 ⟨⟨_, hb1⟩, rfl⟩
                have hb2 : Below (wr.heap.size) wr w1 := Below.trans (b := _) ((Below.refl _ _).alloc (by omega) _) (hb1.mono (by omega))
                go_wp2
                go_roundw
                case rel =>
                  refine ⟨k + 1, by omega, by go_num, ?_, hb.trans (hb2.mono (by omega))⟩
                  intro j hj
                  rcases Nat.lt_succ_iff_lt_or_eq.1 hj with h | rfl
                  · exact Hgood.out j h
                  · exact goodAt_zero Hkz.out Hx.out hxy
                case measure => simp [intOf]; omega
              · obtain ⟨⟨x', y'⟩, hx'⟩ := getSome l (k - 1) (by rw [Hn.out]; omega)
                obtain ⟨b', off', e', _, c0', c1'⟩ := (hA.below hbw (Nat.le_refl _)).pair hx'
                simp only [Option.some.injEq, Addr.mk.injEq, and_true] at e'
                obtain ⟨rfl, rfl⟩ := e'
                have Hx' := Lib.hid hx'
                clear hx'
                have e2 : ∀ z : Ext (wr.heap.size + 1) (wr.alloc (.cells #[.int .i64 x, .int .i64 y] 98)), z.val.cell? ⟨b, off + (k - 1) * 2, none⟩ = some (.int .i64 x') := fun z => z.cell ((World.cell?_alloc_lt wr _ _ (by simp; omega)).trans c0') (by omega)
                have e3 : ∀ z : Ext (wr.heap.size + 1) (wr.alloc (.cells #[.int .i64 x, .int .i64 y] 98)), z.val.cell? ⟨b, off + (k - 1) * 2 + 1, none⟩ = some (.int .i64 y') := fun z => z.cell ((World.cell?_alloc_lt wr _ _ (by simp; omega)).trans c1') (by omega)
                have hk0 : (0 : Int) < (k : Int) := by omega
                have hk1 : decide ((0 : Int) < (k : Int)) = true := by simp; omega
                have hk2 : 0 < k := by omega
                have hk3 : (0 : Int) ≤ (k : Int) - 1 := by omega
                have hk4 : (k : Int) - 1 < (n : Int) := by omega
                clear hkz
                by_cases hA3 : x' < x ∨ x' = x ∧ y' < y
                · go_wp2
                  refine wp_region_ext (wr.heap.size + 1) (by kernel_rfl) (by kernel_rfl) ?_
                  repeat (go_big_quiet_step ((first | (go_at_call_of 91 (Value.int IntKind.i64 x); exact Calls.ext_of ((l1In_yes _ _ _ (by omega) (by omega) _).mono fun _ _ h => ⟨h.1, h.2 ▸ Below.refl _ _⟩)) | (go_at_call_of 91 (Value.int IntKind.i64 y); exact Calls.ext_of ((l1In_yes _ _ _ (by omega) (by omega) _).mono fun _ _ h => ⟨h.1, h.2 ▸ Below.refl _ _⟩)) | (go_at_call 108; exact Calls.ext_of ((paLess_yes _ _ _ _ hA3 _).mono fun _ _ h => ⟨h.1, h.2.mono (Ext.size' (by simp) _)⟩)))))
                  refine wpQuiet_nil ?_
                  rintro w1 ⟨⟨_, hb1⟩, rfl⟩
                  have hb2 : Below (wr.heap.size) wr w1 := Below.trans (b := _) ((Below.refl _ _).alloc (by omega) _) (hb1.mono (by omega))
                  go_wp2
                  go_roundw
                  case rel =>
                    refine ⟨k + 1, by omega, by go_num, ?_, hb.trans (hb2.mono (by omega))⟩
                    intro j hj
                    rcases Nat.lt_succ_iff_lt_or_eq.1 hj with h | rfl
                    · exact Hgood.out j h
                    · exact goodAt_later hk2 Hx'.out Hx.out hxy hA3
                  case measure => simp [intOf]; omega
                · go_wp2
                  refine wp_region_ext (wr.heap.size + 1) (by kernel_rfl) (by kernel_rfl) ?_
                  repeat (go_big_quiet_step ((first | (go_at_call_of 91 (Value.int IntKind.i64 x); exact Calls.ext_of ((l1In_yes _ _ _ (by omega) (by omega) _).mono fun _ _ h => ⟨h.1, h.2 ▸ Below.refl _ _⟩)) | (go_at_call_of 91 (Value.int IntKind.i64 y); exact Calls.ext_of ((l1In_yes _ _ _ (by omega) (by omega) _).mono fun _ _ h => ⟨h.1, h.2 ▸ Below.refl _ _⟩)) | (go_at_call 108; exact Calls.ext_of ((paLess_no _ _ _ _ hA3 _).mono fun _ _ h => ⟨h.1, h.2.mono (Ext.size' (by simp) _)⟩)))))
                  refine wpQuiet_nil ?_
                  rintro w1 ⟨⟨_, hb1⟩, rfl⟩
                  have hb2 : Below (wr.heap.size) wr w1 := Below.trans (b := _) ((Below.refl _ _).alloc (by omega) _) (hb1.mono (by omega))
                  go_wp2
                  go_ret
                  refine ⟨?_, hbw.trans (hb2.mono (by omega))⟩
                  rw [isP_no p l (i := k) (by rw [Hn.out]; exact hlt) (goodAt_stale' hk2 Hx'.out Hx.out hA3)]
                  rfl
        · have hkl : k = n := by omega
          subst hkl
          have hge : ¬ ((k : Int) < k) := by omega
          go_wp2
          go_ret
          refine ⟨?_, hbw⟩
          rw [isP_of p l hp0 hp1 (fun i hi => Hgood.out i (by rw [Hn.out] at hi; exact hi))]
          rfl
end Go.Proofs.YtefkcfkicmfhlaaDoor
/-
  THE PROGRAM's OWN LOOK AT A PARTY: comparisons of numbers and of pairs, 'impl.IsParty', by their contracts.
-/
namespace Go.Proofs.YtefkcfkicmfhlaaDoor
open Go.RowKit

def cmpI (a b : Int) : Int := if a < b then -1 else if b < a then 1 else 0
set_option maxHeartbeats 400000 in
theorem isNaN_any (a : Int) (w : World) : Calls Tryd.prog 167 #[.int .i64 a] w fun e w' => e = .returned (.bool false) ∧ w = w' := by
  go_enter Tryd.func167, Tryd.ntmps167
  go_wp2
  go_ret
  exact ⟨by simp, rfl⟩
set_option maxHeartbeats 400000 in
theorem compare_any (a b : Int) (w : World) : Calls Tryd.prog 142 #[.int .i64 a, .int .i64 b] w fun e w' => e = .returned (.int .i64 (cmpI a b)) ∧ w = w' := by
  by_cases h1 : a < b
  · have e : cmpI a b = -1 := if_pos h1
    rw [e]
    clear e
    go_enter Tryd.func142, Tryd.ntmps142
    go_wp2_with (go_at_call 167; refine (isNaN_any _ _).mono ?_; rintro e w' ⟨rfl, rfl⟩)
    go_ret
    exact ⟨rfl, rfl⟩
  · by_cases h2 : b < a
    · have e : cmpI a b = 1 := by rw [cmpI, if_neg h1, if_pos h2]
      rw [e]
      clear e
      go_enter Tryd.func142, Tryd.ntmps142
      go_wp2_with (go_at_call 167; refine (isNaN_any _ _).mono ?_; rintro e w' ⟨rfl, rfl⟩)
      go_ret
      exact ⟨rfl, rfl⟩
    · have e : cmpI a b = 0 := by rw [cmpI, if_neg h1, if_neg h2]
      rw [e]
      clear e
      go_enter Tryd.func142, Tryd.ntmps142
      go_wp2_with (go_at_call 167; refine (isNaN_any _ _).mono ?_; rintro e w' ⟨rfl, rfl⟩)
      go_ret
      exact ⟨rfl, rfl⟩

set_option maxHeartbeats 400000 in
theorem or_any (x y : Int) (g : Nat) (w : World) (h0 : w.cell? ⟨g, 0, none⟩ = some (.int .i64 x)) (h1 : w.cell? ⟨g, 1, none⟩ = some (.int .i64 y)) :
    Calls Tryd.prog 141 #[.slice (some ⟨g, 0, none⟩) 2 2] w fun e w' => e = .returned (.int .i64 (if x = 0 then y else x)) ∧ w = w' := by
  by_cases hx : x = 0
  · subst hx
    rw [if_pos rfl]
    by_cases hy : y = 0
    · subst hy
      go_enter Tryd.func141, Tryd.ntmps141
      go_wp2
      refine wp_loop_rounds 3 ?_
      rw [rounds_succ]
      go_wp2
      rw [rounds_succ]
      go_wp2
      rw [rounds_succ]
      go_wp2
      go_ret
      exact ⟨rfl, rfl⟩
    · go_enter Tryd.func141, Tryd.ntmps141
      go_wp2
      refine wp_loop_rounds 3 ?_
      rw [rounds_succ]
      go_wp2
      rw [rounds_succ]
      go_wp2
      go_ret
      exact ⟨rfl, rfl⟩
  · rw [if_neg hx]
    go_enter Tryd.func141, Tryd.ntmps141
    go_wp2
    refine wp_loop_rounds 3 ?_
    rw [rounds_succ]
    go_wp2
    go_ret
    exact ⟨rfl, rfl⟩

def cmpP (a b c d : Int) : Int := if cmpI a c = 0 then cmpI b d else cmpI a c
theorem cmpP_less (a b c d : Int) : cmpP a b c d < 0 ↔ (a < c ∨ a = c ∧ b < d) := by
  unfold cmpP cmpI
  repeat' split
  all_goals omega
set_option maxHeartbeats 1000000 in
set_option maxRecDepth 100000 in
theorem comparePairs_any (a b c d : Int) (w : World) :
    Calls Tryd.prog 110 #[.agg #[.int .i64 a, .int .i64 b], .agg #[.int .i64 c, .int .i64 d]] w fun e w' => e = .returned (.int .i64 (cmpP a b c d)) ∧ Below w.heap.size w w' := by
  go_enter Tryd.func110, Tryd.ntmps110
  go_wp2
  generalize hW : (w.alloc (Obj.cells #[.int .i64 a, .int .i64 b] 98)).alloc (Obj.cells #[.int .i64 c, .int .i64 d] 98) = W
  have c0 : W.cell? ⟨w.heap.size, 0, none⟩ = some (.int .i64 a) := by rw [← hW]; simp
  have c1 : W.cell? ⟨w.heap.size, 1, none⟩ = some (.int .i64 b) := by rw [← hW]; simp
  have c2 : W.cell? ⟨w.heap.size + 1, 0, none⟩ = some (.int .i64 c) := by rw [← hW]; simp
  have c3 : W.cell? ⟨w.heap.size + 1, 1, none⟩ = some (.int .i64 d) := by rw [← hW]; simp
  have hb : Below w.heap.size w W := by rw [← hW]; go_grown
  clear hW
  refine wp_region_still_tail 10 (by kernel_rfl) (by kernel_rfl) ?_
  simp only [List.take_succ_cons, List.take_zero, List.drop_succ_cons, List.drop_zero]
  still_step
  still_step
  still_step
  still_step
  still_call ((compare_any a c _).mono fun _ _ h => ⟨h.1, h.2.symm⟩)
  still_step
  still_step
  still_step
  still_step
  still_call ((compare_any b d _).mono fun _ _ h => ⟨h.1, h.2.symm⟩)
  refine wpStill_nil ?_
  change wpList _ _ _ _ _ (World.drew _)
  go_wp2_with (go_at_call 141; refine (or_any (cmpI a c) (cmpI b d) _ _ (by simp) (by simp)).mono ?_; rintro e w2 ⟨rfl, rfl⟩)
  · have h : cmpI a c = 0 := by assumption
    go_ret
    exact ⟨by simp [cmpP, h], (hb.alloc hb.size _).drew⟩
  · have h : ¬ cmpI a c = 0 := by assumption
    go_ret
    exact ⟨by simp [cmpP, h], (hb.alloc hb.size _).drew⟩
theorem comparePairs_less (a b c d : Int) (h : a < c ∨ a = c ∧ b < d) (w : World) :
    Calls Tryd.prog 110 #[.agg #[.int .i64 a, .int .i64 b], .agg #[.int .i64 c, .int .i64 d]] w fun e w' => e = .returned (.int .i64 (-1)) ∧ Below w.heap.size w w' :=
  (comparePairs_any a b c d w).mono fun _ _ hh => by
    have h1 := (cmpP_less a b c d).2 h
    have h2 : cmpP a b c d = -1 := by unfold cmpP cmpI at h1 ⊢; repeat' split at h1; all_goals (repeat' split); all_goals omega
    rwa [h2] at hh
theorem cmpP_more {a b c d : Int} (h : ¬ (a < c ∨ a = c ∧ b < d)) : 0 ≤ cmpP a b c d := by
  have h1 : ¬ cmpP a b c d < 0 := fun h2 => h ((cmpP_less a b c d).1 h2)
  omega

set_option maxHeartbeats 1000000 in
theorem isParty_any (p : Int) (l : PL) (A : Option Addr) (c : Nat) (w : World) (hl : l.length ≤ 1048576) (hA : CRead w w.heap.size A (pcells l)) :
    Calls Tryd.prog 68 #[.agg #[.int .i64 p, .slice A l.length c]] w fun e w' => e = .returned (.bool (isP p l)) ∧ Below w.heap.size w w' := by
  by_cases hp : p < 0 ∨ 12 < p
  · rw [isP_out p l hp]
    rcases hp with hp | hp
    · go_enter Tryd.func68, Tryd.ntmps68
      go_wp2
      go_ret
      exact ⟨rfl, by go_grown⟩
    · have hp' : ¬ p < 0 := by omega
      go_enter Tryd.func68, Tryd.ntmps68
      go_wp2
      go_ret
      exact ⟨rfl, by go_grown⟩
  · have hp0 : 0 ≤ p := by omega
    have hp1 : p ≤ 12 := by omega
    generalize hn : l.length = n at *
    have Hn := Lib.hid hn
    clear hn hp
    go_enter Tryd.func68, Tryd.ntmps68
    go_wp2
    have hbw : Below (w.heap.size + 1) (w.alloc (Obj.cells #[.int .i64 p, .slice A n c] 34)) (w.alloc (Obj.cells #[.int .i64 p, .slice A n c] 34)) := Below.refl _ _
    go_loopw [16] (fun i wr => ∃ k : Nat, k ≤ n ∧ i = .int .i64 k ∧ (∀ j, j < k → goodAt p l j = true) ∧ Below (w.heap.size + 1) (w.alloc (Obj.cells #[.int .i64 p, .slice A n c] 34)) wr) (fun i _ => n - (intOf i).toNat)
    case atStart => exact ⟨0, Nat.zero_le _, rfl, fun j hj => by omega, hbw⟩
    case round =>
      obtain ⟨k, hk, rfl, hgood, hb⟩ := hrel
      have Hgood := Lib.hid hgood
      clear hgood hbw
      have hs := hb.size
      simp only [World.size_alloc] at hs
      have hbw : Below w.heap.size w wr := Below.trans (b := _) (by go_grown) (hb.mono (by omega))
      have u0 : wr.cell? ⟨w.heap.size, 0, none⟩ = some (.int .i64 p) := (hb.cell (p := ⟨w.heap.size, 0, none⟩) (by simp)).trans (by simp)
      have u1 : wr.cell? ⟨w.heap.size, 1, none⟩ = some (.slice A n c) := (hb.cell (p := ⟨w.heap.size, 1, none⟩) (by simp)).trans (by simp)
      by_cases hlt : k < n
      · obtain ⟨⟨x, y⟩, hx⟩ := getSome l k (by rw [Hn.out]; exact hlt)
        obtain ⟨b, off, rfl, hbb, c0, c1⟩ := (hA.below hbw (Nat.le_refl _)).pair hx
        have hki : (k : Int) < (n : Int) := by omega
        have Hx := Lib.hid hx
        clear hx
        have u2 : (wr.alloc (.cells #[.int .i64 x, .int .i64 y] 98)).cell? ⟨w.heap.size, 0, none⟩ = some (.int .i64 p) := (World.cell?_alloc_lt wr _ _ (by simp; omega)).trans u0
        have u3 : (wr.alloc (.cells #[.int .i64 x, .int .i64 y] 98)).cell? ⟨w.heap.size, 1, none⟩ = some (.slice (some ⟨b, off, none⟩) n c) := (World.cell?_alloc_lt wr _ _ (by simp; omega)).trans u1
        by_cases hxy : 0 ≤ x ∧ x < y ∧ y < p
        · have x0 : 0 ≤ x := by omega
          have x1 : ¬ (y ≤ x) := by omega
          have x2 : ¬ (p ≤ y) := by omega
          have e0 : ∀ z : Ext (wr.heap.size + 1) (wr.alloc (.cells #[.int .i64 x, .int .i64 y] 98)), z.val.cell? ⟨wr.heap.size, 0, none⟩ = some (.int .i64 x) := fun z => z.cell (by simp) (by omega)
          have e1 : ∀ z : Ext (wr.heap.size + 1) (wr.alloc (.cells #[.int .i64 x, .int .i64 y] 98)), z.val.cell? ⟨wr.heap.size, 1, none⟩ = some (.int .i64 y) := fun z => z.cell (by simp) (by omega)
          have z0 : ∀ z : Ext (wr.heap.size + 1) (wr.alloc (.cells #[.int .i64 x, .int .i64 y] 98)), z.val.cell? ⟨w.heap.size, 0, none⟩ = some (.int .i64 p) := fun z => z.cell ((World.cell?_alloc_lt wr _ _ (by simp; omega)).trans u0) (by omega)
          have z1 : ∀ z : Ext (wr.heap.size + 1) (wr.alloc (.cells #[.int .i64 x, .int .i64 y] 98)), z.val.cell? ⟨w.heap.size, 1, none⟩ = some (.slice (some ⟨b, off, none⟩) n c) := fun z => z.cell ((World.cell?_alloc_lt wr _ _ (by simp; omega)).trans u1) (by omega)
          have Hxy := Lib.hid hxy
          clear hxy
          by_cases hkz : k = 0
          · have hk0 : decide ((0 : Int) < (k : Int)) = false := by simp [hkz]
            have hk1 : decide (0 < k) = false := by simp [hkz]
            have Hkz := Lib.hid hkz
            clear hkz
            go_wp2
            refine wp_region_ext (wr.heap.size + 1) (by kernel_rfl) (by kernel_rfl) ?_
            repeat (go_big_quiet_step (fail))
            refine wpQuiet_nil ?_
            rintro w1 ⟨⟨_, hb1⟩, rfl⟩
            have hb2 : Below (wr.heap.size) wr w1 := Below.trans (b := _) ((Below.refl _ _).alloc (by omega) _) (hb1.mono (by omega))
            go_wp2
            go_roundw
            case rel =>
              refine ⟨k + 1, by omega, by go_num, ?_, hb.trans (hb2.mono (by omega))⟩
              intro j hj
              rcases Nat.lt_succ_iff_lt_or_eq.1 hj with h | rfl
              · exact Hgood.out j h
              · exact goodAt_zero Hkz.out Hx.out Hxy.out
            case measure => simp [intOf]; omega
          · obtain ⟨⟨x', y'⟩, hx'⟩ := getSome l (k - 1) (by rw [Hn.out]; omega)
            obtain ⟨b', off', e', _, c0', c1'⟩ := (hA.below hbw (Nat.le_refl _)).pair hx'
            simp only [Option.some.injEq, Addr.mk.injEq, and_true] at e'
            obtain ⟨rfl, rfl⟩ := e'
            have Hx' := Lib.hid hx'
            clear hx'
            have e2 : ∀ z : Ext (wr.heap.size + 1) (wr.alloc (.cells #[.int .i64 x, .int .i64 y] 98)), z.val.cell? ⟨b, off + (k - 1) * 2, none⟩ = some (.int .i64 x') := fun z => z.cell ((World.cell?_alloc_lt wr _ _ (by simp; omega)).trans c0') (by omega)
            have e3 : ∀ z : Ext (wr.heap.size + 1) (wr.alloc (.cells #[.int .i64 x, .int .i64 y] 98)), z.val.cell? ⟨b, off + (k - 1) * 2 + 1, none⟩ = some (.int .i64 y') := fun z => z.cell ((World.cell?_alloc_lt wr _ _ (by simp; omega)).trans c1') (by omega)
            have hk0 : (0 : Int) < (k : Int) := by omega
            have hk1 : decide ((0 : Int) < (k : Int)) = true := by simp; omega
            have hk2 : 0 < k := by omega
            have hk3 : (0 : Int) ≤ (k : Int) - 1 := by omega
            have hk4 : (k : Int) - 1 < (n : Int) := by omega
            clear hkz
            by_cases hA3 : x' < x ∨ x' = x ∧ y' < y
            · go_wp2
              refine wp_region_ext (wr.heap.size + 1) (by kernel_rfl) (by kernel_rfl) ?_
              repeat (go_big_quiet_step ((go_at_call 110; exact Calls.ext_of ((comparePairs_less _ _ _ _ hA3 _).mono fun _ _ h => ⟨h.1, h.2.mono (Ext.size' (by simp) _)⟩))))
              refine wpQuiet_nil ?_
              rintro w1 ⟨⟨_, hb1⟩, rfl⟩
              have hb2 : Below (wr.heap.size) wr w1 := Below.trans (b := _) ((Below.refl _ _).alloc (by omega) _) (hb1.mono (by omega))
              go_wp2
              go_roundw
              case rel =>
                refine ⟨k + 1, by omega, by go_num, ?_, hb.trans (hb2.mono (by omega))⟩
                intro j hj
                rcases Nat.lt_succ_iff_lt_or_eq.1 hj with h | rfl
                · exact Hgood.out j h
                · exact goodAt_later hk2 Hx'.out Hx.out Hxy.out hA3
              case measure => simp [intOf]; omega
            · have hmore := cmpP_more hA3
              go_wp2
              refine wp_region_ext (wr.heap.size + 1) (by kernel_rfl) (by kernel_rfl) ?_
              repeat (go_big_quiet_step ((go_at_call 110; exact Calls.ext_of ((comparePairs_any _ _ _ _ _).mono fun _ _ h => ⟨h.1, h.2.mono (Ext.size' (by simp) _)⟩))))
              refine wpQuiet_nil ?_
              rintro w1 ⟨⟨_, hb1⟩, rfl⟩
              have hb2 : Below (wr.heap.size) wr w1 := Below.trans (b := _) ((Below.refl _ _).alloc (by omega) _) (hb1.mono (by omega))
              go_wp2
              go_ret
              refine ⟨?_, hbw.trans (hb2.mono (by omega))⟩
              rw [isP_no p l (i := k) (by rw [Hn.out]; exact hlt) (goodAt_stale' hk2 Hx'.out Hx.out hA3)]
              rfl
        · have hres : isP p l = false := isP_no p l (i := k) (by rw [Hn.out]; exact hlt) (goodAt_bad Hx.out hxy)
          have Hres := Lib.hid hres
          clear hres
          by_cases h1 : x < 0
          · go_wp2
            go_ret
            exact ⟨by rw [Hres.out]; rfl, hbw.alloc (by omega) _⟩
          · by_cases h2 : y ≤ x
            · go_wp2
              go_ret
              exact ⟨by rw [Hres.out]; rfl, hbw.alloc (by omega) _⟩
            · have h3 : p ≤ y := by omega
              go_wp2
              go_ret
              exact ⟨by rw [Hres.out]; rfl, hbw.alloc (by omega) _⟩
      · have hkl : k = n := by omega
        subst hkl
        have hge : ¬ ((k : Int) < k) := by omega
        go_wp2
        go_ret
        refine ⟨?_, hbw⟩
        rw [isP_of p l hp0 hp1 (fun i hi => Hgood.out i (by rw [Hn.out] at hi; exact hi))]
        rfl

end Go.Proofs.YtefkcfkicmfhlaaDoor
/-
  Parties and lists of numbers that a call comes back with.
-/
namespace Go.Proofs.YtefkcfkicmfhlaaDoor
open Go.RowKit

/-- A call came back with a party and a bool; the party's pairs lie in memory of its own. -/
def GotPartyOk (w : World) (p : Int) (l : PL) (ok : Bool) (e : Ending) (w' : World) : Prop :=
  ∃ A c, e = .returned (.tuple #[.agg #[.int .i64 p, .slice A l.length c], .bool ok]) ∧ w'.ownsRow w.heap.size 98 2 (.slice A l.length c) l.length (pcells l) ∧ Below w.heap.size w w'
/-- A call came back with a list of numbers and a bool. -/
def GotIntsOk (w : World) (l : List Int) (ok : Bool) (e : Ending) (w' : World) : Prop :=
  ∃ A c, e = .returned (.tuple #[.slice A l.length c, .bool ok]) ∧ w'.ownsRow w.heap.size 3 1 (.slice A l.length c) l.length (icells l) ∧ Below w.heap.size w w'

end Go.Proofs.YtefkcfkicmfhlaaDoor
/-
  CLUES AND PUZZLES: lists of clues as cells; the laws' own small functions at them (size, copy, comparison, marks), by their contracts.
-/
namespace Go.Proofs.YtefkcfkicmfhlaaDoor
open Go.RowKit

/-! ## Lists of clues as cells -/
abbrev CT := Int × Int × Int
abbrev CL := List CT
def ccells : CL → List Value
  | [] => []
  | p :: l => .int .i64 p.1 :: .int .i64 p.2.1 :: .int .i64 p.2.2 :: ccells l
theorem ccells_length (l : CL) : (ccells l).length = l.length * 3 := by
  induction l with
  | nil => rfl
  | cons p l ih => simp only [ccells, List.length_cons, ih]; omega
theorem ccells_append (l m : CL) : ccells (l ++ m) = ccells l ++ ccells m := by
  induction l with
  | nil => rfl
  | cons p l ih => simp [ccells, ih]
theorem ccells_at0 {l : CL} {k : Nat} {x y z : Int} (h : l[k]? = some (x, y, z)) : (ccells l)[k * 3]? = some (.int .i64 x) := by
  induction l generalizing k with
  | nil => simp at h
  | cons p l ih =>
    cases k with
    | zero => simp at h; subst h; rfl
    | succ k => rw [show (k + 1) * 3 = k * 3 + 3 from by omega]; simpa [ccells] using ih (by simpa using h)
theorem ccells_at1 {l : CL} {k : Nat} {x y z : Int} (h : l[k]? = some (x, y, z)) : (ccells l)[k * 3 + 1]? = some (.int .i64 y) := by
  induction l generalizing k with
  | nil => simp at h
  | cons p l ih =>
    cases k with
    | zero => simp at h; subst h; rfl
    | succ k => rw [show (k + 1) * 3 + 1 = k * 3 + 1 + 3 from by omega]; simpa [ccells] using ih (by simpa using h)
theorem ccells_at2 {l : CL} {k : Nat} {x y z : Int} (h : l[k]? = some (x, y, z)) : (ccells l)[k * 3 + 2]? = some (.int .i64 z) := by
  induction l generalizing k with
  | nil => simp at h
  | cons p l ih =>
    cases k with
    | zero => simp at h; subst h; rfl
    | succ k => rw [show (k + 1) * 3 + 2 = k * 3 + 2 + 3 from by omega]; simpa [ccells] using ih (by simpa using h)
theorem ccells_set (l : CL) (k : Nat) (x y z : Int) : (((ccells l).set (k * 3) (.int .i64 x)).set (k * 3 + 1) (.int .i64 y)).set (k * 3 + 2) (.int .i64 z) = ccells (l.set k (x, y, z)) := by
  induction l generalizing k with
  | nil => rfl
  | cons p l ih =>
    cases k with
    | zero => rfl
    | succ k =>
      rw [show (k + 1) * 3 = k * 3 + 3 from by omega, show k * 3 + 3 + 1 = k * 3 + 1 + 3 from by omega, show k * 3 + 3 + 2 = k * 3 + 2 + 3 from by omega]
      simp [ccells, ih k]
theorem ccells_one (l : CL) : ∀ u ∈ ccells l, u.oneCell' = true := by
  induction l with
  | nil => intro u h; cases h
  | cons p l ih => intro u h; simp [ccells] at h; rcases h with rfl | rfl | rfl | h <;> first | rfl | exact ih u h
theorem CRead.clue {w : World} {B : Nat} {ad : Option Addr} {l : CL} (h : CRead w B ad (ccells l)) {k : Nat} {x y z : Int} (hk : l[k]? = some (x, y, z)) :
    ∃ b off, ad = some ⟨b, off, none⟩ ∧ b < B ∧ w.cell? ⟨b, off + k * 3, none⟩ = some (.int .i64 x) ∧ w.cell? ⟨b, off + k * 3 + 1, none⟩ = some (.int .i64 y) ∧ w.cell? ⟨b, off + k * 3 + 2, none⟩ = some (.int .i64 z) := by
  obtain ⟨b, off, rfl, hb, h0⟩ := h _ _ (ccells_at0 hk)
  obtain ⟨b', off', e, _, h1⟩ := h _ _ (ccells_at1 hk)
  obtain ⟨b2, off2, e2, _, h2⟩ := h _ _ (ccells_at2 hk)
  simp only [Option.some.injEq, Addr.mk.injEq, and_true] at e e2
  obtain ⟨rfl, rfl⟩ := e
  obtain ⟨rfl, rfl⟩ := e2
  exact ⟨b, off, rfl, hb, h0, h1, h2⟩
section
variable {w w' : World} {base : Nat} {e : TypeId} {size n g cap : Nat} {v : Value} {xs : List Value}
theorem below_set3 {B : Nat} {a : World} (h : Below B a w) (hg : B ≤ g) (i j k : Nat) (x y z : Value) : Below B a (((w.setCell ⟨g, i, none⟩ x).setCell ⟨g, j, none⟩ y).setCell ⟨g, k, none⟩ z) :=
  ((h.setCell (p := ⟨g, i, none⟩) hg x).setCell (p := ⟨g, j, none⟩) hg y).setCell (p := ⟨g, k, none⟩) hg z
theorem own_setClue {l : CL} (h : w.ownsRow base e 3 (.slice (some ⟨g, 0, none⟩) n cap) n (ccells l)) (k : Nat) (x y z : Int) :
    (((w.setCell ⟨g, k * 3, none⟩ (.int .i64 x)).setCell ⟨g, k * 3 + 1, none⟩ (.int .i64 y)).setCell ⟨g, k * 3 + 2, none⟩ (.int .i64 z)).ownsRow base e 3 (.slice (some ⟨g, 0, none⟩) n cap) n (ccells (l.set k (x, y, z))) := by
  rw [← ccells_set]
  exact (((h.stored (k * 3) (.int .i64 x)).1.stored (k * 3 + 1) (.int .i64 y)).1.stored (k * 3 + 2) (.int .i64 z)).1
theorem own_clueAt {l : CL} (h : w.ownsRow base e 3 (.slice (some ⟨g, 0, none⟩) n cap) n (ccells l)) {k : Nat} {x y z : Int} (hk : l[k]? = some (x, y, z)) :
    w.cell? ⟨g, k * 3, none⟩ = some (.int .i64 x) ∧ w.cell? ⟨g, k * 3 + 1, none⟩ = some (.int .i64 y) ∧ w.cell? ⟨g, k * 3 + 2, none⟩ = some (.int .i64 z) := by
  have hl : l.length = n := by have := h.1; rw [ccells_length] at this; omega
  have hkl : k < l.length := (List.getElem?_eq_some_iff.1 hk).1
  exact ⟨(h.cellAt _ (by omega)).trans (ccells_at0 hk), (h.cellAt _ (by omega)).trans (ccells_at1 hk), (h.cellAt _ (by omega)).trans (ccells_at2 hk)⟩
theorem made_clues (n : Nat) : (madeCells #[.int .i64 0, .int .i64 0, .int .i64 0] (n * 3)).toList = ccells (List.replicate n (0, 0, 0)) := by
  have hp : ∀ m j, (ccells (List.replicate m (0, 0, 0)))[j]? = if j < m * 3 then some (.int .i64 0) else none := by
    intro m
    induction m with
    | zero => intro j; simp [ccells]
    | succ m ih =>
      intro j
      match j with
      | 0 => simp [List.replicate_succ, ccells]
      | 1 => simp [List.replicate_succ, ccells]; omega
      | 2 => simp [List.replicate_succ, ccells]; omega
      | j + 3 =>
        simp only [List.replicate_succ, ccells, List.getElem?_cons_succ, ih j]
        congr 1
        apply propext
        omega
  apply List.ext_getElem?
  intro j
  rw [hp]
  by_cases hj : j < n * 3
  · rw [if_pos hj]
    rcases (show j % 3 = 0 ∨ j % 3 = 1 ∨ j % 3 = 2 by omega) with h | h | h <;> simp [madeCells, hj, h]
  · rw [if_neg hj]
    simp [madeCells, hj]
end
def cmarks (k : Int) (n : Nat) : CL := (List.range n).map fun i : Nat => (k + 3 * (i : Int), k + 3 * (i : Int) + 1, k + 3 * (i : Int) + 2)
theorem cmarks_length (k : Int) (n : Nat) : (cmarks k n).length = n := by simp [cmarks]
theorem cmarks_at {k : Int} {n i : Nat} (h : i < n) : (cmarks k n)[i]? = some (k + 3 * i, k + 3 * i + 1, k + 3 * i + 2) := by simp [cmarks, h]

/-! ## The small functions -/
set_option maxHeartbeats 400000 in
theorem szClueS_any (ad : Option Addr) (n cap : Nat) (left : Int) (hn : n ≤ maxLen) (h0 : 0 ≤ left) (h1 : left ≤ 1048576) (w : World) :
    Calls Tryd.prog 71 #[.slice ad n cap, .int .i64 left] w fun e w' => e = .returned (.int .i64 (szI left n)) ∧ w = w' := by
  unfold maxLen at hn
  by_cases h : left - n < 0
  · have e : szI left n = -1 := if_pos h
    rw [e]
    go_enter Tryd.func71, Tryd.ntmps71
    go_wp2
    go_ret
    exact ⟨rfl, rfl⟩
  · have e : szI left n = left - n := if_neg h
    rw [e]
    go_enter Tryd.func71, Tryd.ntmps71
    go_wp2
    go_ret
    exact ⟨rfl, rfl⟩

set_option maxHeartbeats 400000 in
theorem szPuzzle_any (p : Int) (ad : Option Addr) (n cap : Nat) (left : Int) (hn : n ≤ maxLen) (h0 : 0 ≤ left) (h1 : left ≤ 1048576) (w : World) :
    Calls Tryd.prog 22 #[.agg #[.int .i64 p, .slice ad n cap], .int .i64 left] w fun e w' => e = .returned (.int .i64 (szI left n)) ∧ Below w.heap.size w w' := by
  by_cases h : szI left n < 0
  · have hneg : szI left n = -1 := by unfold szI at h ⊢; split <;> simp_all
    have Hn := Lib.hid hneg
    clear hneg
    go_enter Tryd.func22, Tryd.ntmps22
    go_wp2_with (go_at_call 71; refine (szClueS_any _ _ _ _ hn h0 h1 _).mono ?_; rintro e w' ⟨rfl, rfl⟩)
    go_ret
    exact ⟨by rw [Hn.out]; rfl, by go_grown⟩
  · go_enter Tryd.func22, Tryd.ntmps22
    go_wp2_with (go_at_call 71; refine (szClueS_any _ _ _ _ hn h0 h1 _).mono ?_; rintro e w' ⟨rfl, rfl⟩)
    go_ret
    exact ⟨rfl, by go_grown⟩

set_option maxHeartbeats 400000 in
theorem toClue_any (a b c : Int) (w : World) :
    Calls Tryd.prog 18 #[.agg #[.int .i64 a, .int .i64 b, .int .i64 c]] w fun e w' => e = .returned (.agg #[.int .i64 a, .int .i64 b, .int .i64 c]) ∧ Below w.heap.size w w' := by
  go_enter Tryd.func18, Tryd.ntmps18
  go_wp2
  go_returns
  exact ⟨rfl, by go_grown⟩

def eqClueB (x y : CT) : Bool := decide (x = y)
set_option maxHeartbeats 800000 in
theorem eqClue_any (a b c a' b' c' : Int) (w : World) :
    Calls Tryd.prog 118 #[.agg #[.int .i64 a, .int .i64 b, .int .i64 c], .agg #[.int .i64 a', .int .i64 b', .int .i64 c']] w fun e w' =>
      e = .returned (.bool (eqClueB (a, b, c) (a', b', c'))) ∧ Below w.heap.size w w' := by
  by_cases h1 : a = a'
  · by_cases h2 : b = b'
    · by_cases h3 : c = c'
      · subst h1 h2 h3
        go_enter Tryd.func118, Tryd.ntmps118
        go_wp2
        go_ret
        exact ⟨by simp [eqClueB], by go_grown⟩
      · subst h1 h2
        go_enter Tryd.func118, Tryd.ntmps118
        go_wp2
        go_ret
        exact ⟨by simp [eqClueB, h3], by go_grown⟩
    · subst h1
      go_enter Tryd.func118, Tryd.ntmps118
      go_wp2
      go_ret
      exact ⟨by simp [eqClueB, h2], by go_grown⟩
  · go_enter Tryd.func118, Tryd.ntmps118
    go_wp2
    go_ret
    exact ⟨by simp [eqClueB, h1], by go_grown⟩

set_option maxHeartbeats 2000000 in
theorem eqClueS_any (l m : CL) (A B : Option Addr) (c d : Nat) (w : World) (hl : l.length ≤ maxLen) (hm : m.length ≤ maxLen)
    (hA : CRead w w.heap.size A (ccells l)) (hB : CRead w w.heap.size B (ccells m)) :
    Calls Tryd.prog 77 #[.slice A l.length c, .slice B m.length d] w fun e w' =>
      e = .returned (.bool (decide (l = m))) ∧ Below w.heap.size w w' := by
  unfold maxLen at hl hm
  by_cases hlen : l.length = m.length
  · generalize hn : l.length = n at *
    have Hn := Lib.hid hn
    have Hm := Lib.hid hlen
    clear hn
    rw [← hlen]
    clear hlen
    go_enter Tryd.func77, Tryd.ntmps77
    go_wp2
    go_loopw [5] (fun i wr => ∃ k : Nat, k ≤ n ∧ i = .int .i64 k ∧ l.take k = m.take k ∧ Below w.heap.size w wr) (fun i _ => n - (intOf i).toNat)
    case atStart => exact ⟨0, Nat.zero_le _, rfl, rfl, Below.refl _ _⟩
    case round =>
      obtain ⟨k, hk, rfl, htk, hb⟩ := hrel
      have Htk := Lib.hid htk
      clear htk
      have hs := hb.size
      by_cases hlt : k < n
      · obtain ⟨⟨x, y, z⟩, hx⟩ := getSome l k (by rw [Hn.out]; exact hlt)
        obtain ⟨⟨x', y', z'⟩, hx'⟩ := getSome m k (by rw [← Hm.out]; exact hlt)
        obtain ⟨b, off, rfl, hbb, c0, c1, c2⟩ := (hA.below hb (Nat.le_refl _)).clue hx
        obtain ⟨b', off', rfl, hbb', c0', c1', c2'⟩ := (hB.below hb (Nat.le_refl _)).clue hx'
        have q0 : ∀ z : Ext wr.heap.size wr, z.val.cell? ⟨b, off + k * 3, none⟩ = some (.int .i64 x) := fun z => z.cell c0 (by omega)
        have q1 : ∀ z : Ext wr.heap.size wr, z.val.cell? ⟨b, off + k * 3 + 1, none⟩ = some (.int .i64 y) := fun z => z.cell c1 (by omega)
        have q2 : ∀ v : Ext wr.heap.size wr, v.val.cell? ⟨b, off + k * 3 + 2, none⟩ = some (.int .i64 z) := fun v => v.cell c2 (by omega)
        have q0' : ∀ z : Ext wr.heap.size wr, z.val.cell? ⟨b', off' + k * 3, none⟩ = some (.int .i64 x') := fun z => z.cell c0' (by omega)
        have q1' : ∀ z : Ext wr.heap.size wr, z.val.cell? ⟨b', off' + k * 3 + 1, none⟩ = some (.int .i64 y') := fun z => z.cell c1' (by omega)
        have q2' : ∀ v : Ext wr.heap.size wr, v.val.cell? ⟨b', off' + k * 3 + 2, none⟩ = some (.int .i64 z') := fun v => v.cell c2' (by omega)
        clear c0 c1 c2 c0' c1' c2'
        have hki : (k : Int) < (n : Int) := by omega
        have Hx := Lib.hid hx
        have Hx' := Lib.hid hx'
        clear hx hx'
        go_wp2
        refine wp_region_ext wr.heap.size (by kernel_rfl) (by kernel_rfl) ?_
        repeat (go_big_quiet_step ((go_at_call 118; exact Calls.ext_of ((eqClue_any _ _ _ _ _ _ _).mono fun _ _ h => ⟨h.1, h.2.mono (Ext.size _)⟩))))
        refine wpQuiet_nil ?_
        rintro _ ⟨⟨w1, hb1⟩, rfl⟩
        clear q0 q1 q2 q0' q1' q2'
        have hs1 := hb1.size
        cases hq : eqClueB (x, y, z) (x', y', z')
        · go_wp2
          go_ret
          refine ⟨?_, hb.trans (hb1.mono hs)⟩
          have e : ¬ ((x, y, z) = (x', y', z')) := of_decide_eq_false hq
          have : l ≠ m := by rintro rfl; have h := Hx.out; rw [Hx'.out] at h; exact e (Option.some.inj h).symm
          simp [this]
        · go_wp2
          go_roundw
          case rel =>
            refine ⟨k + 1, by omega, by go_num, ?_, hb.trans (hb1.mono hs)⟩
            have e := of_decide_eq_true hq
            rw [List.take_add_one, List.take_add_one, Htk.out, Hx.out, Hx'.out, e]
          case measure => simp [intOf]; omega
      · have hkl : k = n := by omega
        go_wp2
        go_ret
        refine ⟨?_, hb⟩
        have e := Htk.out
        rw [hkl, List.take_of_length_le (by rw [Hn.out]; exact Nat.le_refl _), List.take_of_length_le (by rw [← Hm.out]; exact Nat.le_refl _)] at e
        simp [e]
  · have hne : l ≠ m := by rintro rfl; exact hlen rfl
    have e : decide (l = m) = false := by simp [hne]
    rw [e]
    clear e
    go_enter Tryd.func77, Tryd.ntmps77
    go_wp2
    go_ret
    exact ⟨rfl, Below.refl _ _⟩
theorem Tryd.infoClue : (Tryd.prog.info? 30).map (fun i => (i.zero, i.size, i.bytes)) = some (some (.agg #[.int .i64 0, .int .i64 0, .int .i64 0]), 3, 24) := by kernel_rfl

set_option maxHeartbeats 1000000 in
theorem toClueS_any (l : CL) (A : Option Addr) (c : Nat) (w : World) (hl : l.length ≤ 1048576) (hA : CRead w w.heap.size A (ccells l)) :
    Calls Tryd.prog 74 #[.slice A l.length c] w fun e w' =>
      e = .returned (.slice (some ⟨w.heap.size, 0, none⟩) l.length l.length) ∧ w'.ownsRow w.heap.size 30 3 (.slice (some ⟨w.heap.size, 0, none⟩) l.length l.length) l.length (ccells l) ∧ Below w.heap.size w w' := by
  obtain ⟨i0, hi, hz0, hz1, hz2⟩ := info_parts Tryd.infoClue
  generalize hn : l.length = n at *
  have Hn := Lib.hid hn
  clear hn
  generalize hg : w.heap.size = g at *
  have Hg := Lib.hid hg
  clear hg
  go_enter Tryd.func74, Tryd.ntmps74
  go_wp2_with (at_make; refine wpList_make_full _ rfl _ _ 45 rfl g 30 i0 _ 3 Tryd.underlying45 hi hz0 hz1 _ _ _ _ n rfl rfl (by omega) (by omega) (by rw [hz2]; omega) (by unfold maxLen; omega) (by rw [Hg.out]; exact Nat.le_refl _) ?_; rw [Hg.out]; intro w1 hown1 hgr1)
  have hs1 : g < w1.heap.size := (own_lt hown1).2
  have hb1 : Below g w w1 := (Below.refl _ _).grown hgr1 (by rw [Hg.out]; exact Nat.le_refl _) (by simp)
  rw [show Value.cells (.agg #[.int .i64 0, .int .i64 0, .int .i64 0]) = #[.int .i64 0, .int .i64 0, .int .i64 0] from rfl, made_clues] at hown1
  have hge : w.heap.size ≤ g := by rw [Hg.out]; exact Nat.le_refl _
  go_loopw [4] (fun i wr => ∃ k : Nat, k ≤ n ∧ i = .int .i64 k ∧ wr.ownsRow g 30 3 (.slice (some ⟨g, 0, none⟩) n n) n (ccells (l.take k ++ List.replicate (n - k) (0, 0, 0))) ∧ Below g w wr) (fun i _ => n - (intOf i).toNat)
  case atStart => exact ⟨0, Nat.zero_le _, rfl, by simpa using hown1, hb1⟩
  case round =>
    obtain ⟨k, hk, rfl, hown, hb⟩ := hrel
    have hs := own_lt hown
    have hki : (k : Int) ≤ n := by omega
    by_cases hlt : k < n
    · obtain ⟨⟨x, y, z⟩, hx⟩ := getSome l k (by rw [Hn.out]; exact hlt)
      obtain ⟨b, off, rfl, hbb, c0, c1, c2⟩ := (hA.below hb (Nat.le_refl _)).clue hx
      have hlt' : (k : Int) < n := by omega
      have hz : (l.take k ++ List.replicate (n - k) (0, 0, 0))[k]? = some (0, 0, 0) := by
        rw [List.getElem?_append_right (by simp; omega)]
        have h1 : min k l.length = k := Nat.min_eq_left (by rw [Hn.out]; exact hk)
        simp only [List.length_take, h1, Nat.sub_self]
        rw [List.getElem?_replicate, if_pos (by omega)]
      have Hx := Lib.hid hx
      clear hx
      have Hz := Lib.hid hz
      clear hz
      go_wp2_with (go_at_call 18; refine (toClue_any _ _ _ _).mono ?_; rintro e w2 ⟨rfl, hb2⟩; have hown2 := own_below hown hb2 (Nat.le_refl _); have ⟨d0, d1, d2⟩ := own_clueAt hown2 Hz.out; have f0 := hown2.frozenAt (k * 3); have f1 := hown2.frozenAt (k * 3 + 1); have f2 := hown2.frozenAt (k * 3 + 2))
      go_roundw
      case rel =>
        refine ⟨k + 1, by omega, by go_num, ?_, ?_⟩
        · have h2 := own_setClue hown2 k x y z
          rwa [take_set_replicate l (0, 0, 0) n k (x, y, z) Hn.out Hx.out] at h2
        · exact below_set3 (hb.trans (hb2.mono (by omega))) (Nat.le_refl _) _ _ _ _ _ _
      case measure => simp [intOf]; omega
    · have hkl : k = n := by omega
      subst hkl
      have hge : ¬ ((k : Int) < k) := by omega
      go_wp2
      go_ret
      refine ⟨rfl, ?_, hb⟩
      rwa [Nat.sub_self, List.replicate_zero, List.append_nil, List.take_of_length_le (by rw [Hn.out]; exact Nat.le_refl _)] at hown

set_option maxHeartbeats 1000000 in
theorem markClueS_any (l : CL) (A : Option Addr) (n c : Nat) (k0 : Int) (base : Nat) (w : World) (hn : l.length = n) (hl : n ≤ 1048576) (hk0 : 0 ≤ k0 ∧ k0 ≤ 16777216) (hown0 : w.ownsRow base 30 3 (.slice A n c) n (ccells l)) :
    Calls Tryd.prog 78 #[.slice A n c, .int .i64 k0] w fun e w' =>
      e = .returned (.int .i64 (k0 + 3 * n)) ∧ w'.ownsRow base 30 3 (.slice A n c) n (ccells (cmarks k0 n)) ∧ w.grownBy w' (Value.ownBlock (.slice A n c)) := by
  have Hn := Lib.hid hn
  obtain ⟨hk00, hk01⟩ := hk0
  clear hn
  go_enter Tryd.func78, Tryd.ntmps78
  go_wp2
  go_loopw [1, 5] (fun q i wr => ∃ k : Nat, k ≤ n ∧ i = .int .i64 k ∧ q = .int .i64 (k0 + 3 * k) ∧ wr.ownsRow base 30 3 (.slice A n c) n (ccells ((cmarks k0 n).take k ++ l.drop k)) ∧ w.grownBy wr (Value.ownBlock (.slice A n c))) (fun _ i _ => n - (intOf i).toNat)
  case atStart => exact ⟨0, Nat.zero_le _, rfl, by simp, by simpa using hown0, World.grownBy.refl _ _⟩
  case round =>
    obtain ⟨k, hk, rfl, rfl, hown, hb⟩ := hrel
    by_cases hlt : k < n
    · obtain ⟨g, rfl⟩ := own_form hown (by omega)
      obtain ⟨⟨x, y, z⟩, hz, hx⟩ := take_drop_at (cmarks k0 n) l n k (cmarks_length _ _) Hn.out hlt
      have hlt' : (k : Int) < n := by omega
      obtain ⟨d0, d1, d2⟩ := own_clueAt hown hz
      have f0 := hown.frozenAt (k * 3)
      have f1 := hown.frozenAt (k * 3 + 1)
      have f2 := hown.frozenAt (k * 3 + 2)
      have Hz := Lib.hid hz
      clear hz hx
      go_wp2
      go_roundw
      case rel =>
        refine ⟨k + 1, by omega, by go_num, by go_num, ?_, ?_⟩
        · rw [show k0 + 3 * (k : Int) + 1 + 1 = k0 + 3 * (k : Int) + 2 by omega]
          have h2 := own_setClue hown k (k0 + 3 * k) (k0 + 3 * k + 1) (k0 + 3 * k + 2)
          rwa [take_set_drop (cmarks k0 n) l n k _ (cmarks_length _ _) Hn.out (cmarks_at hlt)] at h2
        · exact gb_trans (gb_trans (gb_trans hb (hown.stored (k * 3) _).2) ((hown.stored (k * 3) _).1.stored (k * 3 + 1) _).2) (((hown.stored (k * 3) _).1.stored (k * 3 + 1) _).1.stored (k * 3 + 2) _).2
      case measure => simp [intOf]; omega
    · have hkl : k = n := by omega
      subst hkl
      have hge : ¬ ((k : Int) < k) := by omega
      go_wp2
      go_ret
      refine ⟨rfl, ?_, hb⟩
      rwa [List.take_of_length_le (by rw [cmarks_length]; exact Nat.le_refl _), List.drop_of_length_le (by rw [Hn.out]; exact Nat.le_refl _), List.append_nil] at hown

set_option maxHeartbeats 1000000 in
theorem heldClueS_any (A : Option Addr) (n c : Nat) (k0 : Int) (w : World) (hl : n ≤ 1048576) (hk0 : 0 ≤ k0 ∧ k0 ≤ 16777216) (hA : CRead w w.heap.size A (ccells (cmarks k0 n))) :
    Calls Tryd.prog 90 #[.slice A n c, .int .i64 k0] w fun e w' => e = .returned (.int .i64 (k0 + 3 * n)) ∧ w = w' := by
  obtain ⟨hk00, hk01⟩ := hk0
  go_enter Tryd.func90, Tryd.ntmps90
  go_wp2
  go_loop [1, 5] (fun q i => ∃ k : Nat, k ≤ n ∧ i = .int .i64 k ∧ q = .int .i64 (k0 + 3 * k)) (fun _ i => n - (intOf i).toNat)
  case atStart => exact ⟨0, Nat.zero_le _, rfl, by simp⟩
  case round =>
    obtain ⟨k, hk, rfl, rfl⟩ := hrel
    by_cases hlt : k < n
    · obtain ⟨b, off, rfl, hbb, c0, c1, c2⟩ := hA.clue (cmarks_at hlt)
      have hlt' : (k : Int) < n := by omega
      go_wp2
      go_round
      case rel => exact ⟨k + 1, by omega, by go_num, by go_num⟩
      case measure => simp [intOf]; omega
    · have hkl : k = n := by omega
      subst hkl
      have hge : ¬ ((k : Int) < k) := by omega
      go_wp2
      go_ret
      exact ⟨rfl, rfl⟩

/-! ## Puzzles -/
/-- A call came back with a puzzle whose clues lie in memory of its own. -/
def GotPuzzle (w : World) (p : Int) (l : CL) (e : Ending) (w' : World) : Prop :=
  ∃ A c, e = .returned (.agg #[.int .i64 p, .slice A l.length c]) ∧ w'.ownsRow w.heap.size 30 3 (.slice A l.length c) l.length (ccells l) ∧ Below w.heap.size w w'
/-- A call came back with a puzzle and a bool; its clues lie in memory of its own. -/
def GotPuzzleOk (w : World) (p : Int) (l : CL) (ok : Bool) (e : Ending) (w' : World) : Prop :=
  ∃ A c, e = .returned (.tuple #[.agg #[.int .i64 p, .slice A l.length c], .bool ok]) ∧ w'.ownsRow w.heap.size 30 3 (.slice A l.length c) l.length (ccells l) ∧ Below w.heap.size w w'

set_option maxHeartbeats 1000000 in
theorem toPuzzle_any (p : Int) (l : CL) (A : Option Addr) (c : Nat) (w : World) (hl : l.length ≤ 1048576) (hA : CRead w w.heap.size A (ccells l)) :
    Calls Tryd.prog 24 #[.agg #[.int .i64 p, .slice A l.length c]] w (GotPuzzle w p l) := by
  generalize hn : l.length = n at *
  have Hn := Lib.hid hn
  go_enter Tryd.func24, Tryd.ntmps24
  go_wp2_with (go_at_call 74; rw [← Hn.out]; refine (toClueS_any l _ _ _ (by rw [Hn.out]; exact hl) (hA.below (B' := w.heap.size) (by go_grown) (Nat.le_refl _) |>.more (by go_size))).mono ?_; rw [Hn.out]; rintro e w2 ⟨rfl, hown2, hb2⟩; have ⟨hc, hf⟩ := old_cells hb2; have hz := hb2.size; simp only [World.size_alloc] at hc hf hz)
  refine bodyPost_ret (v := .agg #[.int .i64 p, .slice (some ⟨w.heap.size + 1 + 1 + 1, 0, none⟩) n n]) (by simp [results, Tryd.results24, go_sem, hc]) rfl ?_
  simp only [World.size_alloc] at hown2 hb2
  have hb3 : Below w.heap.size w w2 := Below.trans (b := _) (by go_grown) (hb2.mono (by omega))
  refine ⟨some ⟨w.heap.size + 1 + 1 + 1, 0, none⟩, n, by rw [hn], ?_, ?_⟩
  · rw [hn]
    exact own_far (own_far (own_far (own_lower hown2 (by omega)) (p := ⟨w.heap.size + 1 + 1, 1, none⟩) (by simp) _) (p := ⟨w.heap.size + 1, 0, none⟩) (by simp) _) (p := ⟨w.heap.size + 1, 1, none⟩) (by simp) _
  · exact ((hb3.setCell (p := ⟨w.heap.size + 1 + 1, 1, none⟩) (by simp; omega) _).setCell (p := ⟨w.heap.size + 1, 0, none⟩) (by simp) _).setCell (p := ⟨w.heap.size + 1, 1, none⟩) (by simp) _

set_option maxHeartbeats 1000000 in
theorem eqPuzzle_any (p q : Int) (l m : CL) (A B : Option Addr) (c d : Nat) (w : World) (hl : l.length ≤ maxLen) (hm : m.length ≤ maxLen)
    (hA : CRead w w.heap.size A (ccells l)) (hB : CRead w w.heap.size B (ccells m)) :
    Calls Tryd.prog 27 #[.agg #[.int .i64 p, .slice A l.length c], .agg #[.int .i64 q, .slice B m.length d]] w fun e w' =>
      e = .returned (.bool (decide (p = q ∧ l = m))) ∧ Below w.heap.size w w' := by
  by_cases hpq : p = q
  · subst hpq
    by_cases hlm : l = m
    · have e : decide (p = p ∧ l = m) = true := by simp [hlm]
      rw [e]
      clear e
      have Hlm := Lib.hid hlm
      clear hlm
      go_enter Tryd.func27, Tryd.ntmps27
      go_wp2_with (go_at_call 77; refine (eqClueS_any l m _ _ _ _ _ hl hm ((hA.below (B' := w.heap.size) (by go_grown) (Nat.le_refl _)).more (by go_size)) ((hB.below (B' := w.heap.size) (by go_grown) (Nat.le_refl _)).more (by go_size))).mono ?_; rw [decide_eq_true Hlm.out]; rintro e w2 ⟨rfl, hb2⟩; simp only [World.size_alloc] at hb2)
      go_ret
      exact ⟨rfl, Below.trans (b := _) (by go_grown) (hb2.mono (by omega))⟩
    · have e : decide (p = p ∧ l = m) = false := by simp [hlm]
      rw [e]
      clear e
      have Hlm := Lib.hid hlm
      clear hlm
      go_enter Tryd.func27, Tryd.ntmps27
      go_wp2_with (go_at_call 77; refine (eqClueS_any l m _ _ _ _ _ hl hm ((hA.below (B' := w.heap.size) (by go_grown) (Nat.le_refl _)).more (by go_size)) ((hB.below (B' := w.heap.size) (by go_grown) (Nat.le_refl _)).more (by go_size))).mono ?_; rw [decide_eq_false Hlm.out]; rintro e w2 ⟨rfl, hb2⟩; simp only [World.size_alloc] at hb2)
      go_ret
      exact ⟨rfl, Below.trans (b := _) (by go_grown) (hb2.mono (by omega))⟩
  · have e : decide (p = q ∧ l = m) = false := by simp [hpq]
    rw [e]
    clear e
    go_enter Tryd.func27, Tryd.ntmps27
    go_wp2
    go_ret
    exact ⟨rfl, by go_grown⟩

set_option maxHeartbeats 1000000 in
theorem markPuzzle_any (p : Int) (l : CL) (A : Option Addr) (n c : Nat) (k0 : Int) (base : Nat) (w : World) (hn : l.length = n) (hl : n ≤ 1048576) (hk0 : 0 ≤ k0 ∧ k0 ≤ 16777216) (hown0 : w.ownsRow base 30 3 (.slice A n c) n (ccells l)) :
    Calls Tryd.prog 28 #[.agg #[.int .i64 p, .slice A n c], .int .i64 k0] w fun e w' =>
      e = .returned (.int .i64 (k0 + 3 * n)) ∧ w'.ownsRow base 30 3 (.slice A n c) n (ccells (cmarks k0 n)) ∧ w.grownBy w' (Value.ownBlock (.slice A n c)) := by
  have Hn := Lib.hid hn
  clear hn
  have hk1 : 0 ≤ k0 + 3 * (n : Int) := by omega
  go_enter Tryd.func28, Tryd.ntmps28
  go_wp2_with (go_at_call 78; refine (markClueS_any l _ _ _ _ _ _ Hn.out hl hk0 (hown0.alloc _)).mono ?_; rintro e w2 ⟨rfl, hown2, hb2⟩)
  go_ret
  exact ⟨rfl, hown2, below_gb (B := w.heap.size) (by go_grown) hb2 (Nat.le_refl _)⟩

set_option maxHeartbeats 1000000 in
theorem heldPuzzle_any (p : Int) (A : Option Addr) (n c : Nat) (k0 : Int) (w : World) (hl : n ≤ 1048576) (hk0 : 0 ≤ k0 ∧ k0 ≤ 16777216) (hA : CRead w w.heap.size A (ccells (cmarks k0 n))) :
    Calls Tryd.prog 55 #[.agg #[.int .i64 p, .slice A n c], .int .i64 k0] w fun e w' => e = .returned (.int .i64 (k0 + 3 * n)) ∧ Below w.heap.size w w' := by
  have hk1 : 0 ≤ k0 + 3 * (n : Int) := by omega
  go_enter Tryd.func55, Tryd.ntmps55
  go_wp2_with (go_at_call 90; refine (heldClueS_any _ _ _ _ _ hl hk0 ((hA.below (B' := w.heap.size) (by go_grown) (Nat.le_refl _)).more (by go_size))).mono ?_; rintro e w2 ⟨rfl, rfl⟩)
  go_ret
  exact ⟨rfl, by go_grown⟩
end Go.Proofs.YtefkcfkicmfhlaaDoor
/-
  WHAT A CLUE, A PUZZLE IS (pure), and what the laws on them answer.
-/
namespace Go.Proofs.YtefkcfkicmfhlaaDoor
open Go.RowKit

def prsI (n : Int) : Int := if n = 1 then 0 else if n = 2 then 1 else if n = 3 then 3 else if n = 4 then 6 else 10
/-- is c a clue of n people? (n in 1..5) -/
def isCB (n : Int) (c : CT) : Bool :=
  if c.1 = 0 ∨ c.1 = 1 then l1InB c.2.1 0 (n - 1) && l1InB c.2.2 (c.2.1 + 1) (n - 1)
  else if c.1 = 2 then l1InB c.2.1 0 (n - 1) && l1InB c.2.2 0 (n - 1)
  else if c.1 = 3 then l1InB c.2.1 0 (prsI n) && decide (c.2.2 = 0)
  else if c.1 = 4 then l1InB c.2.1 0 10 && decide (c.2.2 = 0)
  else if c.1 = 5 then l1InB c.2.1 1 n && decide (c.2.2 = 0)
  else false
def isGuests (n : Int) : Bool := l1InB n 1 5
def isU (p : Int) (l : CL) : Bool := isGuests p && (decide (l.length ≤ 8) && l.all (isCB p))
def resIsClue (n a b c : Int) : Bool := isGuests n && isCB n (a, b, c)
def resIsPuzzle (p : Int) (l : CL) : Bool := isU p l
theorem isU_parts {p : Int} {l : CL} (h : isU p l = true) : 1 ≤ p ∧ p ≤ 5 ∧ l.length ≤ 8 ∧ ∀ c ∈ l, isCB p c = true := by
  unfold isU isGuests l1InB at h
  simp only [Bool.and_eq_true, decide_eq_true_eq, List.all_eq_true] at h
  exact ⟨h.1.1, h.1.2, h.2.1, h.2.2⟩
end Go.Proofs.YtefkcfkicmfhlaaDoor
/-
  'PuzzleText': the text of a puzzle, pure; strings.Join of its pieces.
-/
namespace Go.Proofs.YtefkcfkicmfhlaaDoor
open Go.RowKit

def pieceU (q : Int × Int × Int) : ByteArray := (((dgs q.1 ++ ⟨#[46]⟩) ++ dgs q.2.1) ++ ⟨#[46]⟩) ++ dgs q.2.2
def joinU (l : CL) : ByteArray := ⟨(Lib.join (l.map fun q => (pieceU q).data.toList) [44]).toArray⟩
def headU (p : Int) : ByteArray := dgs p ++ ⟨#[58]⟩
def textU (p : Int) (l : CL) : ByteArray := headU p ++ joinU l
/-- the text of a party -/
def resPuzzleText (p : Int) (l : CL) : ByteArray × Bool := if isU p l then (textU p l, true) else (⟨#[]⟩, false)
theorem textU_nil (p : Int) : textU p [] = headU p := by
  unfold textU joinU
  rw [List.map_nil, Lib.join_nil]
  apply ByteArray.ext
  simp
theorem textU_one (p : Int) (q : Int × Int × Int) : textU p [q] = headU p ++ pieceU q := by
  unfold textU joinU
  rw [List.map_cons, List.map_nil, Lib.join_one]
theorem textU_more (p : Int) (r : CT) (l : CL) (q : Int × Int × Int) : textU p (r :: l ++ [q]) = (textU p (r :: l) ++ ⟨#[44]⟩) ++ pieceU q := by
  unfold textU joinU
  rw [List.cons_append, List.map_cons, List.map_append, List.map_cons, List.map_nil, Lib.join_cons, List.map_cons, Lib.join_cons]
  apply ByteArray.ext
  apply Array.ext'
  simp [Lib.joinTail]
theorem textU_first (p : Int) {l : CL} {q : CT} (h : l[0]? = some q) : textU p (l.take 1) = textU p (l.take 0) ++ pieceU q := by
  cases l with
  | nil => simp at h
  | cons r l =>
    rw [show r = q by simpa using h, List.take_zero, textU_nil, ← textU_one]
    rfl
theorem textU_next (p : Int) {l : CL} {j : Nat} {q : CT} (hj : 0 < j) (h : l[j]? = some q) : textU p (l.take (j + 1)) = (textU p (l.take j) ++ ⟨#[44]⟩) ++ pieceU q := by
  obtain ⟨i, rfl⟩ : ∃ i, j = i + 1 := ⟨j - 1, by omega⟩
  cases l with
  | nil => simp at h
  | cons r l =>
    rw [List.take_add_one, h, List.take_succ_cons, Option.toList_some, textU_more]
theorem isU_nums {p : Int} {l : CL} (hp : isU p l = true) : ∀ q ∈ l, 0 ≤ q.1 ∧ q.1 ≤ 5 ∧ 0 ≤ q.2.1 ∧ q.2.1 ≤ 10 ∧ 0 ≤ q.2.2 ∧ q.2.2 ≤ 4 := by
  obtain ⟨h1, h5, _, h⟩ := isU_parts hp
  rintro ⟨k, a, b⟩ hq
  have := h _ hq
  have hpr : prsI p ≤ 10 := by unfold prsI; repeat' split <;> omega
  unfold isCB l1InB at this
  dsimp only at this ⊢
  repeat' split at this
  all_goals first | omega | (simp only [Bool.and_eq_true, decide_eq_true_eq] at this; omega) | (simp at this)
theorem pieceU_size {p : Int} {l : CL} (hp : isU p l = true) : ∀ q ∈ l, (pieceU q).size ≤ 8 := by
  intro q hq
  have hr := isU_nums hp q hq
  have e1 := dgs_size (x := q.1) (by omega) (by omega)
  have e2 := dgs_size (x := q.2.1) (by omega) (by omega)
  have e3 := dgs_size (x := q.2.2) (by omega) (by omega)
  unfold pieceU
  simp only [ByteArray.size_append]
  have : (ByteArray.mk #[46]).size = 1 := rfl
  omega
theorem lensU_le (l : CL) (h : ∀ q ∈ l, (pieceU q).size ≤ 8) : Lib.lens (l.map fun q => (pieceU q).data.toList) ≤ 8 * l.length := by
  induction l with
  | nil => simp [Lib.lens]
  | cons q l ih =>
    have h1 := ih fun x hx => h x (List.mem_cons_of_mem _ hx)
    have h2 : (pieceU q).data.toList.length ≤ 8 := h q (List.mem_cons_self ..)
    simp only [Lib.lens, List.map_cons, List.sum_cons, List.length_cons] at h1 ⊢
    omega
theorem joinU_size (l : CL) (h : ∀ q ∈ l, (pieceU q).size ≤ 8) : (Lib.join (l.map fun q => (pieceU q).data.toList) [44]).length ≤ 9 * l.length := by
  cases l with
  | nil => simp [Lib.join_nil]
  | cons q l =>
    have h1 := lensU_le l fun x hx => h x (List.mem_cons_of_mem _ hx)
    have h2 : (pieceU q).data.toList.length ≤ 8 := h q (List.mem_cons_self ..)
    rw [List.map_cons, Lib.join_cons, List.length_append, Lib.joinTail_length]
    simp only [List.length_map, List.length_cons, List.length_nil]
    omega
theorem textU_size (p : Int) (h0 : 0 ≤ p) (h1 : p ≤ 12) (l : CL) (h : ∀ q ∈ l, (pieceU q).size ≤ 8) : (textU p l).size ≤ 3 + 9 * l.length := by
  have h2 := joinU_size l h
  have e : (joinU l).size = (Lib.join (l.map fun q => (pieceU q).data.toList) [44]).length := rfl
  have h3 := dgs_size (x := p) h0 (by omega)
  have : (ByteArray.mk #[58]).size = 1 := rfl
  unfold textU headU
  rw [ByteArray.size_append, ByteArray.size_append]
  omega
theorem joinU_any (l : CL) (b c : Nat) (w : World) (hl : l.length ≤ 1048576) (hq : ∀ q ∈ l, (pieceU q).size ≤ 8) (hcells : ∀ (j : Nat) q, l[j]? = some q → w.cell? ⟨b, j, none⟩ = some (.string (pieceU q))) (hb : b < w.heap.size) (hc : l.length ≤ c) :
    Calls Tryd.prog 104 #[.slice (some ⟨b, 0, none⟩) l.length c, .string ⟨#[44]⟩] w fun e w' => e = .returned (.string (joinU l)) ∧ Below w.heap.size w w' := by
  have hs := joinU_size l hq
  have e : (l.map pieceU).map (fun x => x.data.toList) = l.map fun q => (pieceU q).data.toList := by rw [List.map_map]; rfl
  have h := Any.strings_Join Tryd.join Tryd.joinExtra b 0 c (l.map pieceU) ⟨#[44]⟩ w (fun j x hx => by
    rw [List.getElem?_map] at hx
    obtain ⟨q, hq', rfl⟩ := Option.map_eq_some_iff.1 hx
    rw [Nat.zero_add]
    exact hcells j q hq') hb (by rw [List.length_map]; omega) (by rw [List.length_map]; exact hc) (by rw [e]; show (Lib.join _ [44]).length ≤ _; omega)
  rw [e, List.length_map] at h
  exact h
end Go.Proofs.YtefkcfkicmfhlaaDoor
/-
  WHAT A CLUE, A PUZZLE IS: the model's functions, by their contracts.
-/
namespace Go.Proofs.YtefkcfkicmfhlaaDoor
open Go.RowKit

set_option maxHeartbeats 400000 in
theorem pzPeople_any (n : Int) (w : World) : Calls Tryd.prog 64 #[.int .i64 n] w fun e w' => e = .returned (.bool (isGuests n)) ∧ w = w' := by
  go_enter Tryd.func64, Tryd.ntmps64
  go_wp2_with (go_at_call 91; refine (l1In_any _ _ _ _).mono ?_; rintro e w' ⟨rfl, rfl⟩)
  go_ret
  exact ⟨rfl, rfl⟩

set_option maxHeartbeats 4000000 in
set_option maxRecDepth 100000 in
theorem pzClue_any (n k a b : Int) (h1 : 1 ≤ n) (h5 : n ≤ 5) (w : World) :
    Calls Tryd.prog 65 #[.int .i64 n, .agg #[.int .i64 k, .int .i64 a, .int .i64 b]] w fun e w' => e = .returned (.bool (isCB n (k, a, b))) ∧ Below w.heap.size w w' := by
  by_cases hk0 : k = 0
  · subst hk0
    by_cases ha : 0 ≤ a ∧ a ≤ n - 1
    · by_cases hb : a + 1 ≤ b ∧ b ≤ n - 1
      · rw [show isCB n (0, a, b) = true from by unfold isCB l1InB; simp; omega]
        go_enter Tryd.func65, Tryd.ntmps65
        go_wp2_with fail
        refine (l1In_yes a (0) (n - 1) (by omega) (by omega) _).mono ?_
        rintro e w' ⟨rfl, rfl⟩
        go_wp2_with fail
        refine (l1In_yes b (a + 1) (n - 1) (by omega) (by omega) _).mono ?_
        rintro e w' ⟨rfl, rfl⟩
        go_wp2
        go_ret
        exact ⟨rfl, by go_grown⟩
      · rw [show isCB n (0, a, b) = false from by unfold isCB l1InB; simp; omega]
        go_enter Tryd.func65, Tryd.ntmps65
        go_wp2_with fail
        refine (l1In_yes a (0) (n - 1) (by omega) (by omega) _).mono ?_
        rintro e w' ⟨rfl, rfl⟩
        go_wp2_with fail
        refine (l1In_no b (a + 1) (n - 1) (by omega) _).mono ?_
        rintro e w' ⟨rfl, rfl⟩
        go_wp2
        go_ret
        exact ⟨rfl, by go_grown⟩
    · rw [show isCB n (0, a, b) = false from by unfold isCB l1InB; simp; omega]
      go_enter Tryd.func65, Tryd.ntmps65
      go_wp2_with fail
      refine (l1In_no a (0) (n - 1) (by omega) _).mono ?_
      rintro e w' ⟨rfl, rfl⟩
      go_wp2
      go_ret
      exact ⟨rfl, by go_grown⟩
  by_cases hk1 : k = 1
  · subst hk1
    by_cases ha : 0 ≤ a ∧ a ≤ n - 1
    · by_cases hb : a + 1 ≤ b ∧ b ≤ n - 1
      · rw [show isCB n (1, a, b) = true from by unfold isCB l1InB; simp; omega]
        go_enter Tryd.func65, Tryd.ntmps65
        go_wp2_with fail
        refine (l1In_yes a (0) (n - 1) (by omega) (by omega) _).mono ?_
        rintro e w' ⟨rfl, rfl⟩
        go_wp2_with fail
        refine (l1In_yes b (a + 1) (n - 1) (by omega) (by omega) _).mono ?_
        rintro e w' ⟨rfl, rfl⟩
        go_wp2
        go_ret
        exact ⟨rfl, by go_grown⟩
      · rw [show isCB n (1, a, b) = false from by unfold isCB l1InB; simp; omega]
        go_enter Tryd.func65, Tryd.ntmps65
        go_wp2_with fail
        refine (l1In_yes a (0) (n - 1) (by omega) (by omega) _).mono ?_
        rintro e w' ⟨rfl, rfl⟩
        go_wp2_with fail
        refine (l1In_no b (a + 1) (n - 1) (by omega) _).mono ?_
        rintro e w' ⟨rfl, rfl⟩
        go_wp2
        go_ret
        exact ⟨rfl, by go_grown⟩
    · rw [show isCB n (1, a, b) = false from by unfold isCB l1InB; simp; omega]
      go_enter Tryd.func65, Tryd.ntmps65
      go_wp2_with fail
      refine (l1In_no a (0) (n - 1) (by omega) _).mono ?_
      rintro e w' ⟨rfl, rfl⟩
      go_wp2
      go_ret
      exact ⟨rfl, by go_grown⟩
  by_cases hk2 : k = 2
  · subst hk2
    by_cases ha : 0 ≤ a ∧ a ≤ n - 1
    · by_cases hb : 0 ≤ b ∧ b ≤ n - 1
      · rw [show isCB n (2, a, b) = true from by unfold isCB l1InB; simp; omega]
        go_enter Tryd.func65, Tryd.ntmps65
        go_wp2_with fail
        refine (l1In_yes a (0) (n - 1) (by omega) (by omega) _).mono ?_
        rintro e w' ⟨rfl, rfl⟩
        go_wp2_with fail
        refine (l1In_yes b (0) (n - 1) (by omega) (by omega) _).mono ?_
        rintro e w' ⟨rfl, rfl⟩
        go_wp2
        go_ret
        exact ⟨rfl, by go_grown⟩
      · rw [show isCB n (2, a, b) = false from by unfold isCB l1InB; simp; omega]
        go_enter Tryd.func65, Tryd.ntmps65
        go_wp2_with fail
        refine (l1In_yes a (0) (n - 1) (by omega) (by omega) _).mono ?_
        rintro e w' ⟨rfl, rfl⟩
        go_wp2_with fail
        refine (l1In_no b (0) (n - 1) (by omega) _).mono ?_
        rintro e w' ⟨rfl, rfl⟩
        go_wp2
        go_ret
        exact ⟨rfl, by go_grown⟩
    · rw [show isCB n (2, a, b) = false from by unfold isCB l1InB; simp; omega]
      go_enter Tryd.func65, Tryd.ntmps65
      go_wp2_with fail
      refine (l1In_no a (0) (n - 1) (by omega) _).mono ?_
      rintro e w' ⟨rfl, rfl⟩
      go_wp2
      go_ret
      exact ⟨rfl, by go_grown⟩
  by_cases hk3 : k = 3
  · subst hk3
    obtain rfl | rfl | rfl | rfl | rfl : n = 1 ∨ n = 2 ∨ n = 3 ∨ n = 4 ∨ n = 5 := by omega
    · by_cases ha : 0 ≤ a ∧ a ≤ 0
      · by_cases hb : b = 0
        · subst hb
          rw [show isCB 1 (3, a, 0) = true from by unfold isCB l1InB prsI; simp; omega]
          go_enter Tryd.func65, Tryd.ntmps65
          go_wp2_with fail
          refine (l1In_yes a (0) (0) (by omega) (by omega) _).mono ?_
          rintro e w' ⟨rfl, rfl⟩
          go_wp2
          go_ret
          exact ⟨rfl, by go_grown⟩
        · have hb' : (b == 0) = false := by simp [hb]
          rw [show isCB 1 (3, a, b) = false from by unfold isCB l1InB prsI; simp; omega]
          go_enter Tryd.func65, Tryd.ntmps65
          go_wp2_with fail
          refine (l1In_yes a (0) (0) (by omega) (by omega) _).mono ?_
          rintro e w' ⟨rfl, rfl⟩
          go_wp2
          go_ret
          exact ⟨rfl, by go_grown⟩
      · rw [show isCB 1 (3, a, b) = false from by unfold isCB l1InB prsI; simp; omega]
        go_enter Tryd.func65, Tryd.ntmps65
        go_wp2_with fail
        refine (l1In_no a (0) (0) (by omega) _).mono ?_
        rintro e w' ⟨rfl, rfl⟩
        go_wp2
        go_ret
        exact ⟨rfl, by go_grown⟩
    · by_cases ha : 0 ≤ a ∧ a ≤ 1
      · by_cases hb : b = 0
        · subst hb
          rw [show isCB 2 (3, a, 0) = true from by unfold isCB l1InB prsI; simp; omega]
          go_enter Tryd.func65, Tryd.ntmps65
          go_wp2_with fail
          refine (l1In_yes a (0) (1) (by omega) (by omega) _).mono ?_
          rintro e w' ⟨rfl, rfl⟩
          go_wp2
          go_ret
          exact ⟨rfl, by go_grown⟩
        · have hb' : (b == 0) = false := by simp [hb]
          rw [show isCB 2 (3, a, b) = false from by unfold isCB l1InB prsI; simp; omega]
          go_enter Tryd.func65, Tryd.ntmps65
          go_wp2_with fail
          refine (l1In_yes a (0) (1) (by omega) (by omega) _).mono ?_
          rintro e w' ⟨rfl, rfl⟩
          go_wp2
          go_ret
          exact ⟨rfl, by go_grown⟩
      · rw [show isCB 2 (3, a, b) = false from by unfold isCB l1InB prsI; simp; omega]
        go_enter Tryd.func65, Tryd.ntmps65
        go_wp2_with fail
        refine (l1In_no a (0) (1) (by omega) _).mono ?_
        rintro e w' ⟨rfl, rfl⟩
        go_wp2
        go_ret
        exact ⟨rfl, by go_grown⟩
    · by_cases ha : 0 ≤ a ∧ a ≤ 3
      · by_cases hb : b = 0
        · subst hb
          rw [show isCB 3 (3, a, 0) = true from by unfold isCB l1InB prsI; simp; omega]
          go_enter Tryd.func65, Tryd.ntmps65
          go_wp2_with fail
          refine (l1In_yes a (0) (3) (by omega) (by omega) _).mono ?_
          rintro e w' ⟨rfl, rfl⟩
          go_wp2
          go_ret
          exact ⟨rfl, by go_grown⟩
        · have hb' : (b == 0) = false := by simp [hb]
          rw [show isCB 3 (3, a, b) = false from by unfold isCB l1InB prsI; simp; omega]
          go_enter Tryd.func65, Tryd.ntmps65
          go_wp2_with fail
          refine (l1In_yes a (0) (3) (by omega) (by omega) _).mono ?_
          rintro e w' ⟨rfl, rfl⟩
          go_wp2
          go_ret
          exact ⟨rfl, by go_grown⟩
      · rw [show isCB 3 (3, a, b) = false from by unfold isCB l1InB prsI; simp; omega]
        go_enter Tryd.func65, Tryd.ntmps65
        go_wp2_with fail
        refine (l1In_no a (0) (3) (by omega) _).mono ?_
        rintro e w' ⟨rfl, rfl⟩
        go_wp2
        go_ret
        exact ⟨rfl, by go_grown⟩
    · by_cases ha : 0 ≤ a ∧ a ≤ 6
      · by_cases hb : b = 0
        · subst hb
          rw [show isCB 4 (3, a, 0) = true from by unfold isCB l1InB prsI; simp; omega]
          go_enter Tryd.func65, Tryd.ntmps65
          go_wp2_with fail
          refine (l1In_yes a (0) (6) (by omega) (by omega) _).mono ?_
          rintro e w' ⟨rfl, rfl⟩
          go_wp2
          go_ret
          exact ⟨rfl, by go_grown⟩
        · have hb' : (b == 0) = false := by simp [hb]
          rw [show isCB 4 (3, a, b) = false from by unfold isCB l1InB prsI; simp; omega]
          go_enter Tryd.func65, Tryd.ntmps65
          go_wp2_with fail
          refine (l1In_yes a (0) (6) (by omega) (by omega) _).mono ?_
          rintro e w' ⟨rfl, rfl⟩
          go_wp2
          go_ret
          exact ⟨rfl, by go_grown⟩
      · rw [show isCB 4 (3, a, b) = false from by unfold isCB l1InB prsI; simp; omega]
        go_enter Tryd.func65, Tryd.ntmps65
        go_wp2_with fail
        refine (l1In_no a (0) (6) (by omega) _).mono ?_
        rintro e w' ⟨rfl, rfl⟩
        go_wp2
        go_ret
        exact ⟨rfl, by go_grown⟩
    · by_cases ha : 0 ≤ a ∧ a ≤ 10
      · by_cases hb : b = 0
        · subst hb
          rw [show isCB 5 (3, a, 0) = true from by unfold isCB l1InB prsI; simp; omega]
          go_enter Tryd.func65, Tryd.ntmps65
          go_wp2_with fail
          refine (l1In_yes a (0) (10) (by omega) (by omega) _).mono ?_
          rintro e w' ⟨rfl, rfl⟩
          go_wp2
          go_ret
          exact ⟨rfl, by go_grown⟩
        · have hb' : (b == 0) = false := by simp [hb]
          rw [show isCB 5 (3, a, b) = false from by unfold isCB l1InB prsI; simp; omega]
          go_enter Tryd.func65, Tryd.ntmps65
          go_wp2_with fail
          refine (l1In_yes a (0) (10) (by omega) (by omega) _).mono ?_
          rintro e w' ⟨rfl, rfl⟩
          go_wp2
          go_ret
          exact ⟨rfl, by go_grown⟩
      · rw [show isCB 5 (3, a, b) = false from by unfold isCB l1InB prsI; simp; omega]
        go_enter Tryd.func65, Tryd.ntmps65
        go_wp2_with fail
        refine (l1In_no a (0) (10) (by omega) _).mono ?_
        rintro e w' ⟨rfl, rfl⟩
        go_wp2
        go_ret
        exact ⟨rfl, by go_grown⟩
  by_cases hk4 : k = 4
  · subst hk4
    by_cases ha : 0 ≤ a ∧ a ≤ 10
    · by_cases hb : b = 0
      · subst hb
        rw [show isCB n (4, a, 0) = true from by unfold isCB l1InB prsI; simp; omega]
        go_enter Tryd.func65, Tryd.ntmps65
        go_wp2_with fail
        refine (l1In_yes a (0) (10) (by omega) (by omega) _).mono ?_
        rintro e w' ⟨rfl, rfl⟩
        go_wp2
        go_ret
        exact ⟨rfl, by go_grown⟩
      · have hb' : (b == 0) = false := by simp [hb]
        rw [show isCB n (4, a, b) = false from by unfold isCB l1InB prsI; simp; omega]
        go_enter Tryd.func65, Tryd.ntmps65
        go_wp2_with fail
        refine (l1In_yes a (0) (10) (by omega) (by omega) _).mono ?_
        rintro e w' ⟨rfl, rfl⟩
        go_wp2
        go_ret
        exact ⟨rfl, by go_grown⟩
    · rw [show isCB n (4, a, b) = false from by unfold isCB l1InB prsI; simp; omega]
      go_enter Tryd.func65, Tryd.ntmps65
      go_wp2_with fail
      refine (l1In_no a (0) (10) (by omega) _).mono ?_
      rintro e w' ⟨rfl, rfl⟩
      go_wp2
      go_ret
      exact ⟨rfl, by go_grown⟩
  by_cases hk5 : k = 5
  · subst hk5
    by_cases ha : 1 ≤ a ∧ a ≤ n
    · by_cases hb : b = 0
      · subst hb
        rw [show isCB n (5, a, 0) = true from by unfold isCB l1InB prsI; simp; omega]
        go_enter Tryd.func65, Tryd.ntmps65
        go_wp2_with fail
        refine (l1In_yes a (1) (n) (by omega) (by omega) _).mono ?_
        rintro e w' ⟨rfl, rfl⟩
        go_wp2
        go_ret
        exact ⟨rfl, by go_grown⟩
      · have hb' : (b == 0) = false := by simp [hb]
        rw [show isCB n (5, a, b) = false from by unfold isCB l1InB prsI; simp; omega]
        go_enter Tryd.func65, Tryd.ntmps65
        go_wp2_with fail
        refine (l1In_yes a (1) (n) (by omega) (by omega) _).mono ?_
        rintro e w' ⟨rfl, rfl⟩
        go_wp2
        go_ret
        exact ⟨rfl, by go_grown⟩
    · rw [show isCB n (5, a, b) = false from by unfold isCB l1InB prsI; simp; omega]
      go_enter Tryd.func65, Tryd.ntmps65
      go_wp2_with fail
      refine (l1In_no a (1) (n) (by omega) _).mono ?_
      rintro e w' ⟨rfl, rfl⟩
      go_wp2
      go_ret
      exact ⟨rfl, by go_grown⟩
  rw [show isCB n (k, a, b) = false from by unfold isCB; simp [hk0, hk1, hk2, hk3, hk4, hk5]]
  go_enter Tryd.func65, Tryd.ntmps65
  go_wp2
  go_ret
  exact ⟨rfl, by go_grown⟩

set_option maxHeartbeats 4000000 in
set_option maxRecDepth 100000 in
theorem pzGood_any (p : Int) (l : CL) (A : Option Addr) (c : Nat) (w : World) (hl : l.length ≤ 1048576) (hA : CRead w w.heap.size A (ccells l)) :
    Calls Tryd.prog 72 #[.agg #[.int .i64 p, .slice A l.length c]] w fun e w' => e = .returned (.bool (isU p l)) ∧ Below w.heap.size w w' := by
  cases hg : isGuests p with
  | false =>
    rw [show isU p l = false from by unfold isU; rw [hg]; rfl]
    have Hg := Lib.hid hg
    clear hg
    go_enter Tryd.func72, Tryd.ntmps72
    go_wp2_with (go_at_call 64; refine (pzPeople_any _ _).mono ?_; rw [Hg.out]; rintro e w' ⟨rfl, rfl⟩)
    go_ret
    exact ⟨rfl, by go_grown⟩
  | true =>
    have hp : 1 ≤ p ∧ p ≤ 5 := by simpa [isGuests, l1InB] using hg
    obtain ⟨h1, h5⟩ := hp
    have Hg := Lib.hid hg
    by_cases h8 : 8 < (l.length : Int)
    · rw [show isU p l = false from by unfold isU; rw [show decide (l.length ≤ 8) = false from decide_eq_false (by omega)]; simp]
      clear hg
      go_enter Tryd.func72, Tryd.ntmps72
      go_wp2_with (go_at_call 64; refine (pzPeople_any _ _).mono ?_; rw [Hg.out]; rintro e w' ⟨rfl, rfl⟩)
      go_ret
      exact ⟨rfl, by go_grown⟩
    · have he : isU p l = l.all (isCB p) := by unfold isU; rw [hg, show decide (l.length ≤ 8) = true from decide_eq_true (by omega)]; simp
      rw [he]
      clear hg he
      generalize hn : l.length = n at *
      have Hn := Lib.hid hn
      clear hn
      go_enter Tryd.func72, Tryd.ntmps72
      go_wp2_with (go_at_call 64; refine (pzPeople_any _ _).mono ?_; rw [Hg.out]; rintro e w' ⟨rfl, rfl⟩)
      have hbw : Below (w.heap.size + 1) (w.alloc (Obj.cells #[.int .i64 p, .slice A n c] 47)) (w.alloc (Obj.cells #[.int .i64 p, .slice A n c] 47)) := Below.refl _ _
      go_loopw [18] (fun i wr => ∃ k : Nat, k ≤ n ∧ i = .int .i64 k ∧ (l.take k).all (isCB p) = true ∧ Below (w.heap.size + 1) (w.alloc (Obj.cells #[.int .i64 p, .slice A n c] 47)) wr) (fun i _ => n - (intOf i).toNat)
      case atStart => exact ⟨0, Nat.zero_le _, rfl, rfl, hbw⟩
      case round =>
        obtain ⟨k, hk, rfl, hgood, hb⟩ := hrel
        have Hgood := Lib.hid hgood
        clear hgood hbw
        have hs := hb.size
        simp only [World.size_alloc] at hs
        have hbw : Below w.heap.size w wr := Below.trans (b := _) (by go_grown) (hb.mono (by omega))
        have u0 : wr.cell? ⟨w.heap.size, 0, none⟩ = some (.int .i64 p) := (hb.cell (p := ⟨w.heap.size, 0, none⟩) (by simp)).trans (by simp)
        have u1 : wr.cell? ⟨w.heap.size, 1, none⟩ = some (.slice A n c) := (hb.cell (p := ⟨w.heap.size, 1, none⟩) (by simp)).trans (by simp)
        by_cases hlt : k < n
        · obtain ⟨⟨x, y, z⟩, hx⟩ := getSome l k (by rw [Hn.out]; exact hlt)
          obtain ⟨b, off, rfl, hbb, c0, c1, c2⟩ := (hA.below hbw (Nat.le_refl _)).clue hx
          have hki : (k : Int) < (n : Int) := by omega
          have Hx := Lib.hid hx
          clear hx
          have v0 : (wr.alloc (Obj.cells #[.int .i64 x, .int .i64 y, .int .i64 z] 30)).cell? ⟨w.heap.size, 0, none⟩ = some (.int .i64 p) := (World.cell?_alloc_lt _ _ _ (by show w.heap.size < wr.heap.size; omega)).trans u0
          go_wp2_with fail
          refine (pzClue_any p x y z h1 h5 _).mono ?_
          rintro e w2 ⟨rfl, hb2⟩
          have hb3 : Below (w.heap.size + 1) (w.alloc (Obj.cells #[.int .i64 p, .slice (some ⟨b, off, none⟩) n c] 47)) w2 := hb.trans (Below.trans (b := _) (by go_grown) (hb2.mono (by simp; omega)))
          have hb4 : Below w.heap.size w w2 := hbw.trans (Below.trans (b := _) (by go_grown) (hb2.mono (by simp; omega)))
          clear c0 c1 c2 u0 u1 v0
          cases hq : isCB p (x, y, z)
          · go_wp2
            go_ret
            refine ⟨?_, hb4⟩
            have : l.all (isCB p) = false := by
              rw [List.all_eq_false]
              exact ⟨_, List.mem_of_getElem? Hx.out, by simp [hq]⟩
            rw [this]
            rfl
          · go_wp2
            go_roundw
            case rel =>
              refine ⟨k + 1, by omega, by go_num, ?_, hb3⟩
              rw [List.take_add_one, Hx.out, List.all_append, Hgood.out]
              simp [hq]
            case measure => simp [intOf]; omega
        · have hkl : k = n := by omega
          subst hkl
          have hge : ¬ ((k : Int) < k) := by omega
          go_wp2
          go_ret
          refine ⟨?_, hbw⟩
          have e := Hgood.out
          rw [List.take_of_length_le (by rw [Hn.out]; exact Nat.le_refl _)] at e
          rw [e]
          rfl
end Go.Proofs.YtefkcfkicmfhlaaDoor
