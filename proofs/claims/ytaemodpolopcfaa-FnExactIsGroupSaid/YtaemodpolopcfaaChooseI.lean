/-
  'impl.ChooseParty', by its contract.
-/
import Derived.Test.YtaemodpolopcfaaChoice
import Derived.Test.YtaemodpolopcfaaBox
import Derived.Test.YtaemodpolopcfaaHas
import Derived.Test.YtaemodpolopcfaaShelf
import Derived.Deep.LoopGhost
namespace Go.Proofs.Ytaemodpolopcfaa
open Go.RowKit

set_option maxHeartbeats 1000000 in
set_option maxRecDepth 100000 in
theorem bsearch_none (a : Option Addr) (c : Nat) (x : Int) (w : World) :
    Calls Try.prog 102 #[.slice a 0 c, .int .i64 x] w fun e w' => e = .returned (.tuple #[.int .i64 0, .bool false]) ∧ w' = w := by
  go_enter Try.func102, Try.ntmps102
  go_wp2
  go_loopg [7, 8] 0 (fun _ s7 s8 wr => s7 = .int .i64 0 ∧ s8 = .int .i64 0 ∧ wr = w)
  case atStart => exact ⟨rfl, rfl, rfl⟩
  case round =>
    obtain ⟨rfl, rfl, rfl⟩ := hrel
    go_wp2
    go_ret2
    exact ⟨rfl, rfl⟩
set_option maxRecDepth 100000 in
theorem bsearch_any (q : List Int) (x : Int) (A : Option Addr) (c : Nat) (w : World) (hl : q.length ≤ 1048576) (hs : q.Pairwise (· < ·)) (hA : CRead w w.heap.size A (icells q)) :
    Calls Try.prog 102 #[.slice A q.length c, .int .i64 x] w fun e w' => e = .returned (.tuple #[.int .i64 (ltI q x), .bool (hasI q x)]) ∧ Below w.heap.size w w' := by
  by_cases h0 : q.length = 0
  · have hq : q = [] := List.eq_nil_of_length_eq_zero h0
    subst hq
    exact (bsearch_none A c x w).mono fun _ _ ⟨he, hw⟩ => ⟨he, by subst hw; exact Below.refl _ _⟩
  · obtain ⟨b, off, rfl, hb, hc⟩ := hA.ints (by omega)
    have h := AnyG.slices_BinarySearch_int Try.bsearchI b off q.length c q x w (Nat.le_refl _) (by omega) hc (by rw [List.take_length]; exact hs.imp (fun h => Int.le_of_lt h))
    rw [List.take_length] at h
    change Calls Try.prog 102 _ _ _ at h
    exact h.mono fun _ _ ⟨he, n, hw⟩ => ⟨he, by subst hw; exact ⟨rfl, rfl, rfl, Nat.le_refl _, fun _ _ => rfl⟩⟩

def resChooseParty (p : Int) (l : PL) (q : List Int) : Int × PL × Bool := if isP p l && isChoiceI p q then ((q.length : Int), chooseP l q, true) else (0, [], false)
theorem chooseP_len {p : Int} {l : PL} (h : isP p l = true) (q : List Int) : (chooseP l q).length ≤ 66 := by
  have h1 := isP_range h
  have h2 := isP_length h
  have h3 := people_sq h1.1 h1.2
  have h4 := chooseP_le l q
  omega
theorem resChooseParty_len (p : Int) (l : PL) (q : List Int) : (resChooseParty p l q).2.1.length ≤ 1048576 := by
  unfold resChooseParty
  split
  · rename_i h
    simp only [Bool.and_eq_true] at h
    exact Nat.le_trans (chooseP_len h.1 q) (by omega)
  · simp

set_option maxHeartbeats 4000000 in
set_option maxRecDepth 100000 in
theorem implChooseParty_any (p : Int) (l : PL) (A : Option Addr) (c : Nat) (q : List Int) (B : Option Addr) (d : Nat) (w : World) (hl : l.length ≤ 1048576) (hA : CRead w w.heap.size A (pcells l)) (hq : q.length ≤ 1048576) (hB : CRead w w.heap.size B (icells q)) :
    Calls Try.prog 84 #[.agg #[.int .i64 p, .slice A l.length c], .slice B q.length d] w (GotPartyOk w (resChooseParty p l q).1 (resChooseParty p l q).2.1 (resChooseParty p l q).2.2) := by
  generalize hW : (w.alloc (Obj.cells #[.int .i64 p, .slice A l.length c] 29)).alloc (Obj.cells #[.int .i64 0, .slice none 0 0] 29) = W
  have a0 : W.cell? ⟨w.heap.size, 0, none⟩ = some (.int .i64 p) := by rw [← hW]; simp
  have a1 : W.cell? ⟨w.heap.size, 1, none⟩ = some (.slice A l.length c) := by rw [← hW]; simp
  have X0 : W.cell? ⟨w.heap.size + 1, 0, none⟩ = some (.int .i64 0) := by rw [← hW]; simp
  have X1 : W.cell? ⟨w.heap.size + 1, 1, none⟩ = some (.slice none 0 0) := by rw [← hW]; simp
  have Z0 : W.frozen? ⟨w.heap.size + 1, 0, none⟩ = false := by rw [← hW]; simp
  have Z1 : W.frozen? ⟨w.heap.size + 1, 1, none⟩ = false := by rw [← hW]; simp
  have kW : Below w.heap.size w W := by rw [← hW]; go_grown
  have sW1 : w.heap.size < W.heap.size := by rw [← hW]; simp only [World.size_alloc]; omega
  have sW2 : w.heap.size + 1 < W.heap.size := by rw [← hW]; simp
  have RA := (hA.below kW (Nat.le_refl _)).more kW.size
  have RB := (hB.below kW (Nat.le_refl _)).more kW.size
  cases hp : isP p l with
  | false =>
    have e : resChooseParty p l q = (0, [], false) := by simp [resChooseParty, hp]
    rw [e]
    have Hp := Lib.hid hp
    have HW := Lib.hid hW
    clear hp e hW
    go_enter Try.func84, Try.ntmps84
    go_wp2_with fail
    rw [HW.out]
    refine (isParty_any _ _ _ _ _ hl RA).mono ?_
    rw [Hp.out]
    rintro e w2 ⟨rfl, hb2⟩
    have y0 := carry hb2 X0 sW2
    have y1 := carry hb2 X1 sW2
    have y2 := (hb2.frozen (p := ⟨w.heap.size + 1, 0, none⟩) sW2).trans Z0
    have y3 := (hb2.frozen (p := ⟨w.heap.size + 1, 1, none⟩) sW2).trans Z1
    have k2 := kW.trans (hb2.mono kW.size)
    clear a0 a1 X0 X1 Z0 Z1
    go_wp2
    refine bodyPost_ret (v := .tuple #[.agg #[.int .i64 0, .slice none 0 0], .bool false]) (by simp [results, Try.results84, go_sem, y0, y1]) rfl ?_
    exact ⟨none, 0, rfl, World.ownsRow_nil _ _ _ _, (k2.setCell (p := ⟨w.heap.size + 1, 0, none⟩) (by simp) _).setCell (p := ⟨w.heap.size + 1, 1, none⟩) (by simp) _⟩
  | true =>
    have hn := isP_range hp
    have hl66 : l.length ≤ 66 := by have h1 := isP_length hp; have h2 := people_sq hn.1 hn.2; omega
    cases hc : isChoiceI p q with
    | false =>
      have e : resChooseParty p l q = (0, [], false) := by simp [resChooseParty, hc]
      rw [e]
      have Hp := Lib.hid hp
      have Hc := Lib.hid hc
      have HW := Lib.hid hW
      clear hp e hW hc
      go_enter Try.func84, Try.ntmps84
      go_wp2_with fail
      rw [HW.out]
      refine (isParty_any _ _ _ _ _ hl RA).mono ?_
      rw [Hp.out]
      rintro e w2 ⟨rfl, hb2⟩
      have c0 := carry hb2 a0 sW1
      have c1 := carry hb2 a1 sW1
      have s2 := hb2.size
      go_wp2_with fail
      refine (isChoice_any p q A B l.length c d _ hq ((RB.below hb2 (Nat.le_refl _)).more s2)).mono ?_
      rw [Hc.out]
      rintro e w3 ⟨rfl, hb3⟩
      have g3 := hb2.trans (hb3.mono s2)
      have y0 := carry g3 X0 sW2
      have y1 := carry g3 X1 sW2
      have y2 := (g3.frozen (p := ⟨w.heap.size + 1, 0, none⟩) sW2).trans Z0
      have y3 := (g3.frozen (p := ⟨w.heap.size + 1, 1, none⟩) sW2).trans Z1
      have k2 := kW.trans (g3.mono kW.size)
      clear a0 a1 X0 X1 Z0 Z1 c0 c1
      go_wp2
      refine bodyPost_ret (v := .tuple #[.agg #[.int .i64 0, .slice none 0 0], .bool false]) (by simp [results, Try.results84, go_sem, y0, y1]) rfl ?_
      exact ⟨none, 0, rfl, World.ownsRow_nil _ _ _ _, (k2.setCell (p := ⟨w.heap.size + 1, 0, none⟩) (by simp) _).setCell (p := ⟨w.heap.size + 1, 1, none⟩) (by simp) _⟩
    | true =>
      obtain ⟨i0, hi, hz0, hz1, hz2⟩ := info_parts Try.infoPair
      have e : resChooseParty p l q = ((q.length : Int), chooseP l q, true) := by simp [resChooseParty, hp, hc]
      rw [e]
      have Hp := Lib.hid hp
      have Hc := Lib.hid hc
      have HW := Lib.hid hW
      have Hsort := Lib.hid (isChoiceI_sorted hc)
      have hq12 : q.length ≤ 12 := by rcases isChoiceI_long hc with h | h; (· omega); (· simp [h])
      clear hp e hW hc
      go_enter Try.func84, Try.ntmps84
      go_wp2_with fail
      rw [HW.out]
      refine (isParty_any _ _ _ _ _ hl RA).mono ?_
      rw [Hp.out]
      rintro e w2 ⟨rfl, hb2⟩
      have c0 := carry hb2 a0 sW1
      have c1 := carry hb2 a1 sW1
      have s2 := hb2.size
      go_wp2_with fail
      refine (isChoice_any p q A B l.length c d _ hq ((RB.below hb2 (Nat.le_refl _)).more s2)).mono ?_
      rw [Hc.out]
      rintro e w3 ⟨rfl, hb3⟩
      have g3 := hb2.trans (hb3.mono s2)
      have s3 := g3.size
      have k3 := kW.trans (g3.mono kW.size)
      have c1 := carry g3 a1 sW1
      have y0 := carry g3 X0 sW2
      have y1 := carry g3 X1 sW2
      have y2 := (g3.frozen (p := ⟨w.heap.size + 1, 0, none⟩) sW2).trans Z0
      have y3 := (g3.frozen (p := ⟨w.heap.size + 1, 1, none⟩) sW2).trans Z1
      have rel0 : BoxRel w3.heap.size w3 (w3.alloc (Obj.cells #[.int .i64 (q.length : Int), .slice none 0 0] 29)) (q.length : Int) w3.heap.size (.slice none 0 0) (chooseP (l.take 0) q) :=
        ⟨(Below.refl _ _).alloc (Nat.le_refl _) _, Nat.le_refl _, heap_alloc_new w3 _, World.ownsRow_nil _ _ _ _⟩
      have c1' : (w3.alloc (Obj.cells #[.int .i64 (q.length : Int), .slice none 0 0] 29)).cell? ⟨w.heap.size, 1, none⟩ = some (.slice A l.length c) := (World.cell?_alloc_lt _ _ _ (show w.heap.size < w3.heap.size by omega)).trans c1
      have hq64 : (q.length : Int) ≤ 12 := by omega
      clear a0 X0 X1 Z0 Z1 c0 hb2 hb3 s2 HW
      go_wp2
      clear c1'
      go_loopw [29] (fun i wr => ∃ (k : Nat) (v : Value), k ≤ l.length ∧ i = .int .i64 k ∧ BoxRel w3.heap.size w3 wr (q.length : Int) w3.heap.size v (chooseP (l.take k) q)) (fun i _ => l.length - (intOf i).toNat)
      case atStart => exact ⟨0, _, Nat.zero_le _, rfl, rel0⟩
      case round =>
        clear rel0
        obtain ⟨k, v, hk, rfl, rel⟩ := hrel
        have kX : Below w.heap.size w wr := k3.trans (rel.below.mono (by omega))
        have gX : Below W.heap.size W wr := g3.trans (rel.below.mono s3)
        have hlen : (chooseP (l.take k) q).length ≤ 66 := Nat.le_trans (chooseP_le _ _) (by rw [List.length_take]; omega)
        have hlt2 := rel.lt
        by_cases hlt : k < l.length
        · obtain ⟨⟨x, y⟩, hx⟩ := getSome l k hlt
          obtain ⟨bb, off, rfl, hbb, u0, u1⟩ := (hA.below kX (Nat.le_refl _)).pair hx
          have hki : (k : Int) < (l.length : Int) := by omega
          have Hx := Lib.hid hx
          have Hsn := Lib.hid (chooseP_snoc (l.take k) q x y)
          clear hx
          have hb0 : bb < wr.heap.size := by have := kX.size; omega
          cases h1 : hasI q x with
          | false =>
            cases h2 : hasI q y with
            | false =>
              have H1 := Lib.hid h1
              have H2 := Lib.hid h2
              clear h1 h2
              go_wp2_with fail
              refine (bsearch_any q x B d _ hq Hsort.out ((RB.below (gX.alloc gX.size _) (Nat.le_refl _)).more (gX.alloc gX.size _).size)).mono ?_
              rw [H1.out]
              rintro e w4 ⟨rfl, hb4⟩
              simp only [World.size_alloc] at hb4
              have g4 : Below wr.heap.size wr w4 := Below.trans (b := _) (by go_grown) (hb4.mono (by omega))
              have d0 : w4.cell? ⟨wr.heap.size, 0, none⟩ = some (.int .i64 x) := carry hb4 (by simp) (by omega)
              have d1 : w4.cell? ⟨wr.heap.size, 1, none⟩ = some (.int .i64 y) := carry hb4 (by simp) (by omega)
              go_wp2_with fail
              refine (bsearch_any q y B d _ hq Hsort.out ((RB.below (gX.trans (g4.mono gX.size)) (Nat.le_refl _)).more (gX.trans (g4.mono gX.size)).size)).mono ?_
              rw [H2.out]
              rintro e w5 ⟨rfl, hb5⟩
              have g5 := g4.trans (hb5.mono g4.size)
              have rel5 := rel.kept g5 rel.le
              have s5 := g5.size
              clear d0 d1 u0 u1
              have hno : ¬ (q.contains x = true ∧ q.contains y = true) := fun h => by have := h.1; rw [show q.contains x = hasI q x from rfl, H1.out] at this; cases this
              have Hno := Lib.hid hno
              clear hno
              go_wp2
              go_roundw
              case rel => exact ⟨k + 1, v, by omega, by go_num, by rw [List.take_add_one, Hx.out, Option.toList_some, Hsn.out, if_neg Hno.out, List.append_nil]; exact rel5⟩
              case measure => simp [intOf]; omega
            | true =>
              have H1 := Lib.hid h1
              have H2 := Lib.hid h2
              clear h1 h2
              go_wp2_with fail
              refine (bsearch_any q x B d _ hq Hsort.out ((RB.below (gX.alloc gX.size _) (Nat.le_refl _)).more (gX.alloc gX.size _).size)).mono ?_
              rw [H1.out]
              rintro e w4 ⟨rfl, hb4⟩
              simp only [World.size_alloc] at hb4
              have g4 : Below wr.heap.size wr w4 := Below.trans (b := _) (by go_grown) (hb4.mono (by omega))
              have d0 : w4.cell? ⟨wr.heap.size, 0, none⟩ = some (.int .i64 x) := carry hb4 (by simp) (by omega)
              have d1 : w4.cell? ⟨wr.heap.size, 1, none⟩ = some (.int .i64 y) := carry hb4 (by simp) (by omega)
              go_wp2_with fail
              refine (bsearch_any q y B d _ hq Hsort.out ((RB.below (gX.trans (g4.mono gX.size)) (Nat.le_refl _)).more (gX.trans (g4.mono gX.size)).size)).mono ?_
              rw [H2.out]
              rintro e w5 ⟨rfl, hb5⟩
              have g5 := g4.trans (hb5.mono g4.size)
              have rel5 := rel.kept g5 rel.le
              have s5 := g5.size
              clear d0 d1 u0 u1
              have hno : ¬ (q.contains x = true ∧ q.contains y = true) := fun h => by have := h.1; rw [show q.contains x = hasI q x from rfl, H1.out] at this; cases this
              have Hno := Lib.hid hno
              clear hno
              go_wp2
              go_roundw
              case rel => exact ⟨k + 1, v, by omega, by go_num, by rw [List.take_add_one, Hx.out, Option.toList_some, Hsn.out, if_neg Hno.out, List.append_nil]; exact rel5⟩
              case measure => simp [intOf]; omega
          | true =>
            cases h2 : hasI q y with
            | false =>
              have H1 := Lib.hid h1
              have H2 := Lib.hid h2
              clear h1 h2
              go_wp2_with fail
              refine (bsearch_any q x B d _ hq Hsort.out ((RB.below (gX.alloc gX.size _) (Nat.le_refl _)).more (gX.alloc gX.size _).size)).mono ?_
              rw [H1.out]
              rintro e w4 ⟨rfl, hb4⟩
              simp only [World.size_alloc] at hb4
              have g4 : Below wr.heap.size wr w4 := Below.trans (b := _) (by go_grown) (hb4.mono (by omega))
              have d0 : w4.cell? ⟨wr.heap.size, 0, none⟩ = some (.int .i64 x) := carry hb4 (by simp) (by omega)
              have d1 : w4.cell? ⟨wr.heap.size, 1, none⟩ = some (.int .i64 y) := carry hb4 (by simp) (by omega)
              go_wp2_with fail
              refine (bsearch_any q y B d _ hq Hsort.out ((RB.below (gX.trans (g4.mono gX.size)) (Nat.le_refl _)).more (gX.trans (g4.mono gX.size)).size)).mono ?_
              rw [H2.out]
              rintro e w5 ⟨rfl, hb5⟩
              have g5 := g4.trans (hb5.mono g4.size)
              have rel5 := rel.kept g5 rel.le
              have s5 := g5.size
              clear d0 d1 u0 u1
              have hno : ¬ (q.contains x = true ∧ q.contains y = true) := fun h => by have := h.2; rw [show q.contains y = hasI q y from rfl, H2.out] at this; cases this
              have Hno := Lib.hid hno
              clear hno
              go_wp2
              go_roundw
              case rel => exact ⟨k + 1, v, by omega, by go_num, by rw [List.take_add_one, Hx.out, Option.toList_some, Hsn.out, if_neg Hno.out, List.append_nil]; exact rel5⟩
              case measure => simp [intOf]; omega
            | true =>
              have H1 := Lib.hid h1
              have H2 := Lib.hid h2
              clear h1 h2
              go_wp2_with fail
              refine (bsearch_any q x B d _ hq Hsort.out ((RB.below (gX.alloc gX.size _) (Nat.le_refl _)).more (gX.alloc gX.size _).size)).mono ?_
              rw [H1.out]
              rintro e w4 ⟨rfl, hb4⟩
              simp only [World.size_alloc] at hb4
              have g4 : Below wr.heap.size wr w4 := Below.trans (b := _) (by go_grown) (hb4.mono (by omega))
              have d0 : w4.cell? ⟨wr.heap.size, 0, none⟩ = some (.int .i64 x) := carry hb4 (by simp) (by omega)
              have d1 : w4.cell? ⟨wr.heap.size, 1, none⟩ = some (.int .i64 y) := carry hb4 (by simp) (by omega)
              go_wp2_with fail
              refine (bsearch_any q y B d _ hq Hsort.out ((RB.below (gX.trans (g4.mono gX.size)) (Nat.le_refl _)).more (gX.trans (g4.mono gX.size)).size)).mono ?_
              rw [H2.out]
              rintro e w5 ⟨rfl, hb5⟩
              have g5 := g4.trans (hb5.mono g4.size)
              have rel5 := rel.kept g5 rel.le
              have s5 := g5.size
              clear d0 d1 u0 u1
              obtain ⟨q0, q1, q2⟩ := rel5.cells
              have q21 := q2 1
              have hlt5 := rel5.lt
              clear q2
              have hW2 : ∀ o : Obj, Below w5.heap.size w5 (w5.alloc o) := fun o => (Below.refl _ w5).alloc (Nat.le_refl _) o
              go_wp2_with (at_builtin; refine wpList_append_own _ rfl _ _ 27 rfl w3.heap.size 72 i0 _ 2 16 Try.underlying27 hi hz0 hz1 hz2 rfl (by decide) _ _ _ rfl (rel5.own.alloc _) ⟨w5.heap.size, 0, none⟩ 1 1 [.int .i64 (ltI q x), .int .i64 (ltI q y)] rfl rfl (two_cells (by simp) (by simp)) (two_one rfl rfl) (by unfold maxLen; omega) (by omega) (by simp; omega) ?_; intro v1 w6 hown6 hg6 _; obtain ⟨A2, d2, rfl, _⟩ := own_shape hown6; have hr1 := rel5.push (hW2 _) hg6 hown6; obtain ⟨_, z0, z1, z2, z3, z4⟩ := rel5.grown (hW2 _) hg6; have z21 := z2 1; clear z2)
              go_roundw
              case rel => exact ⟨k + 1, _, by omega, by go_num, by rw [List.take_add_one, Hx.out, Option.toList_some, Hsn.out, if_pos ⟨H1.out, H2.out⟩]; exact hr1⟩
              case measure => simp [intOf]; omega
        · have hkl : k = l.length := by omega
          subst hkl
          have hge : ¬ ((l.length : Int) < l.length) := by omega
          rw [List.take_length] at rel
          obtain ⟨q0, q1, q2⟩ := rel.cells
          obtain ⟨A', c', rfl, _⟩ := own_shape rel.own
          have r0 := carry rel.below y0 (by omega)
          have r1 := carry rel.below y1 (by omega)
          have r2 := (rel.below.frozen (p := ⟨w.heap.size + 1, 0, none⟩) (by simp; omega)).trans y2
          have r3 := (rel.below.frozen (p := ⟨w.heap.size + 1, 1, none⟩) (by simp; omega)).trans y3
          have Rel := Lib.hid rel
          clear rel q2 y0 y1 y2 y3
          go_wp2
          refine bodyPost_ret (v := .tuple #[.agg #[.int .i64 (q.length : Int), .slice A' (chooseP l q).length c'], .bool true]) (by simp [results, Try.results84, go_sem, r0, r1]) rfl ?_
          exact ⟨A', c', rfl, own_lower (ownsRow_setCell_below (ownsRow_setCell_below Rel.out.own (a := ⟨w.heap.size + 1, 0, none⟩) (by simp; omega) _) (a := ⟨w.heap.size + 1, 1, none⟩) (by simp; omega) _) (by omega),
            (kX.setCell (p := ⟨w.heap.size + 1, 0, none⟩) (by simp) _).setCell (p := ⟨w.heap.size + 1, 1, none⟩) (by simp) _⟩
end Go.Proofs.Ytaemodpolopcfaa
