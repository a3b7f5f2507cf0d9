/-
  'ChooseParty' of the model, by its contract.
-/
import Derived.Test.YtkonibmmdinmbaaChooseS
namespace Go.Proofs.Ytkonibmmdinmbaa
open Go.RowKit

theorem l1AllB_mem {q : List Int} {lo hi : Int} (h : l1AllB q lo hi = true) {k : Nat} {x : Int} (hx : q[k]? = some x) : lo ≤ x ∧ x ≤ hi := by
  simp only [l1AllB, List.all_eq_true, decide_eq_true_eq] at h
  exact h x (List.mem_of_getElem? hx)
theorem isChoiceI_not {p : Int} {q : List Int} (h : ¬ isChoiceI p q = true) : isChoiceI p q = false := by simpa using h
theorem isChoiceI_range {p : Int} {q : List Int} (h : isChoiceI p q = true) : l1AllB q 0 (p - 1) = true := by
  apply l1AllB_yes
  intro j x _ hx
  have := isChoiceI_mem h x (List.mem_of_getElem? hx)
  omega

set_option maxHeartbeats 4000000 in
set_option maxRecDepth 100000 in
theorem specChooseParty_any (p : Int) (l : PL) (A : Option Addr) (c : Nat) (q : List Int) (B : Option Addr) (d : Nat) (w : World) (hl : l.length ≤ 1048576) (hA : CRead w w.heap.size A (pcells l)) (hq : q.length ≤ 1048576) (hB : CRead w w.heap.size B (icells q)) :
    Calls Try.prog 28 #[.agg #[.int .i64 p, .slice A l.length c], .slice B q.length d] w (GotPartyOk w (resChooseParty p l q).1 (resChooseParty p l q).2.1 (resChooseParty p l q).2.2) := by
  generalize hW : (w.alloc (Obj.cells #[.int .i64 p, .slice A l.length c] 29)).alloc (Obj.cells #[.int .i64 0, .slice none 0 0] 29) = W
  have a0 : W.cell? ⟨w.heap.size, 0, none⟩ = some (.int .i64 p) := by rw [← hW]; simp
  have a1 : W.cell? ⟨w.heap.size, 1, none⟩ = some (.slice A l.length c) := by rw [← hW]; simp
  have X0 : W.cell? ⟨w.heap.size + 1, 0, none⟩ = some (.int .i64 0) := by rw [← hW]; simp
  have X1 : W.cell? ⟨w.heap.size + 1, 1, none⟩ = some (.slice none 0 0) := by rw [← hW]; simp
  have Z0 : W.frozen? ⟨w.heap.size + 1, 0, none⟩ = false := by rw [← hW]; simp
  have Z1 : W.frozen? ⟨w.heap.size + 1, 1, none⟩ = false := by rw [← hW]; simp
  have kW : Below w.heap.size w W := by rw [← hW]; go_grown
  have sW1 : w.heap.size < W.heap.size := by rw [← hW]; simp only [World.size_alloc]; omega
  have sW2 : w.heap.size + 1 < W.heap.size := by rw [← hW]; simp
  have RA := (hA.below kW (Nat.le_refl _)).more kW.size
  have RB := (hB.below kW (Nat.le_refl _)).more kW.size
  cases hp : isP p l with
  | false =>
    have e : resChooseParty p l q = (0, [], false) := by simp [resChooseParty, hp]
    rw [e]
    have Hp := Lib.hid hp
    have HW := Lib.hid hW
    clear hp e hW
    go_enter Try.func28, Try.ntmps28
    go_wp2_with fail
    rw [HW.out]
    refine (paGood_any _ _ _ _ _ hl RA).mono ?_
    rw [Hp.out]
    rintro e w2 ⟨rfl, hb2⟩
    have s2 := hb2.size
    have c0 := carry hb2 a0 sW1
    have c1 := carry hb2 a1 sW1
    have y0 := carry hb2 X0 sW2
    have y1 := carry hb2 X1 sW2
    have y2 := (hb2.frozen (p := ⟨w.heap.size + 1, 0, none⟩) sW2).trans Z0
    have y3 := (hb2.frozen (p := ⟨w.heap.size + 1, 1, none⟩) sW2).trans Z1
    have k2 := kW.trans (hb2.mono kW.size)
    clear a0 a1 X0 X1 Z0 Z1 HW
    go_wp2
    refine bodyPost_ret (v := .tuple #[.agg #[.int .i64 0, .slice none 0 0], .bool false]) (by simp [results, Try.results28, go_sem, y0, y1]) rfl ?_
    exact ⟨none, 0, rfl, World.ownsRow_nil _ _ _ _, (k2.setCell (p := ⟨w.heap.size + 1, 0, none⟩) (by simp) _).setCell (p := ⟨w.heap.size + 1, 1, none⟩) (by simp) _⟩
  | true =>
    have hn := isP_range hp
    by_cases hlong : (q.length : Int) ≤ p
    · have hlg : ¬ (p < (q.length : Int)) := by omega
      cases hall : l1AllB q 0 (p - 1) with
      | false =>
        have e : resChooseParty p l q = (0, [], false) := by simp [resChooseParty, isChoiceI_not (p := p) (q := q) (fun h => by have := isChoiceI_range h; rw [hall] at this; cases this)]
        rw [e]
        have Hp := Lib.hid hp
        have HW := Lib.hid hW
        have Hall := Lib.hid hall
        clear hp e hW hall
        go_enter Try.func28, Try.ntmps28
        go_wp2_with fail
        rw [HW.out]
        refine (paGood_any _ _ _ _ _ hl RA).mono ?_
        rw [Hp.out]
        rintro e w2 ⟨rfl, hb2⟩
        have s2 := hb2.size
        have c0 := carry hb2 a0 sW1
        have c1 := carry hb2 a1 sW1
        have y0 := carry hb2 X0 sW2
        have y1 := carry hb2 X1 sW2
        have y2 := (hb2.frozen (p := ⟨w.heap.size + 1, 0, none⟩) sW2).trans Z0
        have y3 := (hb2.frozen (p := ⟨w.heap.size + 1, 1, none⟩) sW2).trans Z1
        have k2 := kW.trans (hb2.mono kW.size)
        clear a0 a1 X0 X1 Z0 Z1 HW
        go_wp2_with fail
        refine (l1All_any q B d 0 (p - 1) _ hq ((RB.below hb2 (Nat.le_refl _)).more s2)).mono ?_
        rw [Hall.out]
        rintro e w3 ⟨rfl, rfl⟩
        go_wp2
        refine bodyPost_ret (v := .tuple #[.agg #[.int .i64 0, .slice none 0 0], .bool false]) (by simp [results, Try.results28, go_sem, y0, y1]) rfl ?_
        exact ⟨none, 0, rfl, World.ownsRow_nil _ _ _ _, (k2.setCell (p := ⟨w.heap.size + 1, 0, none⟩) (by simp) _).setCell (p := ⟨w.heap.size + 1, 1, none⟩) (by simp) _⟩
      | true =>
        have Hp := Lib.hid hp
        have HW := Lib.hid hW
        have Hall := Lib.hid hall
        clear hp hW hall
        go_enter Try.func28, Try.ntmps28
        go_wp2_with fail
        rw [HW.out]
        refine (paGood_any _ _ _ _ _ hl RA).mono ?_
        rw [Hp.out]
        rintro e w2 ⟨rfl, hb2⟩
        have s2 := hb2.size
        have c0 := carry hb2 a0 sW1
        have c1 := carry hb2 a1 sW1
        have y0 := carry hb2 X0 sW2
        have y1 := carry hb2 X1 sW2
        have y2 := (hb2.frozen (p := ⟨w.heap.size + 1, 0, none⟩) sW2).trans Z0
        have y3 := (hb2.frozen (p := ⟨w.heap.size + 1, 1, none⟩) sW2).trans Z1
        have k2 := kW.trans (hb2.mono kW.size)
        clear a0 a1 X0 X1 Z0 Z1 HW
        go_wp2_with fail
        refine (l1All_any q B d 0 (p - 1) _ hq ((RB.below hb2 (Nat.le_refl _)).more s2)).mono ?_
        rw [Hall.out]
        rintro e w3 ⟨rfl, rfl⟩
        go_wp2
        go_loopw [6] (fun i wr => ∃ k : Nat, 1 ≤ k ∧ (k = 1 ∨ k ≤ q.length) ∧ i = .int .i64 k ∧ (∀ j, j < k → choiceAt p q j = true) ∧ Below w2.heap.size w2 wr) (fun i _ => q.length - (intOf i).toNat)
        case atStart =>
          refine ⟨1, Nat.le_refl _, .inl rfl, rfl, fun j hj => ?_, Below.refl _ _⟩
          have h0 : j = 0 := by omega
          subst h0
          cases hx : q[0]? with
          | none => simp [choiceAt, hx]
          | some x => exact choiceAt_zero rfl hx (by have := l1AllB_mem Hall.out hx; omega)
        case round =>
          obtain ⟨k, hk1, hkq, rfl, hg, hb⟩ := hrel
          have Hg := Lib.hid hg
          clear hg
          have hs := hb.size
          have g3 := hb2.trans (hb.mono s2)
          have k3 := kW.trans (g3.mono kW.size)
          have x0 := carry hb y0 (by omega)
          have x1 := carry hb y1 (by omega)
          have x2 := (hb.frozen (p := ⟨w.heap.size + 1, 0, none⟩) (by simp; omega)).trans y2
          have x3 := (hb.frozen (p := ⟨w.heap.size + 1, 1, none⟩) (by simp; omega)).trans y3
          have d0 := carry hb c0 (by omega)
          have d1 := carry hb c1 (by omega)
          by_cases hlt : k < q.length
          · obtain ⟨y, hy⟩ := getSome q k hlt
            obtain ⟨x, hx⟩ := getSome q (k - 1) (by omega)
            obtain ⟨b, off, rfl, hbb, u0⟩ := (hB.below k3 (Nat.le_refl _)).int hy
            obtain ⟨b', off', e', _, u1⟩ := (hB.below k3 (Nat.le_refl _)).int hx
            simp only [Option.some.injEq, Addr.mk.injEq, and_true] at e'
            obtain ⟨rfl, rfl⟩ := e'
            have hki : (k : Int) < (q.length : Int) := by omega
            have hk3 : (0 : Int) ≤ (k : Int) - 1 := by omega
            have hk4 : (k : Int) - 1 < (q.length : Int) := by omega
            have hty : ((k : Int) - 1).toNat = k - 1 := by omega
            have Hx := Lib.hid hx
            have Hy := Lib.hid hy
            have Hr := Lib.hid (l1AllB_mem Hall.out hy)
            clear hx hy y0 y1 y2 y3 c0 c1
            by_cases hxy : x < y
            · have hyx : ¬ (y ≤ x) := by omega
              go_wp2
              go_quiet (fail)
              go_wp2
              go_roundw
              case rel =>
                refine ⟨k + 1, by omega, .inr (by omega), by go_num, fun j hj => ?_, ⟨hb.os, hb.tape, hb.output, hb.size, hb.block⟩⟩
                rcases Nat.lt_succ_iff_lt_or_eq.1 hj with h | rfl
                · exact Hg.out j h
                · exact choiceAt_later (by omega) Hx.out Hy.out (by have := Hr.out; omega) hxy
              case measure => simp [intOf]; omega
            · have hyx : y ≤ x := by omega
              have e : resChooseParty p l q = (0, [], false) := by simp [resChooseParty, isChoiceI_no hlt (choiceAt_stale (p := p) (by omega) Hx.out Hy.out hxy)]
              rw [e]
              clear e
              go_wp2
              go_quiet (fail)
              go_wp2
              refine bodyPost_ret (v := .tuple #[.agg #[.int .i64 0, .slice none 0 0], .bool false]) (by simp [results, Try.results28, go_sem, x0, x1]) rfl ?_
              refine ⟨none, 0, rfl, World.ownsRow_nil _ _ _ _, Below.setCell (p := ⟨w.heap.size + 1, 1, none⟩) (Below.setCell (p := ⟨w.heap.size + 1, 0, none⟩) ?_ (by simp) _) (by simp) _⟩
              exact ⟨k3.os, k3.tape, k3.output, k3.size, k3.block⟩
          · have hge : ¬ ((k : Int) < (q.length : Int)) := by omega
            have hc := isChoiceI_of (p := p) (q := q) fun j hj => Hg.out j (by omega)
            have e : resChooseParty p l q = ((q.length : Int), chooseP l q, true) := by simp [resChooseParty, Hp.out, hc]
            have He := Lib.hid e
            have Hc := Lib.hid hc
            clear hc e y0 y1 y2 y3 c0 c1
            go_wp2_with fail
            refine (paChoose_any p l A c q B d wr Hp.out Hc.out ((RA.below g3 (Nat.le_refl _)).more g3.size) ((RB.below g3 (Nat.le_refl _)).more g3.size)).mono ?_
            rintro e w5 ⟨A5, c5, rfl, hown5, hb5⟩
            have y0 := carry hb5 x0 (by omega)
            have y1 := carry hb5 x1 (by omega)
            have y2 := (hb5.frozen (p := ⟨w.heap.size + 1, 0, none⟩) (by simp; omega)).trans x2
            have y3 := (hb5.frozen (p := ⟨w.heap.size + 1, 1, none⟩) (by simp; omega)).trans x3
            have k5 := k3.trans (hb5.mono k3.size)
            clear x0 x1 x2 x3 d0 d1
            go_wp2
            refine bodyPost_ret (v := .tuple #[.agg #[.int .i64 (q.length : Int), .slice A5 (chooseP l q).length c5], .bool true]) (by simp [results, Try.results28, go_sem, y0, y1]) rfl ?_
            rw [He.out]
            exact ⟨A5, c5, rfl, own_lower (ownsRow_setCell_below (ownsRow_setCell_below hown5 (a := ⟨w.heap.size + 1, 0, none⟩) (by simp; omega) _) (a := ⟨w.heap.size + 1, 1, none⟩) (by simp; omega) _) k3.size, (k5.setCell (p := ⟨w.heap.size + 1, 0, none⟩) (by simp) _).setCell (p := ⟨w.heap.size + 1, 1, none⟩) (by simp) _⟩
    · have hlg : p < (q.length : Int) := by omega
      have e : resChooseParty p l q = (0, [], false) := by simp [resChooseParty, isChoiceI_not (p := p) (q := q) (fun h => by rcases isChoiceI_long h with h | h; (· omega); (· subst h; simp at hlg; omega))]
      rw [e]
      have Hp := Lib.hid hp
      have HW := Lib.hid hW
      clear hp e hW
      go_enter Try.func28, Try.ntmps28
      go_wp2_with fail
      rw [HW.out]
      refine (paGood_any _ _ _ _ _ hl RA).mono ?_
      rw [Hp.out]
      rintro e w2 ⟨rfl, hb2⟩
      have s2 := hb2.size
      have c0 := carry hb2 a0 sW1
      have c1 := carry hb2 a1 sW1
      have y0 := carry hb2 X0 sW2
      have y1 := carry hb2 X1 sW2
      have y2 := (hb2.frozen (p := ⟨w.heap.size + 1, 0, none⟩) sW2).trans Z0
      have y3 := (hb2.frozen (p := ⟨w.heap.size + 1, 1, none⟩) sW2).trans Z1
      have k2 := kW.trans (hb2.mono kW.size)
      clear a0 a1 X0 X1 Z0 Z1 HW
      go_wp2
      refine bodyPost_ret (v := .tuple #[.agg #[.int .i64 0, .slice none 0 0], .bool false]) (by simp [results, Try.results28, go_sem, y0, y1]) rfl ?_
      exact ⟨none, 0, rfl, World.ownsRow_nil _ _ _ _, (k2.setCell (p := ⟨w.heap.size + 1, 0, none⟩) (by simp) _).setCell (p := ⟨w.heap.size + 1, 1, none⟩) (by simp) _⟩
end Go.Proofs.Ytkonibmmdinmbaa
