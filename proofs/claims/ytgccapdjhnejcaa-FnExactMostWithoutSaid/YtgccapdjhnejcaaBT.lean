/-
  'BesideParty', 'TogetherParty': the model's and the program's, by their contracts.
-/
import Derived.Test.YtgccapdjhnejcaaPaJoin
import Derived.Test.YtgccapdjhnejcaaBeside
namespace Go.Proofs.Ytgccapdjhnejcaa
open Go.RowKit

def resBesideParty (p : Int) (l : PL) (s : Int) (m : PL) : Int × PL × Bool := resJoin false p l s m
def resTogetherParty (p : Int) (l : PL) (s : Int) (m : PL) : Int × PL × Bool := resJoin true p l s m
theorem resJoin_len (x : Bool) (p : Int) (l : PL) (s : Int) (m : PL) : (resJoin x p l s m).2.1.length ≤ 1048576 := by
  unfold resJoin
  split
  · rename_i h
    simp only [Bool.and_eq_true, decide_eq_true_eq] at h
    have h1 := isP_range h.1.1
    have h2 := isP_range h.1.2
    exact Nat.le_trans (joinP_len (by omega) _ _ _) (by omega)
  · simp
theorem resBesideParty_len (p : Int) (l : PL) (s : Int) (m : PL) : (resBesideParty p l s m).2.1.length ≤ 1048576 := resJoin_len _ _ _ _ _
theorem resTogetherParty_len (p : Int) (l : PL) (s : Int) (m : PL) : (resTogetherParty p l s m).2.1.length ≤ 1048576 := resJoin_len _ _ _ _ _

set_option maxHeartbeats 4000000 in
set_option maxRecDepth 100000 in
theorem implTogetherParty_any (p : Int) (l : PL) (A : Option Addr) (c : Nat) (s : Int) (m : PL) (B : Option Addr) (d : Nat) (w : World) (hl : l.length ≤ 1048576) (hA : CRead w w.heap.size A (pcells l)) (hm : m.length ≤ 1048576) (hB : CRead w w.heap.size B (pcells m)) :
    Calls Try.prog 49 #[.agg #[.int .i64 p, .slice A l.length c], .agg #[.int .i64 s, .slice B m.length d]] w (GotPartyOk w (resTogetherParty p l s m).1 (resTogetherParty p l s m).2.1 (resTogetherParty p l s m).2.2) := by
  unfold resTogetherParty
  generalize hW : ((w.alloc (Obj.cells #[.int .i64 p, .slice A l.length c] 31)).alloc (Obj.cells #[.int .i64 s, .slice B m.length d] 31)).alloc (Obj.cells #[.int .i64 0, .slice none 0 0] 31) = W
  have a0 : W.cell? ⟨w.heap.size, 0, none⟩ = some (.int .i64 p) := by rw [← hW]; exact (World.cell?_alloc_lt _ _ _ (by simp <;> omega)).trans (by simp)
  have a1 : W.cell? ⟨w.heap.size, 1, none⟩ = some (.slice A l.length c) := by rw [← hW]; exact (World.cell?_alloc_lt _ _ _ (by simp <;> omega)).trans (by simp)
  have b0 : W.cell? ⟨w.heap.size + 1, 0, none⟩ = some (.int .i64 s) := by rw [← hW]; exact (World.cell?_alloc_lt _ _ _ (by simp <;> omega)).trans (by simp)
  have b1 : W.cell? ⟨w.heap.size + 1, 1, none⟩ = some (.slice B m.length d) := by rw [← hW]; exact (World.cell?_alloc_lt _ _ _ (by simp <;> omega)).trans (by simp)
  have x0 : W.heap[w.heap.size + 1 + 1]? = some (.cells #[.int .i64 0, .slice none 0 0] 31 (0, 0)) := by
    have := heap_alloc_new ((w.alloc (Obj.cells #[.int .i64 p, .slice A l.length c] 31)).alloc (Obj.cells #[.int .i64 s, .slice B m.length d] 31)) (Obj.cells #[.int .i64 0, .slice none 0 0] 31)
    rw [hW] at this
    simpa using this
  have X0 : W.cell? ⟨w.heap.size + 1 + 1, 0, none⟩ = some (.int .i64 0) := by rw [cell_of_row _ _ _ _ _ _ x0]; rfl
  have X1 : W.cell? ⟨w.heap.size + 1 + 1, 1, none⟩ = some (.slice none 0 0) := by rw [cell_of_row _ _ _ _ _ _ x0]; rfl
  have X2 : ∀ j, W.frozen? ⟨w.heap.size + 1 + 1, j, none⟩ = false := fun j => frozen_of_row _ _ j _ _ x0
  have kW : Below w.heap.size w W := by rw [← hW]; go_grown
  have sW : W.heap.size = w.heap.size + 3 := by rw [← hW]; simp
  have sW1 : w.heap.size < W.heap.size := by omega
  have sW2 : w.heap.size + 1 < W.heap.size := by omega
  have sW3 : w.heap.size + 1 + 1 < W.heap.size := by omega
  have RA := (hA.below kW (Nat.le_refl _)).more kW.size
  have RB := (hB.below kW (Nat.le_refl _)).more kW.size
  clear sW x0
  have Z0 := X2 0
  have Z1 := X2 1
  clear X2
  cases hp : isP p l with
  | false =>
    have e : resJoin true p l s m = (0, [], false) := by simp [resJoin, hp]
    rw [e]
    have Hp := Lib.hid hp
    have HW := Lib.hid hW
    clear hp e hW
    go_enter Try.func49, Try.ntmps49
    go_wp2_with fail
    rw [HW.out]
    refine (isParty_any _ _ _ _ _ hl RA).mono ?_
    rw [Hp.out]
    rintro e w2 ⟨rfl, hb2⟩
    have y0 := carry hb2 X0 sW3
    have y1 := carry hb2 X1 sW3
    have y2 := (hb2.frozen (p := ⟨w.heap.size + 1 + 1, 0, none⟩) sW3).trans Z0
    have y3 := (hb2.frozen (p := ⟨w.heap.size + 1 + 1, 1, none⟩) sW3).trans Z1
    have k2 := kW.trans (hb2.mono kW.size)
    clear a0 a1 b0 b1 X0 X1 Z0 Z1
    go_wp2
    refine bodyPost_ret (v := .tuple #[.agg #[.int .i64 0, .slice none 0 0], .bool false]) (by simp [results, Try.results49, go_sem, y0, y1]) rfl ?_
    exact ⟨none, 0, rfl, World.ownsRow_nil _ _ _ _, (k2.setCell (p := ⟨w.heap.size + 1 + 1, 0, none⟩) (by simp; omega) _).setCell (p := ⟨w.heap.size + 1 + 1, 1, none⟩) (by simp; omega) _⟩
  | true =>
    cases hs : isP s m with
    | false =>
      have e : resJoin true p l s m = (0, [], false) := by simp [resJoin, hs]
      rw [e]
      have Hp := Lib.hid hp
      have Hs := Lib.hid hs
      have HW := Lib.hid hW
      clear hp hs e hW
      go_enter Try.func49, Try.ntmps49
      go_wp2_with fail
      rw [HW.out]
      refine (isParty_any _ _ _ _ _ hl RA).mono ?_
      rw [Hp.out]
      rintro e w2 ⟨rfl, hb2⟩
      have s2 := hb2.size
      have c0 := carry hb2 a0 sW1
      have c1 := carry hb2 a1 sW1
      have d0 := carry hb2 b0 sW2
      have d1 := carry hb2 b1 sW2
      go_wp2_with fail
      refine (isParty_any _ _ _ _ _ hm ((RB.below hb2 (Nat.le_refl _)).more s2)).mono ?_
      rw [Hs.out]
      rintro e w3 ⟨rfl, hb3⟩
      have g3 := hb2.trans (hb3.mono s2)
      have s3 := g3.size
      clear c0 c1 d0 d1
      have c0 := carry g3 a0 sW1
      have c1 := carry g3 a1 sW1
      have d0 := carry g3 b0 sW2
      have d1 := carry g3 b1 sW2
      have y0 := carry g3 X0 sW3
      have y1 := carry g3 X1 sW3
      have y2 := (g3.frozen (p := ⟨w.heap.size + 1 + 1, 0, none⟩) sW3).trans Z0
      have y3 := (g3.frozen (p := ⟨w.heap.size + 1 + 1, 1, none⟩) sW3).trans Z1
      have k3 := kW.trans (g3.mono kW.size)
      clear a0 a1 b0 b1 X0 X1 Z0 Z1 hb2 hb3 s2
      go_wp2
      refine bodyPost_ret (v := .tuple #[.agg #[.int .i64 0, .slice none 0 0], .bool false]) (by simp [results, Try.results49, go_sem, y0, y1]) rfl ?_
      exact ⟨none, 0, rfl, World.ownsRow_nil _ _ _ _, (k3.setCell (p := ⟨w.heap.size + 1 + 1, 0, none⟩) (by simp; omega) _).setCell (p := ⟨w.heap.size + 1 + 1, 1, none⟩) (by simp; omega) _⟩
    | true =>
      have hn := isP_range hp
      have hn' := isP_range hs
      by_cases hps : p + s ≤ 12
      · have hjoin : joinP true p.toNat s.toNat l m = togetherP p.toNat s.toNat l m := by
          unfold joinP
          obtain ⟨p', rfl⟩ : ∃ p' : Nat, p = p' := ⟨p.toNat, by omega⟩
          obtain ⟨s', rfl⟩ : ∃ s' : Nat, s = s' := ⟨s.toNat, by omega⟩
          simp only [Int.toNat_natCast]
          exact tabP_together hp hs (by omega)
        have e : resJoin true p l s m = (p + s, togetherP p.toNat s.toNat l m, true) := by simp [resJoin, hp, hs, hps, hjoin]
        rw [e]
        have hle : ¬ (12 : Int) < p + s := by omega
        have Hp := Lib.hid hp
        have Hs := Lib.hid hs
        have HW := Lib.hid hW
        have hO : isP p (otherP p.toNat l) = true ∧ isP s (otherP s.toNat m) = true ∧ isP (p + s) (besideP p (otherP p.toNat l) (otherP s.toNat m)) = true ∧ otherP (p + s).toNat (besideP p (otherP p.toNat l) (otherP s.toNat m)) = togetherP p.toNat s.toNat l m := by
          obtain ⟨p', rfl⟩ : ∃ p' : Nat, p = p' := ⟨p.toNat, by omega⟩
          obtain ⟨s', rfl⟩ : ∃ s' : Nat, s = s' := ⟨s.toNat, by omega⟩
          simp only [Int.toNat_natCast]
          have h1 := other_isP Hp.out
          have h2 := other_isP Hs.out
          have h3 := beside_isP h1 h2 (by omega)
          have e1 : ((p' + s' : Nat) : Int) = (p' : Int) + s' := by omega
          refine ⟨h1, h2, by rw [← e1]; exact h3, ?_⟩
          rw [show ((p' : Int) + (s' : Int)).toNat = p' + s' from by omega]
          rfl
        obtain ⟨hO1, hO2, hO3, hO4⟩ := hO
        have HpO := Lib.hid hO1
        have HsO := Lib.hid hO2
        have HbO := Lib.hid hO3
        have Htog := Lib.hid hO4
        clear hO1 hO2 hO3 hO4
        have hr := resJoin_len true p l s m
        rw [e] at hr
        clear hp hs e hW hjoin
        go_enter Try.func49, Try.ntmps49
        go_wp2_with fail
        rw [HW.out]
        refine (isParty_any _ _ _ _ _ hl RA).mono ?_
        rw [Hp.out]
        rintro e w2 ⟨rfl, hb2⟩
        have s2 := hb2.size
        have c0 := carry hb2 a0 sW1
        have c1 := carry hb2 a1 sW1
        have d0 := carry hb2 b0 sW2
        have d1 := carry hb2 b1 sW2
        go_wp2_with fail
        refine (isParty_any _ _ _ _ _ hm ((RB.below hb2 (Nat.le_refl _)).more s2)).mono ?_
        rw [Hs.out]
        rintro e w3 ⟨rfl, hb3⟩
        have g3 := hb2.trans (hb3.mono s2)
        have s3 := g3.size
        clear c0 c1 d0 d1
        have c0 := carry g3 a0 sW1
        have c1 := carry g3 a1 sW1
        have d0 := carry g3 b0 sW2
        have d1 := carry g3 b1 sW2
        have y0 := carry g3 X0 sW3
        have y1 := carry g3 X1 sW3
        have y2 := (g3.frozen (p := ⟨w.heap.size + 1 + 1, 0, none⟩) sW3).trans Z0
        have y3 := (g3.frozen (p := ⟨w.heap.size + 1 + 1, 1, none⟩) sW3).trans Z1
        have k3 := kW.trans (g3.mono kW.size)
        clear a0 a1 b0 b1 X0 X1 Z0 Z1 hb2 hb3 s2
        clear HW
        go_wp2_with fail
        have hG3 := s3
        have kS : ∀ X : World, Below w3.heap.size w3 X → X.cell? ⟨w.heap.size, 0, none⟩ = some (.int .i64 p) ∧ X.cell? ⟨w.heap.size, 1, none⟩ = some (.slice A l.length c) ∧ X.cell? ⟨w.heap.size + 1, 0, none⟩ = some (.int .i64 s) ∧ X.cell? ⟨w.heap.size + 1, 1, none⟩ = some (.slice B m.length d) := fun X hX => ⟨carry hX c0 (by omega), carry hX c1 (by omega), carry hX d0 (by omega), carry hX d1 (by omega)⟩
        have rdP : CRead w3.drew w3.drew.heap.size A (pcells l) := (RA.below g3.drew (Nat.le_refl _)).more g3.size
        go_region_held3 (fun w' => w'.cell? ⟨w.heap.size, 0, none⟩ = some (.int .i64 p) ∧ w'.cell? ⟨w.heap.size, 1, none⟩ = some (.slice A l.length c) ∧ w'.cell? ⟨w.heap.size + 1, 0, none⟩ = some (.int .i64 s) ∧ w'.cell? ⟨w.heap.size + 1, 1, none⟩ = some (.slice B m.length d)) (first | exact kS _ (Below.refl _ _).drew | exact kS _ zg1 | exact kS _ zg2 | exact kS _ zg3 | exact kS _ zg4 | exact ⟨(World.cell?_setCell_other _ _ _ _ (by first | (simp; done) | (simp; omega))).trans ((World.cell?_setCell_other _ _ _ _ (by first | (simp; done) | (simp; omega))).trans (kS _ zg4).1), (World.cell?_setCell_other _ _ _ _ (by first | (simp; done) | (simp; omega))).trans ((World.cell?_setCell_other _ _ _ _ (by first | (simp; done) | (simp; omega))).trans (kS _ zg4).2.1), (World.cell?_setCell_other _ _ _ _ (by first | (simp; done) | (simp; omega))).trans ((World.cell?_setCell_other _ _ _ _ (by first | (simp; done) | (simp; omega))).trans (kS _ zg4).2.2.1), (World.cell?_setCell_other _ _ _ _ (by first | (simp; done) | (simp; omega))).trans ((World.cell?_setCell_other _ _ _ _ (by first | (simp; done) | (simp; omega))).trans (kS _ zg4).2.2.2)⟩) ((first | (go_at_call 77; refine (beside_any p s _ _ T1 T2 e1 e2 _ HpO.out HsO.out hps (CRead.of_own o1) (CRead.of_own n2)).mono ?_; rintro e v3 ⟨T3, e3, rfl, n3, hb3⟩; have zg3 : Below w3.heap.size w3 v3 := zg2.trans (hb3.mono z2s); have z3s := zg3.size) | (have gg := zg3; clear gg; go_at_call 76; refine (other_any (p + s) _ T3 e3 _ HbO.out (CRead.of_own n3)).mono ?_; rw [Htog.out]; rintro e v4 ⟨T4, e4, rfl, n4, hb4⟩; have zg4 : Below w3.heap.size w3 v4 := zg3.trans (hb4.mono z3s); have z4s := zg4.size; have v0 := carry zg4 y0 (by omega); have v1' := carry zg4 y1 (by omega); have v2' := (zg4.frozen (p := ⟨w.heap.size + 1 + 1, 0, none⟩) (by simp; omega)).trans y2; have v3' := (zg4.frozen (p := ⟨w.heap.size + 1 + 1, 1, none⟩) (by simp; omega)).trans y3) | (have gg := zg1; clear gg; go_at_call 76; refine (other_any s m B d _ Hs.out ((RB.below (g3.trans (zg1.mono s3)) (Nat.le_refl _)).more (g3.trans (zg1.mono s3)).size)).mono ?_; rintro e v2 ⟨T2, e2, rfl, n2, hb2⟩; have zg2 : Below w3.heap.size w3 v2 := zg1.trans (hb2.mono z1s); have o1 := own_below n1 hb2 (Nat.le_refl _); have z2s := zg2.size) | ((fail_if_success (have gg := zg1)); go_at_call 76; refine (other_any p l A c _ Hp.out rdP).mono ?_; rintro e v1 ⟨T1, e1, rfl, n1, hb1⟩; have zg1 : Below w3.heap.size w3 v1 := (Below.refl _ _).drew.trans hb1; have z1s := zg1.size)))
        go_wp2
        have k9 := k3.trans (zg4.mono (by omega))
        refine bodyPost_ret (v := .tuple #[.agg #[.int .i64 (p + s), .slice T4 (togetherP p.toNat s.toNat l m).length e4], .bool true]) (by simp [results, Try.results49, go_sem, v0, v1']) rfl ?_
        exact ⟨T4, e4, rfl, own_lower (ownsRow_setCell_below (ownsRow_setCell_below n4 (a := ⟨w.heap.size + 1 + 1, 0, none⟩) (by simp; omega) _) (a := ⟨w.heap.size + 1 + 1, 1, none⟩) (by simp; omega) _) (by omega),
          (k9.setCell (p := ⟨w.heap.size + 1 + 1, 0, none⟩) (by simp; omega) _).setCell (p := ⟨w.heap.size + 1 + 1, 1, none⟩) (by simp; omega) _⟩
      · have e : resJoin true p l s m = (0, [], false) := by simp [resJoin, hps]
        rw [e]
        have hlt : (12 : Int) < p + s := by omega
        have Hp := Lib.hid hp
        have Hs := Lib.hid hs
        have HW := Lib.hid hW
        clear hp hs e hW
        go_enter Try.func49, Try.ntmps49
        go_wp2_with fail
        rw [HW.out]
        refine (isParty_any _ _ _ _ _ hl RA).mono ?_
        rw [Hp.out]
        rintro e w2 ⟨rfl, hb2⟩
        have s2 := hb2.size
        have c0 := carry hb2 a0 sW1
        have c1 := carry hb2 a1 sW1
        have d0 := carry hb2 b0 sW2
        have d1 := carry hb2 b1 sW2
        go_wp2_with fail
        refine (isParty_any _ _ _ _ _ hm ((RB.below hb2 (Nat.le_refl _)).more s2)).mono ?_
        rw [Hs.out]
        rintro e w3 ⟨rfl, hb3⟩
        have g3 := hb2.trans (hb3.mono s2)
        have s3 := g3.size
        clear c0 c1 d0 d1
        have c0 := carry g3 a0 sW1
        have c1 := carry g3 a1 sW1
        have d0 := carry g3 b0 sW2
        have d1 := carry g3 b1 sW2
        have y0 := carry g3 X0 sW3
        have y1 := carry g3 X1 sW3
        have y2 := (g3.frozen (p := ⟨w.heap.size + 1 + 1, 0, none⟩) sW3).trans Z0
        have y3 := (g3.frozen (p := ⟨w.heap.size + 1 + 1, 1, none⟩) sW3).trans Z1
        have k3 := kW.trans (g3.mono kW.size)
        clear a0 a1 b0 b1 X0 X1 Z0 Z1 hb2 hb3 s2
        go_wp2
        refine bodyPost_ret (v := .tuple #[.agg #[.int .i64 0, .slice none 0 0], .bool false]) (by simp [results, Try.results49, go_sem, y0, y1]) rfl ?_
        exact ⟨none, 0, rfl, World.ownsRow_nil _ _ _ _, (k3.setCell (p := ⟨w.heap.size + 1 + 1, 0, none⟩) (by simp; omega) _).setCell (p := ⟨w.heap.size + 1 + 1, 1, none⟩) (by simp; omega) _⟩
end Go.Proofs.Ytgccapdjhnejcaa
