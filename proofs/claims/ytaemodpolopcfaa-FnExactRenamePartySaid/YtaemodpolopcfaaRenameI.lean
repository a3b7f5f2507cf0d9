/-
  'RenameParty' of the program, by its contract.
-/
import Derived.Test.YtaemodpolopcfaaRenamed
import Derived.Test.YtaemodpolopcfaaNaming
import Derived.Test.YtaemodpolopcfaaNameSp
namespace Go.Proofs.Ytaemodpolopcfaa
open Go.RowKit

theorem resRenameParty_len (p : Int) (l : PL) (q : List Int) : (resRenameParty p l q).2.1.length ≤ 1048576 := by
  unfold resRenameParty
  split
  · rename_i h
    simp only [Bool.and_eq_true] at h
    have h1 := isP_length h.1
    have h2 := isP_range h.1
    have h3 := people_sq h2.1 h2.2
    rw [sortP_length, namesP_length]
    omega
  · simp

set_option maxHeartbeats 4000000 in
set_option maxRecDepth 100000 in
theorem implRenameParty_any (p : Int) (l : PL) (A : Option Addr) (c : Nat) (q : List Int) (B : Option Addr) (d : Nat) (w : World) (hl : l.length ≤ 1048576) (hA : CRead w w.heap.size A (pcells l)) (hq : q.length ≤ 1048576) (hB : CRead w w.heap.size B (icells q)) :
    Calls Try.prog 17 #[.agg #[.int .i64 p, .slice A l.length c], .slice B q.length d] w (GotPartyOk w (resRenameParty p l q).1 (resRenameParty p l q).2.1 (resRenameParty p l q).2.2) := by
  generalize hW : (w.alloc (Obj.cells #[.int .i64 p, .slice A l.length c] 29)).alloc (Obj.cells #[.int .i64 0, .slice none 0 0] 29) = W
  have a0 : W.cell? ⟨w.heap.size, 0, none⟩ = some (.int .i64 p) := by rw [← hW]; simp
  have a1 : W.cell? ⟨w.heap.size, 1, none⟩ = some (.slice A l.length c) := by rw [← hW]; simp
  have X0 : W.cell? ⟨w.heap.size + 1, 0, none⟩ = some (.int .i64 0) := by rw [← hW]; simp
  have X1 : W.cell? ⟨w.heap.size + 1, 1, none⟩ = some (.slice none 0 0) := by rw [← hW]; simp
  have Z0 : W.frozen? ⟨w.heap.size + 1, 0, none⟩ = false := by rw [← hW]; simp
  have Z1 : W.frozen? ⟨w.heap.size + 1, 1, none⟩ = false := by rw [← hW]; simp
  have kW : Below w.heap.size w W := by rw [← hW]; go_grown
  have sW1 : w.heap.size < W.heap.size := by rw [← hW]; simp only [World.size_alloc]; omega
  have sW2 : w.heap.size + 1 < W.heap.size := by rw [← hW]; simp
  have RA := (hA.below kW (Nat.le_refl _)).more kW.size
  have RB := (hB.below kW (Nat.le_refl _)).more kW.size
  cases hp : isP p l with
  | false =>
    have e : resRenameParty p l q = (0, [], false) := by simp [resRenameParty, hp]
    rw [e]
    have Hp := Lib.hid hp
    have HW := Lib.hid hW
    clear hp e hW
    go_enter Try.func17, Try.ntmps17
    go_wp2_with fail
    rw [HW.out]
    refine (isParty_any _ _ _ _ _ hl RA).mono ?_
    rw [Hp.out]
    rintro e w2 ⟨rfl, hb2⟩
    have y0 := carry hb2 X0 sW2
    have y1 := carry hb2 X1 sW2
    have y2 := (hb2.frozen (p := ⟨w.heap.size + 1, 0, none⟩) sW2).trans Z0
    have y3 := (hb2.frozen (p := ⟨w.heap.size + 1, 1, none⟩) sW2).trans Z1
    have k2 := kW.trans (hb2.mono kW.size)
    clear a0 a1 X0 X1 Z0 Z1
    go_wp2
    refine bodyPost_ret (v := .tuple #[.agg #[.int .i64 0, .slice none 0 0], .bool false]) (by simp [results, Try.results17, go_sem, y0, y1]) rfl ?_
    exact ⟨none, 0, rfl, World.ownsRow_nil _ _ _ _, (k2.setCell (p := ⟨w.heap.size + 1, 0, none⟩) (by simp) _).setCell (p := ⟨w.heap.size + 1, 1, none⟩) (by simp) _⟩
  | true =>
    cases hc : isNamingI p q with
    | false =>
      have e : resRenameParty p l q = (0, [], false) := by simp [resRenameParty, hc]
      rw [e]
      have Hp := Lib.hid hp
      have Hc := Lib.hid hc
      have HW := Lib.hid hW
      have hn := isP_range hp
      clear hp e hW hc
      go_enter Try.func17, Try.ntmps17
      go_wp2_with fail
      rw [HW.out]
      refine (isParty_any _ _ _ _ _ hl RA).mono ?_
      rw [Hp.out]
      rintro e w2 ⟨rfl, hb2⟩
      have c0 := carry hb2 a0 sW1
      have c1 := carry hb2 a1 sW1
      have s2 := hb2.size
      go_wp2_with fail
      refine (isNaming_any p q A B l.length c d _ hn ((RB.below hb2 (Nat.le_refl _)).more s2)).mono ?_
      rw [Hc.out]
      rintro e w3 ⟨rfl, hb3⟩
      have g3 := hb2.trans (hb3.mono s2)
      have y0 := carry g3 X0 sW2
      have y1 := carry g3 X1 sW2
      have y2 := (g3.frozen (p := ⟨w.heap.size + 1, 0, none⟩) sW2).trans Z0
      have y3 := (g3.frozen (p := ⟨w.heap.size + 1, 1, none⟩) sW2).trans Z1
      have k2 := kW.trans (g3.mono kW.size)
      clear a0 a1 X0 X1 Z0 Z1 c0 c1
      go_wp2
      refine bodyPost_ret (v := .tuple #[.agg #[.int .i64 0, .slice none 0 0], .bool false]) (by simp [results, Try.results17, go_sem, y0, y1]) rfl ?_
      exact ⟨none, 0, rfl, World.ownsRow_nil _ _ _ _, (k2.setCell (p := ⟨w.heap.size + 1, 0, none⟩) (by simp) _).setCell (p := ⟨w.heap.size + 1, 1, none⟩) (by simp) _⟩
    | true =>
      have e : resRenameParty p l q = (p, sortP (namesP l q), true) := by simp [resRenameParty, hp, hc]
      rw [e]
      have Hp := Lib.hid hp
      have Hc := Lib.hid hc
      have HW := Lib.hid hW
      have hn := isP_range hp
      clear hp e hW hc
      go_enter Try.func17, Try.ntmps17
      go_wp2_with fail
      rw [HW.out]
      refine (isParty_any _ _ _ _ _ hl RA).mono ?_
      rw [Hp.out]
      rintro e w2 ⟨rfl, hb2⟩
      have c0 := carry hb2 a0 sW1
      have c1 := carry hb2 a1 sW1
      have s2 := hb2.size
      go_wp2_with fail
      refine (isNaming_any p q A B l.length c d _ hn ((RB.below hb2 (Nat.le_refl _)).more s2)).mono ?_
      rw [Hc.out]
      rintro e w3 ⟨rfl, hb3⟩
      have g3 := hb2.trans (hb3.mono s2)
      have s3 := g3.size
      have k3 := kW.trans (g3.mono kW.size)
      have d0 := carry g3 a0 sW1
      have d1 := carry g3 a1 sW1
      clear c0 c1
      go_wp2_with fail
      refine (renamed_any p l A c q B d _ Hp.out Hc.out ((hA.below k3 (Nat.le_refl _)).more k3.size) ((hB.below k3 (Nat.le_refl _)).more k3.size)).mono ?_
      rintro e w4 ⟨A4, c4, rfl, own4, hb4⟩
      have g4 := g3.trans (hb4.mono s3)
      have y0 := carry g4 X0 sW2
      have y1 := carry g4 X1 sW2
      have y2 := (g4.frozen (p := ⟨w.heap.size + 1, 0, none⟩) sW2).trans Z0
      have y3 := (g4.frozen (p := ⟨w.heap.size + 1, 1, none⟩) sW2).trans Z1
      have k4 := kW.trans (g4.mono kW.size)
      clear a0 a1 X0 X1 Z0 Z1 d0 d1
      go_wp2
      refine bodyPost_ret (v := .tuple #[.agg #[.int .i64 p, .slice A4 (sortP (namesP l q)).length c4], .bool true]) (by simp [results, Try.results17, go_sem, y0, y1]) rfl ?_
      exact ⟨A4, c4, rfl, own_lower (ownsRow_setCell_below (ownsRow_setCell_below own4 (a := ⟨w.heap.size + 1, 0, none⟩) (by simp; omega) _) (a := ⟨w.heap.size + 1, 1, none⟩) (by simp; omega) _) k3.size, (k4.setCell (p := ⟨w.heap.size + 1, 0, none⟩) (by simp) _).setCell (p := ⟨w.heap.size + 1, 1, none⟩) (by simp) _⟩
end Go.Proofs.Ytaemodpolopcfaa
