/-
  A PARTY IN A BOX OF THE CALL's OWN, whose pairs are appended one by one.
-/
import Derived.Test.YtgccapdjhnejcaaOf
namespace Go.Proofs.Ytgccapdjhnejcaa
open Go.RowKit

/-- The worlds above w0: a box at g holds a party of n people whose pairs so far, L, lie in a row of the call's own. -/
structure BoxRel (B : Nat) (w0 wr : World) (n : Int) (g : Nat) (v : Value) (L : PL) : Prop where
  below : Below B w0 wr
  gB : B ≤ g
  box : wr.heap[g]? = some (.cells #[.int .i64 n, v] 31 (0, 0))
  own : wr.ownsRow B 59 2 v L.length (pcells L)
section
variable {B g : Nat} {w0 wr W1 w1 : World} {n : Int} {v v' : Value} {L : PL}
theorem BoxRel.lt (h : BoxRel B w0 wr n g v L) : g < wr.heap.size := lt_of_heap h.box
theorem ne_of_box (h : wr.heap[g]? = some (.cells #[.int .i64 n, v] 31 (0, 0))) {k : Nat} {xs : List Value} (ho : wr.ownsRow B 59 2 v' k xs) : v'.ownBlock ≠ some g := by
  rcases ho.2 with ⟨rfl, _⟩ | ⟨g', cap, cur, rfl, _, hh, _⟩
  · simp [Value.ownBlock]
  · intro e
    have hgb : g' = g := by simpa [Value.ownBlock] using e
    subst hgb
    rw [hh] at h
    injection h with h
    injection h with _ ht
    exact absurd ht (by decide)
theorem BoxRel.ne (h : BoxRel B w0 wr n g v L) : v.ownBlock ≠ some g := ne_of_box h.box h.own
theorem BoxRel.cells (h : BoxRel B w0 wr n g v L) : wr.cell? ⟨g, 0, none⟩ = some (.int .i64 n) ∧ wr.cell? ⟨g, 1, none⟩ = some v ∧ ∀ j, wr.frozen? ⟨g, j, none⟩ = false :=
  ⟨by rw [cell_of_row _ _ _ _ _ _ h.box]; rfl, by rw [cell_of_row _ _ _ _ _ _ h.box]; rfl, fun j => frozen_of_row _ _ j _ _ h.box⟩
/-- a world that keeps all that was -/
theorem BoxRel.kept (h : BoxRel B w0 wr n g v L) (hW : Below wr.heap.size wr W1) (hB : B ≤ wr.heap.size) : BoxRel B w0 W1 n g v L :=
  ⟨h.below.trans (hW.mono hB), h.gB, (hW.block _ h.lt).trans h.box, own_below h.own hW (Nat.le_refl _)⟩
theorem BoxRel.le (h : BoxRel B w0 wr n g v L) : B ≤ wr.heap.size := Nat.le_trans h.gB (Nat.le_of_lt h.lt)
/-- what stands behind an append -/
theorem BoxRel.grown (h : BoxRel B w0 wr n g v L) (hW : Below wr.heap.size wr W1) (hg : W1.grownBy w1 v.ownBlock) :
    w1.heap[g]? = some (.cells #[.int .i64 n, v] 31 (0, 0)) ∧ w1.cell? ⟨g, 0, none⟩ = some (.int .i64 n) ∧ w1.cell? ⟨g, 1, none⟩ = some v ∧ (∀ j, w1.frozen? ⟨g, j, none⟩ = false) ∧ Below B w0 w1 ∧ wr.heap.size ≤ w1.heap.size := by
  have hlt := h.lt
  have e : w1.heap[g]? = some (.cells #[.int .i64 n, v] 31 (0, 0)) := by
    rw [hg.block g (Nat.lt_of_lt_of_le hlt hW.size) (fun e => h.ne e.symm), hW.block g hlt]
    exact h.box
  refine ⟨e, by rw [cell_of_row _ _ _ _ _ _ e]; rfl, by rw [cell_of_row _ _ _ _ _ _ e]; rfl, fun j => frozen_of_row _ _ j _ _ e, ?_, Nat.le_trans hW.size hg.size⟩
  exact (h.below.trans (hW.mono h.le)).grown hg (Nat.le_trans h.le hW.size) (fun k hk => (h.own.lt k hk).1)
/-- one pair more -/
theorem BoxRel.push {x y : Int} (h : BoxRel B w0 wr n g v L) (hW : Below wr.heap.size wr W1) (hg : W1.grownBy w1 v.ownBlock) (hown : w1.ownsRow B 59 2 v' (L.length + 1) (pcells L ++ [.int .i64 x, .int .i64 y])) :
    BoxRel B w0 (w1.setCell ⟨g, 1, none⟩ v') n g v' (L ++ [(x, y)]) := by
  obtain ⟨e, _, _, _, hb, _⟩ := h.grown hW hg
  have hne := ne_of_box e hown
  refine ⟨hb.setCell (p := ⟨g, 1, none⟩) h.gB _, h.gB, heap_setCell_same w1 g 1 _ _ v' e, ?_⟩
  have el : (L ++ [(x, y)]).length = L.length + 1 := by simp
  rw [el, pcells_append]
  exact hown.kept (row := some g) ⟨rfl, rfl, rfl, by simp, fun k _ hk => heap_setCell_other _ _ _ _ (fun e => hk (by rw [e]))⟩ (.inr hne)
end
end Go.Proofs.Ytgccapdjhnejcaa
