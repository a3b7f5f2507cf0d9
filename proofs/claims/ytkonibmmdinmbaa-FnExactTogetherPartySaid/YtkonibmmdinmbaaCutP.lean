/-
  WHERE THE WAYS THROUGH A DRAWN STATEMENT MEET: 'g, ok := f(copies of the arguments)': the box of the result may be laid ahead of each call or behind all.
-/
import Derived.Test.YtkonibmmdinmbaaBox
import Derived.Deep.DeepCutAuto
import Derived.Deep.RegionHeld3
namespace Go.Proofs.Ytkonibmmdinmbaa
open Go.RowKit

structure CutP (WC : World) (rq : Int) (rm : PL) (wx : World) (g : Nat) (T : Option Addr) (d : Nat) : Prop where
  below : Below WC.heap.size WC wx
  c0 : wx.cell? ⟨g, 0, none⟩ = some (.int .i64 rq)
  c1 : wx.cell? ⟨g, 1, none⟩ = some (.slice T rm.length d)
  own : wx.ownsRow WC.heap.size 77 2 (.slice T rm.length d) rm.length (pcells rm)
  lies : ∃ lo hi, Lies (.slice T rm.length d) lo hi ∧ WC.heap.size ≤ lo ∧ hi ≤ wx.heap.size ∧ (g < lo ∨ hi ≤ g)
  gB : WC.heap.size ≤ g
  glt : g < wx.heap.size
theorem cut_last {WC v : World} {rq : Int} {rm : PL} {T : Option Addr} {d base : Nat} (h : Below WC.heap.size WC v) (hb : WC.heap.size ≤ base) (n : v.ownsRow base 77 2 (.slice T rm.length d) rm.length (pcells rm)) :
    CutP WC rq rm (v.alloc (Obj.cells #[.int .i64 rq, .slice T rm.length d] 29)) v.heap.size T d :=
  ⟨h.alloc h.size _, by rw [cell_of_row _ _ _ _ _ _ (heap_alloc_new v _)]; rfl, by rw [cell_of_row _ _ _ _ _ _ (heap_alloc_new v _)]; rfl, own_lower (n.alloc _) hb, ⟨base, v.heap.size, own_lies n, hb, by simp, .inr (Nat.le_refl _)⟩, h.size, by simp⟩
theorem cut_early {WC v : World} {rq : Int} {rm : PL} {T : Option Addr} {d base G : Nat} (h : Below WC.heap.size WC v) (hG : WC.heap.size ≤ G) (hb : G < base) (n : v.ownsRow base 77 2 (.slice T rm.length d) rm.length (pcells rm))
    (Y : v.heap[G]? = some (.cells #[.int .i64 0, .slice none 0 0] 29 (0, 0))) :
    CutP WC rq rm ((v.setCell ⟨G, 0, none⟩ (.int .i64 rq)).setCell ⟨G, 1, none⟩ (.slice T rm.length d)) G T d := by
  have e := heap_setCell_same _ G 1 _ _ (.slice T rm.length d) (heap_setCell_same v G 0 _ _ (.int .i64 rq) Y)
  have hlt := lt_of_heap Y
  refine ⟨(h.setCell (p := ⟨G, 0, none⟩) hG _).setCell (p := ⟨G, 1, none⟩) hG _, by rw [cell_of_row _ _ _ _ _ _ e]; rfl, by rw [cell_of_row _ _ _ _ _ _ e]; rfl,
    own_lower (ownsRow_setCell_below (ownsRow_setCell_below n (a := ⟨G, 0, none⟩) hb _) (a := ⟨G, 1, none⟩) hb _) (by omega), ⟨base, v.heap.size, own_lies n, by omega, by simp, .inl hb⟩, hG, by simpa using hlt⟩
theorem box_cells {v : World} {G : Nat} (Y : v.heap[G]? = some (.cells #[.int .i64 0, .slice none 0 0] 29 (0, 0))) : v.cell? ⟨G, 0, none⟩ = some (.int .i64 0) ∧ v.cell? ⟨G, 1, none⟩ = some (.slice none 0 0) ∧ v.frozen? ⟨G, 0, none⟩ = false ∧ v.frozen? ⟨G, 1, none⟩ = false :=
  ⟨by rw [cell_of_row _ _ _ _ _ _ Y]; rfl, by rw [cell_of_row _ _ _ _ _ _ Y]; rfl, frozen_of_row _ _ _ _ _ Y, frozen_of_row _ _ _ _ _ Y⟩
end Go.Proofs.Ytkonibmmdinmbaa
