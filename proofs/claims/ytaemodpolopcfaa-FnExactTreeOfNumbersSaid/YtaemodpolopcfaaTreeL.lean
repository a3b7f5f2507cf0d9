/-
  'impl.leftOf', 'impl.friendOfOne', by their contracts.
-/
import Derived.Test.YtaemodpolopcfaaTreeS
import Derived.Deep.OwnRows
import Derived.Laws.IdiomCopy
namespace Go.Proofs.Ytaemodpolopcfaa
open Go.RowKit

/-- what is left of twelve people: of those who are not there nothing -/
def leftF (l : List Int) (j : Nat) : Int := l.getD j 0
theorem leftF_at {l : List Int} {j : Nat} {x : Int} (h : l[j]? = some x) : leftF l j = x := getD_of h
theorem leftF_out {l : List Int} {j : Nat} (h : l.length ≤ j) : leftF l j = 0 := by
  unfold leftF
  rw [List.getD_eq_getElem?_getD, List.getElem?_eq_none h]
  rfl

set_option maxHeartbeats 2000000 in
set_option maxRecDepth 100000 in
theorem leftOf_any (q : List Int) (A : Option Addr) (c : Nat) (w : World) (hq : q.length ≤ 12) (h0 : 0 < q.length) (hA : CRead w w.heap.size A (icells q)) :
    Calls Try.prog 99 #[.slice A q.length c] w fun e w' => e = .returned (.agg #[.int .i64 (leftF q 0), .int .i64 (leftF q 1), .int .i64 (leftF q 2), .int .i64 (leftF q 3), .int .i64 (leftF q 4), .int .i64 (leftF q 5), .int .i64 (leftF q 6), .int .i64 (leftF q 7), .int .i64 (leftF q 8), .int .i64 (leftF q 9), .int .i64 (leftF q 10), .int .i64 (leftF q 11)]) ∧ Below w.heap.size w w' := by
  obtain ⟨b, off, rfl, hb, hr⟩ := hA.ints h0
  generalize hW : (w.alloc (Obj.cells #[.int .i64 0, .int .i64 0, .int .i64 0, .int .i64 0, .int .i64 0, .int .i64 0, .int .i64 0, .int .i64 0, .int .i64 0, .int .i64 0, .int .i64 0, .int .i64 0] 100)).alloc (Obj.cells #[.int .i64 0, .int .i64 0, .int .i64 0, .int .i64 0, .int .i64 0, .int .i64 0, .int .i64 0, .int .i64 0, .int .i64 0, .int .i64 0, .int .i64 0, .int .i64 0] 100) = W
  have kW : Below w.heap.size w W := by rw [← hW]; go_grown
  have sW : w.heap.size + 1 < W.heap.size := by rw [← hW]; simp
  have hrow : W.rowIs (w.heap.size + 1) 100 12 (fun _ => .int .i64 0) := by
    rw [← hW]
    refine ⟨#[.int .i64 0, .int .i64 0, .int .i64 0, .int .i64 0, .int .i64 0, .int .i64 0, .int .i64 0, .int .i64 0, .int .i64 0, .int .i64 0, .int .i64 0, .int .i64 0], by have := heap_alloc_new (w.alloc (Obj.cells #[.int .i64 0, .int .i64 0, .int .i64 0, .int .i64 0, .int .i64 0, .int .i64 0, .int .i64 0, .int .i64 0, .int .i64 0, .int .i64 0, .int .i64 0, .int .i64 0] 100)) (Obj.cells #[.int .i64 0, .int .i64 0, .int .i64 0, .int .i64 0, .int .i64 0, .int .i64 0, .int .i64 0, .int .i64 0, .int .i64 0, .int .i64 0, .int .i64 0, .int .i64 0] 100); simpa using this, rfl, fun i hi => ?_⟩
    match i, hi with
    | 0, _ | 1, _ | 2, _ | 3, _ | 4, _ | 5, _ | 6, _ | 7, _ | 8, _ | 9, _ | 10, _ | 11, _ => rfl
  have hrow0 : W.rowIs w.heap.size 100 12 (fun _ => .int .i64 0) := by
    rw [← hW]
    refine ⟨#[.int .i64 0, .int .i64 0, .int .i64 0, .int .i64 0, .int .i64 0, .int .i64 0, .int .i64 0, .int .i64 0, .int .i64 0, .int .i64 0, .int .i64 0, .int .i64 0], (Below.heap_alloc _ _ _ (by simp)).trans (heap_alloc_new w _), rfl, fun i hi => ?_⟩
    match i, hi with
    | 0, _ | 1, _ | 2, _ | 3, _ | 4, _ | 5, _ | 6, _ | 7, _ | 8, _ | 9, _ | 10, _ | 11, _ => rfl
  have hlen : (icells q).length = q.length := icells_length q
  have hrun : ∀ ty, (Builtin.copy_ #[25, 25] ty #[.slice (some ⟨w.heap.size + 1, 0, none⟩) 12 12, .slice (some ⟨b, off, none⟩) q.length c]).run Try.prog W = .ok (goInt q.length) (W.setCells (w.heap.size + 1) 0 (icells q)) := fun ty => by
    have := run_copy_cells (P := Try.prog) W 25 25 ty 3 (w.heap.size + 1) 0 12 12 ⟨b, off, none⟩ q.length c (icells q) Try.underlying25 (by kernel_rfl) (by rw [hlen]; exact (Nat.min_eq_left hq).symm)
      (fun j u hj => by
        rw [Addr.add_lit]
        obtain ⟨b', off', e, _, hcell⟩ := hA j u hj
        simp only [Option.some.injEq, Addr.mk.injEq, and_true] at e
        obtain ⟨rfl, rfl⟩ := e
        exact (kW.cell (p := ⟨b, off + j, none⟩) hb).trans hcell)
      (fun j hj => by rw [Nat.zero_add, hrow.cell (by omega)]; rfl)
      (fun j _ => hrow.frozen _)
      (icells_one q)
    rw [hlen] at this
    simpa using this
  have hrow2 := (rowIs_setCells (icells q) 0 _ _ hrow).congr (g := fun j => .int .i64 (leftF q j)) (fun j hj => by
    rw [hlen]
    by_cases hjq : j < q.length
    · rw [if_pos ⟨Nat.zero_le _, by omega⟩, Nat.sub_zero, icells_getD hjq]
      rfl
    · rw [if_neg (by omega), leftF_out (by omega)])
  have hrow3 := rowIs_setCells_other (b := w.heap.size + 1) (b' := w.heap.size) (by omega) (icells q) 0 _ hrow0
  have kV : Below w.heap.size w (W.setCells (w.heap.size + 1) 0 (icells q)) := (below_setCells (Nat.le_succ _) _ _ _ kW)
  obtain ⟨V, hV⟩ : ∃ V, W.setCells (w.heap.size + 1) 0 (icells q) = V := ⟨_, rfl⟩
  rw [hV] at hrow2 hrow3 kV
  have hrun2 : ∀ ty, (Builtin.copy_ #[25, 25] ty #[.slice (some ⟨w.heap.size + 1, 0, none⟩) 12 12, .slice (some ⟨b, off, none⟩) q.length c]).run Try.prog ((w.alloc (Obj.cells #[.int .i64 0, .int .i64 0, .int .i64 0, .int .i64 0, .int .i64 0, .int .i64 0, .int .i64 0, .int .i64 0, .int .i64 0, .int .i64 0, .int .i64 0, .int .i64 0] 100)).alloc (Obj.cells #[.int .i64 0, .int .i64 0, .int .i64 0, .int .i64 0, .int .i64 0, .int .i64 0, .int .i64 0, .int .i64 0, .int .i64 0, .int .i64 0, .int .i64 0, .int .i64 0] 100)) = .ok (goInt q.length) V := fun ty => by rw [hW, ← hV]; exact hrun ty
  clear hrun hV hW hrow hrow0
  have c0 := hrow2.cell (i := 0) (by omega)
  have c1 := hrow2.cell (i := 1) (by omega)
  have c2 := hrow2.cell (i := 2) (by omega)
  have c3 := hrow2.cell (i := 3) (by omega)
  have c4 := hrow2.cell (i := 4) (by omega)
  have c5 := hrow2.cell (i := 5) (by omega)
  have c6 := hrow2.cell (i := 6) (by omega)
  have c7 := hrow2.cell (i := 7) (by omega)
  have c8 := hrow2.cell (i := 8) (by omega)
  have c9 := hrow2.cell (i := 9) (by omega)
  have c10 := hrow2.cell (i := 10) (by omega)
  have c11 := hrow2.cell (i := 11) (by omega)
  have f0 : ∀ j, V.frozen? ⟨w.heap.size, j, none⟩ = false := fun j => hrow3.frozen j
  have e0 := f0 0
  have r0 := hrow3.cell (i := 0) (by omega)
  have e1 := f0 1
  have r1 := hrow3.cell (i := 1) (by omega)
  have e2 := f0 2
  have r2 := hrow3.cell (i := 2) (by omega)
  have e3 := f0 3
  have r3 := hrow3.cell (i := 3) (by omega)
  have e4 := f0 4
  have r4 := hrow3.cell (i := 4) (by omega)
  have e5 := f0 5
  have r5 := hrow3.cell (i := 5) (by omega)
  have e6 := f0 6
  have r6 := hrow3.cell (i := 6) (by omega)
  have e7 := f0 7
  have r7 := hrow3.cell (i := 7) (by omega)
  have e8 := f0 8
  have r8 := hrow3.cell (i := 8) (by omega)
  have e9 := f0 9
  have r9 := hrow3.cell (i := 9) (by omega)
  have e10 := f0 10
  have r10 := hrow3.cell (i := 10) (by omega)
  have e11 := f0 11
  have r11 := hrow3.cell (i := 11) (by omega)
  have Hrow3 := Lib.hid hrow3
  clear hrow2 hrow3
  go_enter Try.func99, Try.ntmps99
  go_wp2
  refine bodyPost_ret (v := .agg #[.int .i64 (leftF q 0), .int .i64 (leftF q 1), .int .i64 (leftF q 2), .int .i64 (leftF q 3), .int .i64 (leftF q 4), .int .i64 (leftF q 5), .int .i64 (leftF q 6), .int .i64 (leftF q 7), .int .i64 (leftF q 8), .int .i64 (leftF q 9), .int .i64 (leftF q 10), .int .i64 (leftF q 11)]) (by simp [results, Try.results99, go_sem, r0, r1, r2, r3, r4, r5, r6, r7, r8, r9, r10, r11]) rfl ?_
  exact ⟨rfl, ((((((((((((kV.setCell (p := ⟨w.heap.size, 0, none⟩) (Nat.le_refl _) _).setCell (p := ⟨w.heap.size, 1, none⟩) (Nat.le_refl _) _).setCell (p := ⟨w.heap.size, 2, none⟩) (Nat.le_refl _) _).setCell (p := ⟨w.heap.size, 3, none⟩) (Nat.le_refl _) _).setCell (p := ⟨w.heap.size, 4, none⟩) (Nat.le_refl _) _).setCell (p := ⟨w.heap.size, 5, none⟩) (Nat.le_refl _) _).setCell (p := ⟨w.heap.size, 6, none⟩) (Nat.le_refl _) _).setCell (p := ⟨w.heap.size, 7, none⟩) (Nat.le_refl _) _).setCell (p := ⟨w.heap.size, 8, none⟩) (Nat.le_refl _) _).setCell (p := ⟨w.heap.size, 9, none⟩) (Nat.le_refl _) _).setCell (p := ⟨w.heap.size, 10, none⟩) (Nat.le_refl _) _).setCell (p := ⟨w.heap.size, 11, none⟩) (Nat.le_refl _) _)⟩

end Go.Proofs.Ytaemodpolopcfaa
