/-
  Texts put together for the claims of 'DoesFit' (pack 8): FitI, ClueI, ClueJ, Fits.
-/
import Derived.Test.YtefkcfkicmfhlaaDoorDoesFitP2
import Derived.Test.YtefkcfkicmfhlaaDoorDoesFitP4
import Derived.Test.YtefkcfkicmfhlaaDoorDoesFitP5
import Derived.Test.YtefkcfkicmfhlaaDoorDoesFitP7
import Derived.Deep.RegionHeld3
import Derived.Deep.RegionLawGrows
import Derived.BigQuiet
import Derived.Recover
import Derived.Defers
import Derived.Laws.Pointers
import Derived.WalkLawsBesides
/-
  THE CLUE THAT A PARTY FITS INSTEAD OF ONE: the program's, by its contract; 'fits'.
-/
namespace Go.Proofs.YtefkcfkicmfhlaaDoor
open Go.RowKit

structure Lib_hid_res (n : Nat) (l : PL) : Prop where
  out : resNumbersOfFriends (n : Int) l = (numsOf n l, true)
theorem fit_facts {X w2 : World} {g : Nat} {k a b : Int} (N0 : X.heap[g]? = some (Obj.cells #[.int .i64 k, .int .i64 a, .int .i64 b] 30)) (N2 : X.heap[g + 1 + 1]? = some (Obj.cells #[.int .i64 0, .int .i64 0, .int .i64 0] 30))
    (hb : Below X.heap.size X w2) (sX : X.heap.size = g + 1 + 1 + 1) :
    w2.cell? ⟨g, 0, none⟩ = some (.int .i64 k) ∧ w2.cell? ⟨g, 1, none⟩ = some (.int .i64 a) ∧ w2.cell? ⟨g, 2, none⟩ = some (.int .i64 b) ∧ w2.frozen? ⟨g, 1, none⟩ = false ∧
    w2.cell? ⟨g + 1 + 1, 0, none⟩ = some (.int .i64 0) ∧ w2.cell? ⟨g + 1 + 1, 1, none⟩ = some (.int .i64 0) ∧ w2.cell? ⟨g + 1 + 1, 2, none⟩ = some (.int .i64 0) ∧
    w2.frozen? ⟨g + 1 + 1, 0, none⟩ = false ∧ w2.frozen? ⟨g + 1 + 1, 1, none⟩ = false ∧ w2.frozen? ⟨g + 1 + 1, 2, none⟩ = false := by
  have B0 := (hb.block g (by omega)).trans N0
  have B2 := (hb.block (g + 1 + 1) (by omega)).trans N2
  refine ⟨?_, ?_, ?_, frozen_of_row _ _ 1 _ _ B0, ?_, ?_, ?_, frozen_of_row _ _ 0 _ _ B2, frozen_of_row _ _ 1 _ _ B2, frozen_of_row _ _ 2 _ _ B2⟩
  · rw [cell_of_row _ _ _ _ _ _ B0]; rfl
  · rw [cell_of_row _ _ _ _ _ _ B0]; rfl
  · rw [cell_of_row _ _ _ _ _ _ B0]; rfl
  · rw [cell_of_row _ _ _ _ _ _ B2]; rfl
  · rw [cell_of_row _ _ _ _ _ _ B2]; rfl
  · rw [cell_of_row _ _ _ _ _ _ B2]; rfl
set_option maxHeartbeats 4000000 in
set_option maxRecDepth 100000 in
theorem fitting_3 (p a b : Int) (l : PL) (A : Option Addr) (c : Nat) (w : World) :
    Calls Tryd.prog 112 #[.agg #[.int .i64 3, .int .i64 a, .int .i64 b], .agg #[.int .i64 p, .slice A l.length c]] w fun e w' => e = .returned (.agg #[.int .i64 3, .int .i64 (l.length : Int), .int .i64 b]) ∧ Below w.heap.size w w' := by
  go_enter Tryd.func112, Tryd.ntmps112
  go_wp2
  go_returns
  exact ⟨rfl, by go_grown⟩
set_option maxHeartbeats 4000000 in
set_option maxRecDepth 100000 in
theorem fitting_0 (p a b : Int) (l : PL) (A : Option Addr) (c : Nat) (w : World) (hl : l.length ≤ 1048576) (hA : CRead w w.heap.size A (pcells l)) :
    Calls Tryd.prog 112 #[.agg #[.int .i64 0, .int .i64 a, .int .i64 b], .agg #[.int .i64 p, .slice A l.length c]] w fun e w' => e = .returned (.agg #[.int .i64 (if l.contains (a, b) then 0 else 1), .int .i64 a, .int .i64 b]) ∧ Below w.heap.size w w' := by
  obtain ⟨X, hX⟩ : ∃ X, ((w.alloc (Obj.cells #[.int .i64 1, .int .i64 a, .int .i64 b] 30)).alloc (Obj.cells #[.int .i64 p, .slice A l.length c] 34)).alloc (Obj.cells #[.int .i64 0, .int .i64 0, .int .i64 0] 30) = X := ⟨_, rfl⟩
  have kX : Below w.heap.size w X := by rw [← hX]; go_grown
  have sX : X.heap.size = w.heap.size + 1 + 1 + 1 := by rw [← hX]; simp
  have N0 : X.heap[w.heap.size]? = some (Obj.cells #[.int .i64 1, .int .i64 a, .int .i64 b] 30) := by
    rw [← hX]
    exact (Below.heap_alloc _ _ _ (by simp; omega)).trans ((Below.heap_alloc _ _ _ (by simp)).trans (heap_alloc_new w _))
  have N1 : X.heap[w.heap.size + 1]? = some (Obj.cells #[.int .i64 p, .slice A l.length c] 34) := by
    rw [← hX]
    have h := heap_alloc_new (w.alloc (Obj.cells #[.int .i64 1, .int .i64 a, .int .i64 b] 30)) (Obj.cells #[.int .i64 p, .slice A l.length c] 34)
    rw [World.size_alloc] at h
    exact (Below.heap_alloc _ _ _ (by simp)).trans h
  have N2 : X.heap[w.heap.size + 1 + 1]? = some (Obj.cells #[.int .i64 0, .int .i64 0, .int .i64 0] 30) := by
    rw [← hX]
    have h := heap_alloc_new ((w.alloc (Obj.cells #[.int .i64 1, .int .i64 a, .int .i64 b] 30)).alloc (Obj.cells #[.int .i64 p, .slice A l.length c] 34)) (Obj.cells #[.int .i64 0, .int .i64 0, .int .i64 0] 30)
    rw [World.size_alloc, World.size_alloc] at h
    exact h
  have p0 : X.cell? ⟨w.heap.size + 1, 0, none⟩ = some (.int .i64 p) := by rw [cell_of_row _ _ _ _ _ _ N1]; rfl
  have p1 : X.cell? ⟨w.heap.size + 1, 1, none⟩ = some (.slice A l.length c) := by rw [cell_of_row _ _ _ _ _ _ N1]; rfl
  have y0 : X.cell? ⟨w.heap.size, 0, none⟩ = some (.int .i64 1) := by rw [cell_of_row _ _ _ _ _ _ N0]; rfl
  have y1 : X.cell? ⟨w.heap.size, 1, none⟩ = some (.int .i64 a) := by rw [cell_of_row _ _ _ _ _ _ N0]; rfl
  have y2 : X.cell? ⟨w.heap.size, 2, none⟩ = some (.int .i64 b) := by rw [cell_of_row _ _ _ _ _ _ N0]; rfl
  have rX : CRead X X.heap.size A (pcells l) := (hA.below kX (Nat.le_refl _)).more kX.size
  have HX := Lib.hid hX
  have M0 := Lib.hid N0
  have M2 := Lib.hid N2
  clear hX N0 N1 N2
  have call := contains_any l a b A c X hl rX
  obtain ⟨B, hB⟩ : ∃ B, l.contains (a, b) = B := ⟨_, rfl⟩
  rw [hB] at call ⊢
  have Call := Lib.hid call
  clear hB call
  go_enter Tryd.func112, Tryd.ntmps112
  go_wp2_with fail
  rw [HX.out]
  refine Call.out.mono ?_
  rintro e w2 ⟨rfl, hb2⟩
  clear y0 y1 y2 p0 p1 Call
  cases B with
  | true =>
    have B0 : w2.heap[w.heap.size]? = some (Obj.cells #[.int .i64 1, .int .i64 a, .int .i64 b] 30) := (hb2.block _ (by omega)).trans M0.out
    have B2 : w2.heap[w.heap.size + 1 + 1]? = some (Obj.cells #[.int .i64 0, .int .i64 0, .int .i64 0] 30) := (hb2.block _ (by omega)).trans M2.out
    have x0 : w2.cell? ⟨w.heap.size, 0, none⟩ = some (.int .i64 1) := by rw [cell_of_row _ _ _ _ _ _ B0]; rfl
    have e0 := frozen_of_row _ _ 0 _ _ B0
    have r0 : w2.cell? ⟨w.heap.size + 1 + 1, 0, none⟩ = some (.int .i64 0) := by rw [cell_of_row _ _ _ _ _ _ B2]; rfl
    have f0 := frozen_of_row _ _ 0 _ _ B2
    have x1 : w2.cell? ⟨w.heap.size, 1, none⟩ = some (.int .i64 a) := by rw [cell_of_row _ _ _ _ _ _ B0]; rfl
    have e1 := frozen_of_row _ _ 1 _ _ B0
    have r1 : w2.cell? ⟨w.heap.size + 1 + 1, 1, none⟩ = some (.int .i64 0) := by rw [cell_of_row _ _ _ _ _ _ B2]; rfl
    have f1 := frozen_of_row _ _ 1 _ _ B2
    have x2 : w2.cell? ⟨w.heap.size, 2, none⟩ = some (.int .i64 b) := by rw [cell_of_row _ _ _ _ _ _ B0]; rfl
    have e2 := frozen_of_row _ _ 2 _ _ B0
    have r2 : w2.cell? ⟨w.heap.size + 1 + 1, 2, none⟩ = some (.int .i64 0) := by rw [cell_of_row _ _ _ _ _ _ B2]; rfl
    have f2 := frozen_of_row _ _ 2 _ _ B2
    have k3 := kX.trans (hb2.mono kX.size)
    clear B0 B2
    go_wp2
    refine bodyPost_ret (v := .agg #[.int .i64 0, .int .i64 a, .int .i64 b]) (by simp [results, Tryd.results112, go_sem, r0, r1, r2]) rfl ?_
    exact ⟨rfl, ((((k3.setCell (p := ⟨w.heap.size, 0, none⟩) (by simp; try omega) _).setCell (p := ⟨w.heap.size + 1 + 1, 0, none⟩) (by simp; try omega) _).setCell (p := ⟨w.heap.size + 1 + 1, 1, none⟩) (by simp; try omega) _).setCell (p := ⟨w.heap.size + 1 + 1, 2, none⟩) (by simp; try omega) _)⟩
  | false =>
    have B0 : w2.heap[w.heap.size]? = some (Obj.cells #[.int .i64 1, .int .i64 a, .int .i64 b] 30) := (hb2.block _ (by omega)).trans M0.out
    have B2 : w2.heap[w.heap.size + 1 + 1]? = some (Obj.cells #[.int .i64 0, .int .i64 0, .int .i64 0] 30) := (hb2.block _ (by omega)).trans M2.out
    have x0 : w2.cell? ⟨w.heap.size, 0, none⟩ = some (.int .i64 1) := by rw [cell_of_row _ _ _ _ _ _ B0]; rfl
    have e0 := frozen_of_row _ _ 0 _ _ B0
    have r0 : w2.cell? ⟨w.heap.size + 1 + 1, 0, none⟩ = some (.int .i64 0) := by rw [cell_of_row _ _ _ _ _ _ B2]; rfl
    have f0 := frozen_of_row _ _ 0 _ _ B2
    have x1 : w2.cell? ⟨w.heap.size, 1, none⟩ = some (.int .i64 a) := by rw [cell_of_row _ _ _ _ _ _ B0]; rfl
    have e1 := frozen_of_row _ _ 1 _ _ B0
    have r1 : w2.cell? ⟨w.heap.size + 1 + 1, 1, none⟩ = some (.int .i64 0) := by rw [cell_of_row _ _ _ _ _ _ B2]; rfl
    have f1 := frozen_of_row _ _ 1 _ _ B2
    have x2 : w2.cell? ⟨w.heap.size, 2, none⟩ = some (.int .i64 b) := by rw [cell_of_row _ _ _ _ _ _ B0]; rfl
    have e2 := frozen_of_row _ _ 2 _ _ B0
    have r2 : w2.cell? ⟨w.heap.size + 1 + 1, 2, none⟩ = some (.int .i64 0) := by rw [cell_of_row _ _ _ _ _ _ B2]; rfl
    have f2 := frozen_of_row _ _ 2 _ _ B2
    have k3 := kX.trans (hb2.mono kX.size)
    clear B0 B2
    go_wp2
    refine bodyPost_ret (v := .agg #[.int .i64 1, .int .i64 a, .int .i64 b]) (by simp [results, Tryd.results112, go_sem, r0, r1, r2]) rfl ?_
    exact ⟨rfl, (((k3.setCell (p := ⟨w.heap.size + 1 + 1, 0, none⟩) (by simp; try omega) _).setCell (p := ⟨w.heap.size + 1 + 1, 1, none⟩) (by simp; try omega) _).setCell (p := ⟨w.heap.size + 1 + 1, 2, none⟩) (by simp; try omega) _)⟩

set_option maxHeartbeats 4000000 in
set_option maxRecDepth 100000 in
theorem fitting_1 (p a b : Int) (l : PL) (A : Option Addr) (c : Nat) (w : World) (hl : l.length ≤ 1048576) (hA : CRead w w.heap.size A (pcells l)) :
    Calls Tryd.prog 112 #[.agg #[.int .i64 1, .int .i64 a, .int .i64 b], .agg #[.int .i64 p, .slice A l.length c]] w fun e w' => e = .returned (.agg #[.int .i64 (if l.contains (a, b) then 0 else 1), .int .i64 a, .int .i64 b]) ∧ Below w.heap.size w w' := by
  obtain ⟨X, hX⟩ : ∃ X, ((w.alloc (Obj.cells #[.int .i64 1, .int .i64 a, .int .i64 b] 30)).alloc (Obj.cells #[.int .i64 p, .slice A l.length c] 34)).alloc (Obj.cells #[.int .i64 0, .int .i64 0, .int .i64 0] 30) = X := ⟨_, rfl⟩
  have kX : Below w.heap.size w X := by rw [← hX]; go_grown
  have sX : X.heap.size = w.heap.size + 1 + 1 + 1 := by rw [← hX]; simp
  have N0 : X.heap[w.heap.size]? = some (Obj.cells #[.int .i64 1, .int .i64 a, .int .i64 b] 30) := by
    rw [← hX]
    exact (Below.heap_alloc _ _ _ (by simp; omega)).trans ((Below.heap_alloc _ _ _ (by simp)).trans (heap_alloc_new w _))
  have N1 : X.heap[w.heap.size + 1]? = some (Obj.cells #[.int .i64 p, .slice A l.length c] 34) := by
    rw [← hX]
    have h := heap_alloc_new (w.alloc (Obj.cells #[.int .i64 1, .int .i64 a, .int .i64 b] 30)) (Obj.cells #[.int .i64 p, .slice A l.length c] 34)
    rw [World.size_alloc] at h
    exact (Below.heap_alloc _ _ _ (by simp)).trans h
  have N2 : X.heap[w.heap.size + 1 + 1]? = some (Obj.cells #[.int .i64 0, .int .i64 0, .int .i64 0] 30) := by
    rw [← hX]
    have h := heap_alloc_new ((w.alloc (Obj.cells #[.int .i64 1, .int .i64 a, .int .i64 b] 30)).alloc (Obj.cells #[.int .i64 p, .slice A l.length c] 34)) (Obj.cells #[.int .i64 0, .int .i64 0, .int .i64 0] 30)
    rw [World.size_alloc, World.size_alloc] at h
    exact h
  have p0 : X.cell? ⟨w.heap.size + 1, 0, none⟩ = some (.int .i64 p) := by rw [cell_of_row _ _ _ _ _ _ N1]; rfl
  have p1 : X.cell? ⟨w.heap.size + 1, 1, none⟩ = some (.slice A l.length c) := by rw [cell_of_row _ _ _ _ _ _ N1]; rfl
  have y0 : X.cell? ⟨w.heap.size, 0, none⟩ = some (.int .i64 1) := by rw [cell_of_row _ _ _ _ _ _ N0]; rfl
  have y1 : X.cell? ⟨w.heap.size, 1, none⟩ = some (.int .i64 a) := by rw [cell_of_row _ _ _ _ _ _ N0]; rfl
  have y2 : X.cell? ⟨w.heap.size, 2, none⟩ = some (.int .i64 b) := by rw [cell_of_row _ _ _ _ _ _ N0]; rfl
  have rX : CRead X X.heap.size A (pcells l) := (hA.below kX (Nat.le_refl _)).more kX.size
  have HX := Lib.hid hX
  have M0 := Lib.hid N0
  have M2 := Lib.hid N2
  clear hX N0 N1 N2
  have call := contains_any l a b A c X hl rX
  obtain ⟨B, hB⟩ : ∃ B, l.contains (a, b) = B := ⟨_, rfl⟩
  rw [hB] at call ⊢
  have Call := Lib.hid call
  clear hB call
  go_enter Tryd.func112, Tryd.ntmps112
  go_wp2_with fail
  rw [HX.out]
  refine Call.out.mono ?_
  rintro e w2 ⟨rfl, hb2⟩
  clear y0 y1 y2 p0 p1 Call
  cases B with
  | true =>
    have B0 : w2.heap[w.heap.size]? = some (Obj.cells #[.int .i64 1, .int .i64 a, .int .i64 b] 30) := (hb2.block _ (by omega)).trans M0.out
    have B2 : w2.heap[w.heap.size + 1 + 1]? = some (Obj.cells #[.int .i64 0, .int .i64 0, .int .i64 0] 30) := (hb2.block _ (by omega)).trans M2.out
    have x0 : w2.cell? ⟨w.heap.size, 0, none⟩ = some (.int .i64 1) := by rw [cell_of_row _ _ _ _ _ _ B0]; rfl
    have e0 := frozen_of_row _ _ 0 _ _ B0
    have r0 : w2.cell? ⟨w.heap.size + 1 + 1, 0, none⟩ = some (.int .i64 0) := by rw [cell_of_row _ _ _ _ _ _ B2]; rfl
    have f0 := frozen_of_row _ _ 0 _ _ B2
    have x1 : w2.cell? ⟨w.heap.size, 1, none⟩ = some (.int .i64 a) := by rw [cell_of_row _ _ _ _ _ _ B0]; rfl
    have e1 := frozen_of_row _ _ 1 _ _ B0
    have r1 : w2.cell? ⟨w.heap.size + 1 + 1, 1, none⟩ = some (.int .i64 0) := by rw [cell_of_row _ _ _ _ _ _ B2]; rfl
    have f1 := frozen_of_row _ _ 1 _ _ B2
    have x2 : w2.cell? ⟨w.heap.size, 2, none⟩ = some (.int .i64 b) := by rw [cell_of_row _ _ _ _ _ _ B0]; rfl
    have e2 := frozen_of_row _ _ 2 _ _ B0
    have r2 : w2.cell? ⟨w.heap.size + 1 + 1, 2, none⟩ = some (.int .i64 0) := by rw [cell_of_row _ _ _ _ _ _ B2]; rfl
    have f2 := frozen_of_row _ _ 2 _ _ B2
    have k3 := kX.trans (hb2.mono kX.size)
    clear B0 B2
    go_wp2
    refine bodyPost_ret (v := .agg #[.int .i64 0, .int .i64 a, .int .i64 b]) (by simp [results, Tryd.results112, go_sem, r0, r1, r2]) rfl ?_
    exact ⟨rfl, ((((k3.setCell (p := ⟨w.heap.size, 0, none⟩) (by simp; try omega) _).setCell (p := ⟨w.heap.size + 1 + 1, 0, none⟩) (by simp; try omega) _).setCell (p := ⟨w.heap.size + 1 + 1, 1, none⟩) (by simp; try omega) _).setCell (p := ⟨w.heap.size + 1 + 1, 2, none⟩) (by simp; try omega) _)⟩
  | false =>
    have B0 : w2.heap[w.heap.size]? = some (Obj.cells #[.int .i64 1, .int .i64 a, .int .i64 b] 30) := (hb2.block _ (by omega)).trans M0.out
    have B2 : w2.heap[w.heap.size + 1 + 1]? = some (Obj.cells #[.int .i64 0, .int .i64 0, .int .i64 0] 30) := (hb2.block _ (by omega)).trans M2.out
    have x0 : w2.cell? ⟨w.heap.size, 0, none⟩ = some (.int .i64 1) := by rw [cell_of_row _ _ _ _ _ _ B0]; rfl
    have e0 := frozen_of_row _ _ 0 _ _ B0
    have r0 : w2.cell? ⟨w.heap.size + 1 + 1, 0, none⟩ = some (.int .i64 0) := by rw [cell_of_row _ _ _ _ _ _ B2]; rfl
    have f0 := frozen_of_row _ _ 0 _ _ B2
    have x1 : w2.cell? ⟨w.heap.size, 1, none⟩ = some (.int .i64 a) := by rw [cell_of_row _ _ _ _ _ _ B0]; rfl
    have e1 := frozen_of_row _ _ 1 _ _ B0
    have r1 : w2.cell? ⟨w.heap.size + 1 + 1, 1, none⟩ = some (.int .i64 0) := by rw [cell_of_row _ _ _ _ _ _ B2]; rfl
    have f1 := frozen_of_row _ _ 1 _ _ B2
    have x2 : w2.cell? ⟨w.heap.size, 2, none⟩ = some (.int .i64 b) := by rw [cell_of_row _ _ _ _ _ _ B0]; rfl
    have e2 := frozen_of_row _ _ 2 _ _ B0
    have r2 : w2.cell? ⟨w.heap.size + 1 + 1, 2, none⟩ = some (.int .i64 0) := by rw [cell_of_row _ _ _ _ _ _ B2]; rfl
    have f2 := frozen_of_row _ _ 2 _ _ B2
    have k3 := kX.trans (hb2.mono kX.size)
    clear B0 B2
    go_wp2
    refine bodyPost_ret (v := .agg #[.int .i64 1, .int .i64 a, .int .i64 b]) (by simp [results, Tryd.results112, go_sem, r0, r1, r2]) rfl ?_
    exact ⟨rfl, (((k3.setCell (p := ⟨w.heap.size + 1 + 1, 0, none⟩) (by simp; try omega) _).setCell (p := ⟨w.heap.size + 1 + 1, 1, none⟩) (by simp; try omega) _).setCell (p := ⟨w.heap.size + 1 + 1, 2, none⟩) (by simp; try omega) _)⟩

set_option maxHeartbeats 4000000 in
set_option maxRecDepth 100000 in
theorem fitting_2 (p a b : Int) (l : PL) (A : Option Addr) (c : Nat) (w : World) (hl : l.length ≤ 1048576) (hA : CRead w w.heap.size A (pcells l)) (hp : isP p l = true) (ha : 0 ≤ a ∧ a < p) :
    Calls Tryd.prog 112 #[.agg #[.int .i64 2, .int .i64 a, .int .i64 b], .agg #[.int .i64 p, .slice A l.length c]] w fun e w' => e = .returned (.agg #[.int .i64 2, .int .i64 a, .int .i64 ((numsOf p.toNat l).getD a.toNat 0)]) ∧ Below w.heap.size w w' := by
  obtain ⟨X, hX⟩ : ∃ X, ((w.alloc (Obj.cells #[.int .i64 2, .int .i64 a, .int .i64 b] 30)).alloc (Obj.cells #[.int .i64 p, .slice A l.length c] 34)).alloc (Obj.cells #[.int .i64 0, .int .i64 0, .int .i64 0] 30) = X := ⟨_, rfl⟩
  have kX : Below w.heap.size w X := by rw [← hX]; go_grown
  have sX : X.heap.size = w.heap.size + 1 + 1 + 1 := by rw [← hX]; simp
  have N0 : X.heap[w.heap.size]? = some (Obj.cells #[.int .i64 2, .int .i64 a, .int .i64 b] 30) := by
    rw [← hX]
    exact (Below.heap_alloc _ _ _ (by simp; omega)).trans ((Below.heap_alloc _ _ _ (by simp)).trans (heap_alloc_new w _))
  have N1 : X.heap[w.heap.size + 1]? = some (Obj.cells #[.int .i64 p, .slice A l.length c] 34) := by
    rw [← hX]
    have h := heap_alloc_new (w.alloc (Obj.cells #[.int .i64 2, .int .i64 a, .int .i64 b] 30)) (Obj.cells #[.int .i64 p, .slice A l.length c] 34)
    rw [World.size_alloc] at h
    exact (Below.heap_alloc _ _ _ (by simp)).trans h
  have N2 : X.heap[w.heap.size + 1 + 1]? = some (Obj.cells #[.int .i64 0, .int .i64 0, .int .i64 0] 30) := by
    rw [← hX]
    have h := heap_alloc_new ((w.alloc (Obj.cells #[.int .i64 2, .int .i64 a, .int .i64 b] 30)).alloc (Obj.cells #[.int .i64 p, .slice A l.length c] 34)) (Obj.cells #[.int .i64 0, .int .i64 0, .int .i64 0] 30)
    rw [World.size_alloc, World.size_alloc] at h
    exact h
  have p0 : X.cell? ⟨w.heap.size + 1, 0, none⟩ = some (.int .i64 p) := by rw [cell_of_row _ _ _ _ _ _ N1]; rfl
  have p1 : X.cell? ⟨w.heap.size + 1, 1, none⟩ = some (.slice A l.length c) := by rw [cell_of_row _ _ _ _ _ _ N1]; rfl
  have y0 : X.cell? ⟨w.heap.size, 0, none⟩ = some (.int .i64 2) := by rw [cell_of_row _ _ _ _ _ _ N0]; rfl
  have y1 : X.cell? ⟨w.heap.size, 1, none⟩ = some (.int .i64 a) := by rw [cell_of_row _ _ _ _ _ _ N0]; rfl
  have y2 : X.cell? ⟨w.heap.size, 2, none⟩ = some (.int .i64 b) := by rw [cell_of_row _ _ _ _ _ _ N0]; rfl
  have rX : CRead X X.heap.size A (pcells l) := (hA.below kX (Nat.le_refl _)).more kX.size
  have HX := Lib.hid hX
  have M0 := Lib.hid N0
  have M2 := Lib.hid N2
  clear hX N0 N1 N2
  have hn := isP_range hp
  obtain ⟨n, rfl⟩ : ∃ n : Nat, p = n := ⟨p.toNat, by omega⟩
  obtain ⟨i, rfl⟩ : ∃ i : Nat, a = i := ⟨a.toNat, by omega⟩
  obtain ⟨v, hv⟩ := getSome (numsOf n l) i (by rw [numsOf_length]; omega)
  have hvd : (numsOf (n : Int).toNat l).getD ((i : Int).toNat) 0 = v := by
    rw [Int.toNat_natCast, Int.toNat_natCast, List.getD_eq_getElem?_getD, hv]; rfl
  rw [hvd]
  have Hv := Lib.hid hv
  have Hp := Lib.hid hp
  have Hres : Lib_hid_res n l := ⟨by unfold resNumbersOfFriends; rw [hp, Int.toNat_natCast]; rfl⟩
  clear hv hvd hp
  go_enter Tryd.func112, Tryd.ntmps112
  go_wp2_with fail
  rw [HX.out]
  refine (implNumbersOfFriends_any _ l A c _ hl rX).mono ?_
  rw [Hres.out]
  rintro e w2 ⟨A2, c2, rfl, own2, hb2⟩
  have hnl := numsOf_length n l
  obtain ⟨g, rfl⟩ := own_form own2 (by simp only [hnl]; omega)
  have d0 := own_intAt own2 Hv.out
  simp only [hnl] at own2 d0 ⊢
  have hge : X.heap.size ≤ g := (own_lt own2).1
  have ni : (i : Int) < (n : Int) := by omega
  clear y0 y1 y2 p0 p1 own2 hnl
  · skip
    have B0 : w2.heap[w.heap.size]? = some (Obj.cells #[.int .i64 2, .int .i64 i, .int .i64 b] 30) := (hb2.block _ (by omega)).trans M0.out
    have B2 : w2.heap[w.heap.size + 1 + 1]? = some (Obj.cells #[.int .i64 0, .int .i64 0, .int .i64 0] 30) := (hb2.block _ (by omega)).trans M2.out
    have x0 : w2.cell? ⟨w.heap.size, 0, none⟩ = some (.int .i64 2) := by rw [cell_of_row _ _ _ _ _ _ B0]; rfl
    have e0 := frozen_of_row _ _ 0 _ _ B0
    have r0 : w2.cell? ⟨w.heap.size + 1 + 1, 0, none⟩ = some (.int .i64 0) := by rw [cell_of_row _ _ _ _ _ _ B2]; rfl
    have f0 := frozen_of_row _ _ 0 _ _ B2
    have x1 : w2.cell? ⟨w.heap.size, 1, none⟩ = some (.int .i64 i) := by rw [cell_of_row _ _ _ _ _ _ B0]; rfl
    have e1 := frozen_of_row _ _ 1 _ _ B0
    have r1 : w2.cell? ⟨w.heap.size + 1 + 1, 1, none⟩ = some (.int .i64 0) := by rw [cell_of_row _ _ _ _ _ _ B2]; rfl
    have f1 := frozen_of_row _ _ 1 _ _ B2
    have x2 : w2.cell? ⟨w.heap.size, 2, none⟩ = some (.int .i64 b) := by rw [cell_of_row _ _ _ _ _ _ B0]; rfl
    have e2 := frozen_of_row _ _ 2 _ _ B0
    have r2 : w2.cell? ⟨w.heap.size + 1 + 1, 2, none⟩ = some (.int .i64 0) := by rw [cell_of_row _ _ _ _ _ _ B2]; rfl
    have f2 := frozen_of_row _ _ 2 _ _ B2
    have k3 := kX.trans (hb2.mono kX.size)
    clear B0 B2
    go_wp2
    refine bodyPost_ret (v := .agg #[.int .i64 2, .int .i64 i, .int .i64 v]) (by simp [results, Tryd.results112, go_sem, r0, r1, r2]) rfl ?_
    exact ⟨rfl, ((((k3.setCell (p := ⟨w.heap.size, 2, none⟩) (by simp; try omega) _).setCell (p := ⟨w.heap.size + 1 + 1, 0, none⟩) (by simp; try omega) _).setCell (p := ⟨w.heap.size + 1 + 1, 1, none⟩) (by simp; try omega) _).setCell (p := ⟨w.heap.size + 1 + 1, 2, none⟩) (by simp; try omega) _)⟩

set_option maxHeartbeats 4000000 in
set_option maxRecDepth 100000 in
theorem fitting_4 (p a b : Int) (l : PL) (A : Option Addr) (c : Nat) (w : World) (_hl : l.length ≤ 1048576) (hA : CRead w w.heap.size A (pcells l)) (hp : isP p l = true) (htab : TabW w) :
    Calls Tryd.prog 112 #[.agg #[.int .i64 4, .int .i64 a, .int .i64 b], .agg #[.int .i64 p, .slice A l.length c]] w fun e w' => e = .returned (.agg #[.int .i64 4, .int .i64 (threesN p l : Int), .int .i64 b]) ∧ Below w.heap.size w w' := by
  obtain ⟨X, hX⟩ : ∃ X, ((w.alloc (Obj.cells #[.int .i64 4, .int .i64 a, .int .i64 b] 30)).alloc (Obj.cells #[.int .i64 p, .slice A l.length c] 34)).alloc (Obj.cells #[.int .i64 0, .int .i64 0, .int .i64 0] 30) = X := ⟨_, rfl⟩
  have kX : Below w.heap.size w X := by rw [← hX]; go_grown
  have sX : X.heap.size = w.heap.size + 1 + 1 + 1 := by rw [← hX]; simp
  have N0 : X.heap[w.heap.size]? = some (Obj.cells #[.int .i64 4, .int .i64 a, .int .i64 b] 30) := by
    rw [← hX]
    exact (Below.heap_alloc _ _ _ (by simp; omega)).trans ((Below.heap_alloc _ _ _ (by simp)).trans (heap_alloc_new w _))
  have N1 : X.heap[w.heap.size + 1]? = some (Obj.cells #[.int .i64 p, .slice A l.length c] 34) := by
    rw [← hX]
    have h := heap_alloc_new (w.alloc (Obj.cells #[.int .i64 4, .int .i64 a, .int .i64 b] 30)) (Obj.cells #[.int .i64 p, .slice A l.length c] 34)
    rw [World.size_alloc] at h
    exact (Below.heap_alloc _ _ _ (by simp)).trans h
  have N2 : X.heap[w.heap.size + 1 + 1]? = some (Obj.cells #[.int .i64 0, .int .i64 0, .int .i64 0] 30) := by
    rw [← hX]
    have h := heap_alloc_new ((w.alloc (Obj.cells #[.int .i64 4, .int .i64 a, .int .i64 b] 30)).alloc (Obj.cells #[.int .i64 p, .slice A l.length c] 34)) (Obj.cells #[.int .i64 0, .int .i64 0, .int .i64 0] 30)
    rw [World.size_alloc, World.size_alloc] at h
    exact h
  have p0 : X.cell? ⟨w.heap.size + 1, 0, none⟩ = some (.int .i64 p) := by rw [cell_of_row _ _ _ _ _ _ N1]; rfl
  have p1 : X.cell? ⟨w.heap.size + 1, 1, none⟩ = some (.slice A l.length c) := by rw [cell_of_row _ _ _ _ _ _ N1]; rfl
  have y0 : X.cell? ⟨w.heap.size, 0, none⟩ = some (.int .i64 4) := by rw [cell_of_row _ _ _ _ _ _ N0]; rfl
  have y1 : X.cell? ⟨w.heap.size, 1, none⟩ = some (.int .i64 a) := by rw [cell_of_row _ _ _ _ _ _ N0]; rfl
  have y2 : X.cell? ⟨w.heap.size, 2, none⟩ = some (.int .i64 b) := by rw [cell_of_row _ _ _ _ _ _ N0]; rfl
  have rX : CRead X X.heap.size A (pcells l) := (hA.below kX (Nat.le_refl _)).more kX.size
  have HX := Lib.hid hX
  have M0 := Lib.hid N0
  have M2 := Lib.hid N2
  clear hX N0 N1 N2
  have hn := isP_range hp
  obtain ⟨n, rfl⟩ : ∃ n : Nat, p = n := ⟨p.toNat, by omega⟩
  have hT := Lib.hid (friendsT_of hp)
  have hset := Lib.hid (IsSet.people (n := n) (by omega))
  have Hcs := Lib.hid (show ∀ b ∈ List.range n, b < 12 from fun b hb => by have := List.mem_range.1 hb; omega)
  have Hp := Lib.hid hp
  have hthr : threesN n l = (listsC (adj l) (3 : Int).toNat [] (List.range n)).length := by unfold threesN groupsL; rw [Int.toNat_natCast]; rfl
  have Hthr := Lib.hid hthr
  have HTab := Lib.hid (htab.below kX htab.pos)
  have hposX := HTab.out.pos
  rw [hthr]
  clear hp htab hthr
  go_enter Tryd.func112, Tryd.ntmps112
  go_wp2_with fail
  rw [HX.out]
  have rXd : CRead X.drew X.drew.heap.size A (pcells l) := rX
  have kXd : Below X.heap.size X X.drew := (Below.refl _ _).drew
  have sXd : X.drew.heap.size = X.heap.size := rfl
  clear y0 y1 y2
  go_region_held3 (fun w' => w'.cell? ⟨w.heap.size + 1, 0, none⟩ = some (.int .i64 n) ∧ w'.cell? ⟨w.heap.size + 1, 1, none⟩ = some (.slice A l.length c)) (first | exact ⟨p0, p1⟩ | exact ⟨v0, v1⟩ | exact ⟨u0, u1⟩ | exact ⟨(World.cell?_of_block (Below.heap_setCell _ _ _ _ (by simp))).trans u0, (World.cell?_of_block (Below.heap_setCell _ _ _ _ (by simp))).trans u1⟩) ((first
    | (go_at_call 147; refine (friendsIn_any _ l A c _ Hp.out rXd).mono ?_; rintro e w3 ⟨rfl, _, hb3⟩; have k3 : Below X.heap.size X w3 := kXd.trans hb3; have v0 := carry k3 p0 (by omega); have v1 := carry k3 p1 (by omega))
    | (go_at_call 148; refine (everybody_any n (by omega) _).mono ?_; rintro e w4 ⟨rfl, rfl⟩)
    | (go_at_call 146; refine (countTied_any hT.out hset.out Hcs.out (size := (3 : Int)) (by omega) _ (HTab.out.below k3 hposX)).mono ?_; rintro e w5 ⟨rfl, hb5⟩; have k5 : Below X.heap.size X w5 := k3.trans (hb5.mono k3.size); have u0 := carry k5 p0 (by omega); have u1 := carry k5 p1 (by omega); obtain ⟨x0, x1, x2, e1, r0, r1, r2, f0, f1, f2⟩ := fit_facts M0.out M2.out k5 sX)))
  all_goals
    have k6 := kX.trans (k5.mono kX.size)
    go_wp2

    refine bodyPost_ret (v := .agg #[.int .i64 4, .int .i64 ((listsC (adj l) (3 : Int).toNat [] (List.range n)).length : Int), .int .i64 b]) (by simp [results, Tryd.results112, go_sem, r0, r1, r2]) rfl ?_
    exact ⟨rfl, ((((k6.setCell (p := ⟨w.heap.size, 1, none⟩) (by simp) _).setCell (p := ⟨w.heap.size + 1 + 1, 0, none⟩) (by simp; omega) _).setCell (p := ⟨w.heap.size + 1 + 1, 1, none⟩) (by simp; omega) _).setCell (p := ⟨w.heap.size + 1 + 1, 2, none⟩) (by simp; omega) _)⟩

set_option maxHeartbeats 4000000 in
set_option maxRecDepth 100000 in
theorem fitting_5 (p a b : Int) (l : PL) (A : Option Addr) (c : Nat) (w : World) (hl : l.length ≤ 1048576) (hA : CRead w w.heap.size A (pcells l)) (hp : isP p l = true) :
    Calls Tryd.prog 112 #[.agg #[.int .i64 5, .int .i64 a, .int .i64 b], .agg #[.int .i64 p, .slice A l.length c]] w fun e w' => e = .returned (.agg #[.int .i64 5, .int .i64 (partsN p l : Int), .int .i64 b]) ∧ Below w.heap.size w w' := by
  obtain ⟨X, hX⟩ : ∃ X, ((w.alloc (Obj.cells #[.int .i64 5, .int .i64 a, .int .i64 b] 30)).alloc (Obj.cells #[.int .i64 p, .slice A l.length c] 34)).alloc (Obj.cells #[.int .i64 0, .int .i64 0, .int .i64 0] 30) = X := ⟨_, rfl⟩
  have kX : Below w.heap.size w X := by rw [← hX]; go_grown
  have sX : X.heap.size = w.heap.size + 1 + 1 + 1 := by rw [← hX]; simp
  have N0 : X.heap[w.heap.size]? = some (Obj.cells #[.int .i64 5, .int .i64 a, .int .i64 b] 30) := by
    rw [← hX]
    exact (Below.heap_alloc _ _ _ (by simp; omega)).trans ((Below.heap_alloc _ _ _ (by simp)).trans (heap_alloc_new w _))
  have N1 : X.heap[w.heap.size + 1]? = some (Obj.cells #[.int .i64 p, .slice A l.length c] 34) := by
    rw [← hX]
    have h := heap_alloc_new (w.alloc (Obj.cells #[.int .i64 5, .int .i64 a, .int .i64 b] 30)) (Obj.cells #[.int .i64 p, .slice A l.length c] 34)
    rw [World.size_alloc] at h
    exact (Below.heap_alloc _ _ _ (by simp)).trans h
  have N2 : X.heap[w.heap.size + 1 + 1]? = some (Obj.cells #[.int .i64 0, .int .i64 0, .int .i64 0] 30) := by
    rw [← hX]
    have h := heap_alloc_new ((w.alloc (Obj.cells #[.int .i64 5, .int .i64 a, .int .i64 b] 30)).alloc (Obj.cells #[.int .i64 p, .slice A l.length c] 34)) (Obj.cells #[.int .i64 0, .int .i64 0, .int .i64 0] 30)
    rw [World.size_alloc, World.size_alloc] at h
    exact h
  have p0 : X.cell? ⟨w.heap.size + 1, 0, none⟩ = some (.int .i64 p) := by rw [cell_of_row _ _ _ _ _ _ N1]; rfl
  have p1 : X.cell? ⟨w.heap.size + 1, 1, none⟩ = some (.slice A l.length c) := by rw [cell_of_row _ _ _ _ _ _ N1]; rfl
  have y0 : X.cell? ⟨w.heap.size, 0, none⟩ = some (.int .i64 5) := by rw [cell_of_row _ _ _ _ _ _ N0]; rfl
  have y1 : X.cell? ⟨w.heap.size, 1, none⟩ = some (.int .i64 a) := by rw [cell_of_row _ _ _ _ _ _ N0]; rfl
  have y2 : X.cell? ⟨w.heap.size, 2, none⟩ = some (.int .i64 b) := by rw [cell_of_row _ _ _ _ _ _ N0]; rfl
  have rX : CRead X X.heap.size A (pcells l) := (hA.below kX (Nat.le_refl _)).more kX.size
  have HX := Lib.hid hX
  have M0 := Lib.hid N0
  have M2 := Lib.hid N2
  clear hX N0 N1 N2
  have hres : resPartsOfParty p l = (partsI (lab p.toNat l) p.toNat, true) := by unfold resPartsOfParty; rw [hp]; rfl
  unfold partsN
  obtain ⟨Q, hQ⟩ : ∃ Q, partsI (lab p.toNat l) p.toNat = Q := ⟨_, rfl⟩
  rw [hQ] at hres ⊢
  have Hres := Lib.hid hres
  clear hres hQ hp
  go_enter Tryd.func112, Tryd.ntmps112
  go_wp2_with fail
  rw [HX.out]
  refine (implPartsOfParty_any _ l A c _ hl rX).mono ?_
  rw [Hres.out]
  rintro e w2 ⟨A2, c2, R2, C2, rfl, rows2, hb2⟩
  clear y0 y1 y2 p0 p1 rows2
  · skip
    have B0 : w2.heap[w.heap.size]? = some (Obj.cells #[.int .i64 5, .int .i64 a, .int .i64 b] 30) := (hb2.block _ (by omega)).trans M0.out
    have B2 : w2.heap[w.heap.size + 1 + 1]? = some (Obj.cells #[.int .i64 0, .int .i64 0, .int .i64 0] 30) := (hb2.block _ (by omega)).trans M2.out
    have x0 : w2.cell? ⟨w.heap.size, 0, none⟩ = some (.int .i64 5) := by rw [cell_of_row _ _ _ _ _ _ B0]; rfl
    have e0 := frozen_of_row _ _ 0 _ _ B0
    have r0 : w2.cell? ⟨w.heap.size + 1 + 1, 0, none⟩ = some (.int .i64 0) := by rw [cell_of_row _ _ _ _ _ _ B2]; rfl
    have f0 := frozen_of_row _ _ 0 _ _ B2
    have x1 : w2.cell? ⟨w.heap.size, 1, none⟩ = some (.int .i64 a) := by rw [cell_of_row _ _ _ _ _ _ B0]; rfl
    have e1 := frozen_of_row _ _ 1 _ _ B0
    have r1 : w2.cell? ⟨w.heap.size + 1 + 1, 1, none⟩ = some (.int .i64 0) := by rw [cell_of_row _ _ _ _ _ _ B2]; rfl
    have f1 := frozen_of_row _ _ 1 _ _ B2
    have x2 : w2.cell? ⟨w.heap.size, 2, none⟩ = some (.int .i64 b) := by rw [cell_of_row _ _ _ _ _ _ B0]; rfl
    have e2 := frozen_of_row _ _ 2 _ _ B0
    have r2 : w2.cell? ⟨w.heap.size + 1 + 1, 2, none⟩ = some (.int .i64 0) := by rw [cell_of_row _ _ _ _ _ _ B2]; rfl
    have f2 := frozen_of_row _ _ 2 _ _ B2
    have k3 := kX.trans (hb2.mono kX.size)
    clear B0 B2
    go_wp2
    refine bodyPost_ret (v := .agg #[.int .i64 5, .int .i64 (Q.length : Int), .int .i64 b]) (by simp [results, Tryd.results112, go_sem, r0, r1, r2]) rfl ?_
    exact ⟨rfl, ((((k3.setCell (p := ⟨w.heap.size, 1, none⟩) (by simp; try omega) _).setCell (p := ⟨w.heap.size + 1 + 1, 0, none⟩) (by simp; try omega) _).setCell (p := ⟨w.heap.size + 1 + 1, 1, none⟩) (by simp; try omega) _).setCell (p := ⟨w.heap.size + 1 + 1, 2, none⟩) (by simp; try omega) _)⟩
end Go.Proofs.YtefkcfkicmfhlaaDoor
/-
  WHAT A CLUE, A PUZZLE IS: the program's functions, by their contracts: 'requireClue' panics with a clue that is none; 'areClues' recovers.
-/
namespace Go.Proofs.YtefkcfkicmfhlaaDoor
open Go.RowKit

set_option maxHeartbeats 400000 in
theorem areGuests_any (n : Int) (w : World) : Calls Tryd.prog 99 #[.int .i64 n] w fun e w' => e = .returned (.bool (isGuests n)) ∧ w = w' := by
  by_cases h1 : 1 ≤ n
  · by_cases h5 : n ≤ 5
    · rw [show isGuests n = true from by simp [isGuests, l1InB, h1, h5]]
      go_enter Tryd.func99, Tryd.ntmps99
      go_wp2
      go_ret
      exact ⟨rfl, rfl⟩
    · rw [show isGuests n = false from by simp [isGuests, l1InB, h5]]
      go_enter Tryd.func99, Tryd.ntmps99
      go_wp2
      go_ret
      exact ⟨rfl, rfl⟩
  · rw [show isGuests n = false from by simp [isGuests, l1InB, h1]]
    go_enter Tryd.func99, Tryd.ntmps99
    go_wp2
    go_ret
    exact ⟨rfl, rfl⟩

/-- how 'requireClue' ends -/
def ReqPost (n k a b : Int) (w : World) (e : Ending) (w' : World) : Prop :=
  (if isCB n (k, a, b) = true then e = .returned (.tuple #[]) else e = .panicked [{ v := .iface 30 (.agg #[.int .i64 k, .int .i64 a, .int .i64 b]), recovered := false }]) ∧ Below w.heap.size w w'
theorem ReqPost.yes {n k a b : Int} {w w' : World} (h : isCB n (k, a, b) = true) (hb : Below w.heap.size w w') : ReqPost n k a b w (.returned (.tuple #[])) w' := ⟨by rw [if_pos h], hb⟩
theorem ReqPost.no {n k a b : Int} {w w' : World} (h : isCB n (k, a, b) = false) (hb : Below w.heap.size w w') : ReqPost n k a b w (.panicked [{ v := .iface 30 (.agg #[.int .i64 k, .int .i64 a, .int .i64 b]), recovered := false }]) w' := ⟨by rw [h]; rfl, hb⟩
set_option maxHeartbeats 8000000 in
set_option maxRecDepth 100000 in
theorem requireClue_any (n k a b : Int) (h1 : 1 ≤ n) (h5 : n ≤ 5) (w : World) :
    Calls Tryd.prog 144 #[.int .i64 n, .agg #[.int .i64 k, .int .i64 a, .int .i64 b]] w (ReqPost n k a b w) := by
  by_cases hk0 : k = 0
  · subst hk0
    by_cases g0 : 0 ≤ a
    rotate_left
    · have e : isCB n (0, a, b) = false := by unfold isCB l1InB; simp; omega
      go_enter Tryd.func144, Tryd.ntmps144
      go_wp2
      exact ⟨rfl, .no e (by go_grown)⟩
    · skip
      by_cases g1 : a < b
      rotate_left
      · have e : isCB n (0, a, b) = false := by unfold isCB l1InB; simp; omega
        go_enter Tryd.func144, Tryd.ntmps144
        go_wp2
        exact ⟨rfl, .no e (by go_grown)⟩
      · skip
        by_cases g2 : b < n
        rotate_left
        · have e : isCB n (0, a, b) = false := by unfold isCB l1InB; simp; omega
          go_enter Tryd.func144, Tryd.ntmps144
          go_wp2
          exact ⟨rfl, .no e (by go_grown)⟩
        · skip
          have e : isCB n (0, a, b) = true := by unfold isCB l1InB; simp; omega
          go_enter Tryd.func144, Tryd.ntmps144
          go_wp2
          go_end0
          exact .yes e (by go_grown)
  by_cases hk1 : k = 1
  · subst hk1
    by_cases g0 : 0 ≤ a
    rotate_left
    · have e : isCB n (1, a, b) = false := by unfold isCB l1InB; simp; omega
      go_enter Tryd.func144, Tryd.ntmps144
      go_wp2
      exact ⟨rfl, .no e (by go_grown)⟩
    · skip
      by_cases g1 : a < b
      rotate_left
      · have e : isCB n (1, a, b) = false := by unfold isCB l1InB; simp; omega
        go_enter Tryd.func144, Tryd.ntmps144
        go_wp2
        exact ⟨rfl, .no e (by go_grown)⟩
      · skip
        by_cases g2 : b < n
        rotate_left
        · have e : isCB n (1, a, b) = false := by unfold isCB l1InB; simp; omega
          go_enter Tryd.func144, Tryd.ntmps144
          go_wp2
          exact ⟨rfl, .no e (by go_grown)⟩
        · skip
          have e : isCB n (1, a, b) = true := by unfold isCB l1InB; simp; omega
          go_enter Tryd.func144, Tryd.ntmps144
          go_wp2
          go_end0
          exact .yes e (by go_grown)
  by_cases hk2 : k = 2
  · subst hk2
    by_cases g0 : 0 ≤ a
    rotate_left
    · have e : isCB n (2, a, b) = false := by unfold isCB l1InB; simp; omega
      go_enter Tryd.func144, Tryd.ntmps144
      go_wp2
      exact ⟨rfl, .no e (by go_grown)⟩
    · skip
      by_cases g1 : a < n
      rotate_left
      · have e : isCB n (2, a, b) = false := by unfold isCB l1InB; simp; omega
        go_enter Tryd.func144, Tryd.ntmps144
        go_wp2
        exact ⟨rfl, .no e (by go_grown)⟩
      · skip
        by_cases g2 : 0 ≤ b
        rotate_left
        · have e : isCB n (2, a, b) = false := by unfold isCB l1InB; simp; omega
          go_enter Tryd.func144, Tryd.ntmps144
          go_wp2
          exact ⟨rfl, .no e (by go_grown)⟩
        · skip
          by_cases g3 : b < n
          rotate_left
          · have e : isCB n (2, a, b) = false := by unfold isCB l1InB; simp; omega
            go_enter Tryd.func144, Tryd.ntmps144
            go_wp2
            exact ⟨rfl, .no e (by go_grown)⟩
          · skip
            have e : isCB n (2, a, b) = true := by unfold isCB l1InB; simp; omega
            go_enter Tryd.func144, Tryd.ntmps144
            go_wp2
            go_end0
            exact .yes e (by go_grown)
  by_cases hk3 : k = 3
  · subst hk3
    have W1 : Hid (∀ X : World, Calls Tryd.prog 168 #[.int .i64 1, .int .i64 2] X fun e w' => e = .returned (.int .i64 0) ∧ X = w') := Lib.hid fun X => by
      have h := waysToChoose_any 1 2 X (by unfold InWays; omega)
      rwa [show waysI 1 2 = 0 from by decide +kernel] at h
    have W2 : Hid (∀ X : World, Calls Tryd.prog 168 #[.int .i64 2, .int .i64 2] X fun e w' => e = .returned (.int .i64 1) ∧ X = w') := Lib.hid fun X => by
      have h := waysToChoose_any 2 2 X (by unfold InWays; omega)
      rwa [show waysI 2 2 = 1 from by decide +kernel] at h
    have W3 : Hid (∀ X : World, Calls Tryd.prog 168 #[.int .i64 3, .int .i64 2] X fun e w' => e = .returned (.int .i64 3) ∧ X = w') := Lib.hid fun X => by
      have h := waysToChoose_any 3 2 X (by unfold InWays; omega)
      rwa [show waysI 3 2 = 3 from by decide +kernel] at h
    have W4 : Hid (∀ X : World, Calls Tryd.prog 168 #[.int .i64 4, .int .i64 2] X fun e w' => e = .returned (.int .i64 6) ∧ X = w') := Lib.hid fun X => by
      have h := waysToChoose_any 4 2 X (by unfold InWays; omega)
      rwa [show waysI 4 2 = 6 from by decide +kernel] at h
    have W5 : Hid (∀ X : World, Calls Tryd.prog 168 #[.int .i64 5, .int .i64 2] X fun e w' => e = .returned (.int .i64 10) ∧ X = w') := Lib.hid fun X => by
      have h := waysToChoose_any 5 2 X (by unfold InWays; omega)
      rwa [show waysI 5 2 = 10 from by decide +kernel] at h
    obtain rfl | rfl | rfl | rfl | rfl : n = 1 ∨ n = 2 ∨ n = 3 ∨ n = 4 ∨ n = 5 := by omega
    · by_cases g0 : 0 ≤ a
      rotate_left
      · have e : isCB 1 (3, a, b) = false := by unfold isCB l1InB prsI; simp; omega
        have g' : decide (0 ≤ a) = false := decide_eq_false g0
        go_enter Tryd.func144, Tryd.ntmps144
        go_wp2
        go_quiet (fail)
        go_wp2
        exact ⟨rfl, .no e (Below.trans (b := w.alloc _) (by go_grown) ⟨rfl, rfl, rfl, Nat.le_refl _, fun _ _ => rfl⟩)⟩
      · skip
        by_cases g1 : a ≤ 0
        rotate_left
        · have e : isCB 1 (3, a, b) = false := by unfold isCB l1InB prsI; simp; omega
          have gz : decide (0 ≤ a) = true := decide_eq_true g0
          have gy : decide (a ≤ 0) = false := decide_eq_false g1
          go_enter Tryd.func144, Tryd.ntmps144
          go_wp2
          go_quiet (first | (go_at_call 168; refine Calls.quiet_of_same (((W1.out) _).mono fun _ _ ⟨he, hw⟩ => ⟨he, hw.symm⟩)))
          go_wp2
          exact ⟨rfl, .no e (Below.trans (b := w.alloc _) (by go_grown) ⟨rfl, rfl, rfl, Nat.le_refl _, fun _ _ => rfl⟩)⟩
        · skip
          by_cases g2 : b = 0
          rotate_left
          · have e : isCB 1 (3, a, b) = false := by unfold isCB l1InB prsI; simp; omega
            have g' : (b == 0) = false := by simp [g2]
            have gz : decide (0 ≤ a) = true := decide_eq_true g0
            have gy : decide (a ≤ 0) = true := decide_eq_true g1
            go_enter Tryd.func144, Tryd.ntmps144
            go_wp2
            go_quiet (first | (go_at_call 168; refine Calls.quiet_of_same (((W1.out) _).mono fun _ _ ⟨he, hw⟩ => ⟨he, hw.symm⟩)))
            go_wp2
            exact ⟨rfl, .no e (Below.trans (b := w.alloc _) (by go_grown) ⟨rfl, rfl, rfl, Nat.le_refl _, fun _ _ => rfl⟩)⟩
          · skip
            have e : isCB 1 (3, a, b) = true := by unfold isCB l1InB prsI; simp; omega
            have g' : (b == 0) = true := by simp; omega
            have gz : decide (0 ≤ a) = true := decide_eq_true g0
            have gy : decide (a ≤ 0) = true := decide_eq_true g1
            go_enter Tryd.func144, Tryd.ntmps144
            go_wp2
            go_quiet (first | (go_at_call 168; refine Calls.quiet_of_same (((W1.out) _).mono fun _ _ ⟨he, hw⟩ => ⟨he, hw.symm⟩)))
            go_wp2
            go_end0
            exact .yes e (Below.trans (b := w.alloc _) (by go_grown) ⟨rfl, rfl, rfl, Nat.le_refl _, fun _ _ => rfl⟩)
    · by_cases g0 : 0 ≤ a
      rotate_left
      · have e : isCB 2 (3, a, b) = false := by unfold isCB l1InB prsI; simp; omega
        have g' : decide (0 ≤ a) = false := decide_eq_false g0
        go_enter Tryd.func144, Tryd.ntmps144
        go_wp2
        go_quiet (fail)
        go_wp2
        exact ⟨rfl, .no e (Below.trans (b := w.alloc _) (by go_grown) ⟨rfl, rfl, rfl, Nat.le_refl _, fun _ _ => rfl⟩)⟩
      · skip
        by_cases g1 : a ≤ 1
        rotate_left
        · have e : isCB 2 (3, a, b) = false := by unfold isCB l1InB prsI; simp; omega
          have gz : decide (0 ≤ a) = true := decide_eq_true g0
          have gy : decide (a ≤ 1) = false := decide_eq_false g1
          go_enter Tryd.func144, Tryd.ntmps144
          go_wp2
          go_quiet (first | (go_at_call 168; refine Calls.quiet_of_same (((W2.out) _).mono fun _ _ ⟨he, hw⟩ => ⟨he, hw.symm⟩)))
          go_wp2
          exact ⟨rfl, .no e (Below.trans (b := w.alloc _) (by go_grown) ⟨rfl, rfl, rfl, Nat.le_refl _, fun _ _ => rfl⟩)⟩
        · skip
          by_cases g2 : b = 0
          rotate_left
          · have e : isCB 2 (3, a, b) = false := by unfold isCB l1InB prsI; simp; omega
            have g' : (b == 0) = false := by simp [g2]
            have gz : decide (0 ≤ a) = true := decide_eq_true g0
            have gy : decide (a ≤ 1) = true := decide_eq_true g1
            go_enter Tryd.func144, Tryd.ntmps144
            go_wp2
            go_quiet (first | (go_at_call 168; refine Calls.quiet_of_same (((W2.out) _).mono fun _ _ ⟨he, hw⟩ => ⟨he, hw.symm⟩)))
            go_wp2
            exact ⟨rfl, .no e (Below.trans (b := w.alloc _) (by go_grown) ⟨rfl, rfl, rfl, Nat.le_refl _, fun _ _ => rfl⟩)⟩
          · skip
            have e : isCB 2 (3, a, b) = true := by unfold isCB l1InB prsI; simp; omega
            have g' : (b == 0) = true := by simp; omega
            have gz : decide (0 ≤ a) = true := decide_eq_true g0
            have gy : decide (a ≤ 1) = true := decide_eq_true g1
            go_enter Tryd.func144, Tryd.ntmps144
            go_wp2
            go_quiet (first | (go_at_call 168; refine Calls.quiet_of_same (((W2.out) _).mono fun _ _ ⟨he, hw⟩ => ⟨he, hw.symm⟩)))
            go_wp2
            go_end0
            exact .yes e (Below.trans (b := w.alloc _) (by go_grown) ⟨rfl, rfl, rfl, Nat.le_refl _, fun _ _ => rfl⟩)
    · by_cases g0 : 0 ≤ a
      rotate_left
      · have e : isCB 3 (3, a, b) = false := by unfold isCB l1InB prsI; simp; omega
        have g' : decide (0 ≤ a) = false := decide_eq_false g0
        go_enter Tryd.func144, Tryd.ntmps144
        go_wp2
        go_quiet (fail)
        go_wp2
        exact ⟨rfl, .no e (Below.trans (b := w.alloc _) (by go_grown) ⟨rfl, rfl, rfl, Nat.le_refl _, fun _ _ => rfl⟩)⟩
      · skip
        by_cases g1 : a ≤ 3
        rotate_left
        · have e : isCB 3 (3, a, b) = false := by unfold isCB l1InB prsI; simp; omega
          have gz : decide (0 ≤ a) = true := decide_eq_true g0
          have gy : decide (a ≤ 3) = false := decide_eq_false g1
          go_enter Tryd.func144, Tryd.ntmps144
          go_wp2
          go_quiet (first | (go_at_call 168; refine Calls.quiet_of_same (((W3.out) _).mono fun _ _ ⟨he, hw⟩ => ⟨he, hw.symm⟩)))
          go_wp2
          exact ⟨rfl, .no e (Below.trans (b := w.alloc _) (by go_grown) ⟨rfl, rfl, rfl, Nat.le_refl _, fun _ _ => rfl⟩)⟩
        · skip
          by_cases g2 : b = 0
          rotate_left
          · have e : isCB 3 (3, a, b) = false := by unfold isCB l1InB prsI; simp; omega
            have g' : (b == 0) = false := by simp [g2]
            have gz : decide (0 ≤ a) = true := decide_eq_true g0
            have gy : decide (a ≤ 3) = true := decide_eq_true g1
            go_enter Tryd.func144, Tryd.ntmps144
            go_wp2
            go_quiet (first | (go_at_call 168; refine Calls.quiet_of_same (((W3.out) _).mono fun _ _ ⟨he, hw⟩ => ⟨he, hw.symm⟩)))
            go_wp2
            exact ⟨rfl, .no e (Below.trans (b := w.alloc _) (by go_grown) ⟨rfl, rfl, rfl, Nat.le_refl _, fun _ _ => rfl⟩)⟩
          · skip
            have e : isCB 3 (3, a, b) = true := by unfold isCB l1InB prsI; simp; omega
            have g' : (b == 0) = true := by simp; omega
            have gz : decide (0 ≤ a) = true := decide_eq_true g0
            have gy : decide (a ≤ 3) = true := decide_eq_true g1
            go_enter Tryd.func144, Tryd.ntmps144
            go_wp2
            go_quiet (first | (go_at_call 168; refine Calls.quiet_of_same (((W3.out) _).mono fun _ _ ⟨he, hw⟩ => ⟨he, hw.symm⟩)))
            go_wp2
            go_end0
            exact .yes e (Below.trans (b := w.alloc _) (by go_grown) ⟨rfl, rfl, rfl, Nat.le_refl _, fun _ _ => rfl⟩)
    · by_cases g0 : 0 ≤ a
      rotate_left
      · have e : isCB 4 (3, a, b) = false := by unfold isCB l1InB prsI; simp; omega
        have g' : decide (0 ≤ a) = false := decide_eq_false g0
        go_enter Tryd.func144, Tryd.ntmps144
        go_wp2
        go_quiet (fail)
        go_wp2
        exact ⟨rfl, .no e (Below.trans (b := w.alloc _) (by go_grown) ⟨rfl, rfl, rfl, Nat.le_refl _, fun _ _ => rfl⟩)⟩
      · skip
        by_cases g1 : a ≤ 6
        rotate_left
        · have e : isCB 4 (3, a, b) = false := by unfold isCB l1InB prsI; simp; omega
          have gz : decide (0 ≤ a) = true := decide_eq_true g0
          have gy : decide (a ≤ 6) = false := decide_eq_false g1
          go_enter Tryd.func144, Tryd.ntmps144
          go_wp2
          go_quiet (first | (go_at_call 168; refine Calls.quiet_of_same (((W4.out) _).mono fun _ _ ⟨he, hw⟩ => ⟨he, hw.symm⟩)))
          go_wp2
          exact ⟨rfl, .no e (Below.trans (b := w.alloc _) (by go_grown) ⟨rfl, rfl, rfl, Nat.le_refl _, fun _ _ => rfl⟩)⟩
        · skip
          by_cases g2 : b = 0
          rotate_left
          · have e : isCB 4 (3, a, b) = false := by unfold isCB l1InB prsI; simp; omega
            have g' : (b == 0) = false := by simp [g2]
            have gz : decide (0 ≤ a) = true := decide_eq_true g0
            have gy : decide (a ≤ 6) = true := decide_eq_true g1
            go_enter Tryd.func144, Tryd.ntmps144
            go_wp2
            go_quiet (first | (go_at_call 168; refine Calls.quiet_of_same (((W4.out) _).mono fun _ _ ⟨he, hw⟩ => ⟨he, hw.symm⟩)))
            go_wp2
            exact ⟨rfl, .no e (Below.trans (b := w.alloc _) (by go_grown) ⟨rfl, rfl, rfl, Nat.le_refl _, fun _ _ => rfl⟩)⟩
          · skip
            have e : isCB 4 (3, a, b) = true := by unfold isCB l1InB prsI; simp; omega
            have g' : (b == 0) = true := by simp; omega
            have gz : decide (0 ≤ a) = true := decide_eq_true g0
            have gy : decide (a ≤ 6) = true := decide_eq_true g1
            go_enter Tryd.func144, Tryd.ntmps144
            go_wp2
            go_quiet (first | (go_at_call 168; refine Calls.quiet_of_same (((W4.out) _).mono fun _ _ ⟨he, hw⟩ => ⟨he, hw.symm⟩)))
            go_wp2
            go_end0
            exact .yes e (Below.trans (b := w.alloc _) (by go_grown) ⟨rfl, rfl, rfl, Nat.le_refl _, fun _ _ => rfl⟩)
    · by_cases g0 : 0 ≤ a
      rotate_left
      · have e : isCB 5 (3, a, b) = false := by unfold isCB l1InB prsI; simp; omega
        have g' : decide (0 ≤ a) = false := decide_eq_false g0
        go_enter Tryd.func144, Tryd.ntmps144
        go_wp2
        go_quiet (fail)
        go_wp2
        exact ⟨rfl, .no e (Below.trans (b := w.alloc _) (by go_grown) ⟨rfl, rfl, rfl, Nat.le_refl _, fun _ _ => rfl⟩)⟩
      · skip
        by_cases g1 : a ≤ 10
        rotate_left
        · have e : isCB 5 (3, a, b) = false := by unfold isCB l1InB prsI; simp; omega
          have gz : decide (0 ≤ a) = true := decide_eq_true g0
          have gy : decide (a ≤ 10) = false := decide_eq_false g1
          go_enter Tryd.func144, Tryd.ntmps144
          go_wp2
          go_quiet (first | (go_at_call 168; refine Calls.quiet_of_same (((W5.out) _).mono fun _ _ ⟨he, hw⟩ => ⟨he, hw.symm⟩)))
          go_wp2
          exact ⟨rfl, .no e (Below.trans (b := w.alloc _) (by go_grown) ⟨rfl, rfl, rfl, Nat.le_refl _, fun _ _ => rfl⟩)⟩
        · skip
          by_cases g2 : b = 0
          rotate_left
          · have e : isCB 5 (3, a, b) = false := by unfold isCB l1InB prsI; simp; omega
            have g' : (b == 0) = false := by simp [g2]
            have gz : decide (0 ≤ a) = true := decide_eq_true g0
            have gy : decide (a ≤ 10) = true := decide_eq_true g1
            go_enter Tryd.func144, Tryd.ntmps144
            go_wp2
            go_quiet (first | (go_at_call 168; refine Calls.quiet_of_same (((W5.out) _).mono fun _ _ ⟨he, hw⟩ => ⟨he, hw.symm⟩)))
            go_wp2
            exact ⟨rfl, .no e (Below.trans (b := w.alloc _) (by go_grown) ⟨rfl, rfl, rfl, Nat.le_refl _, fun _ _ => rfl⟩)⟩
          · skip
            have e : isCB 5 (3, a, b) = true := by unfold isCB l1InB prsI; simp; omega
            have g' : (b == 0) = true := by simp; omega
            have gz : decide (0 ≤ a) = true := decide_eq_true g0
            have gy : decide (a ≤ 10) = true := decide_eq_true g1
            go_enter Tryd.func144, Tryd.ntmps144
            go_wp2
            go_quiet (first | (go_at_call 168; refine Calls.quiet_of_same (((W5.out) _).mono fun _ _ ⟨he, hw⟩ => ⟨he, hw.symm⟩)))
            go_wp2
            go_end0
            exact .yes e (Below.trans (b := w.alloc _) (by go_grown) ⟨rfl, rfl, rfl, Nat.le_refl _, fun _ _ => rfl⟩)
  by_cases hk4 : k = 4
  · subst hk4
    by_cases g0 : 0 ≤ a
    rotate_left
    · have e : isCB n (4, a, b) = false := by unfold isCB l1InB; simp; omega
      go_enter Tryd.func144, Tryd.ntmps144
      go_wp2
      exact ⟨rfl, .no e (by go_grown)⟩
    · skip
      by_cases g1 : a ≤ 10
      rotate_left
      · have e : isCB n (4, a, b) = false := by unfold isCB l1InB; simp; omega
        go_enter Tryd.func144, Tryd.ntmps144
        go_wp2
        exact ⟨rfl, .no e (by go_grown)⟩
      · skip
        by_cases g2 : b = 0
        rotate_left
        · have e : isCB n (4, a, b) = false := by unfold isCB l1InB; simp; omega
          have g' : (b == 0) = false := by simp [g2]
          go_enter Tryd.func144, Tryd.ntmps144
          go_wp2
          exact ⟨rfl, .no e (by go_grown)⟩
        · skip
          have e : isCB n (4, a, b) = true := by unfold isCB l1InB; simp; omega
          have g' : (b == 0) = true := by simp; omega
          go_enter Tryd.func144, Tryd.ntmps144
          go_wp2
          go_end0
          exact .yes e (by go_grown)
  by_cases hk5 : k = 5
  · subst hk5
    by_cases g0 : 1 ≤ a
    rotate_left
    · have e : isCB n (5, a, b) = false := by unfold isCB l1InB; simp; omega
      go_enter Tryd.func144, Tryd.ntmps144
      go_wp2
      exact ⟨rfl, .no e (by go_grown)⟩
    · skip
      by_cases g1 : a ≤ n
      rotate_left
      · have e : isCB n (5, a, b) = false := by unfold isCB l1InB; simp; omega
        go_enter Tryd.func144, Tryd.ntmps144
        go_wp2
        exact ⟨rfl, .no e (by go_grown)⟩
      · skip
        by_cases g2 : b = 0
        rotate_left
        · have e : isCB n (5, a, b) = false := by unfold isCB l1InB; simp; omega
          have g' : (b == 0) = false := by simp [g2]
          go_enter Tryd.func144, Tryd.ntmps144
          go_wp2
          exact ⟨rfl, .no e (by go_grown)⟩
        · skip
          have e : isCB n (5, a, b) = true := by unfold isCB l1InB; simp; omega
          have g' : (b == 0) = true := by simp; omega
          go_enter Tryd.func144, Tryd.ntmps144
          go_wp2
          go_end0
          exact .yes e (by go_grown)
  have e : isCB n (k, a, b) = false := by unfold isCB; simp [hk0, hk1, hk2, hk3, hk4, hk5]
  go_enter Tryd.func144, Tryd.ntmps144
  go_wp2
  exact ⟨rfl, .no e (by go_grown)⟩
end Go.Proofs.YtefkcfkicmfhlaaDoor
/-
  WHAT A CLUE, A PUZZLE IS: the program's functions, by their contracts: 'areClues' recovers what 'requireClue' panics with.
-/
namespace Go.Proofs.YtefkcfkicmfhlaaDoor
open Go.RowKit



theorem assert_yes {P : Program} {w : World} {t xT : TypeId} {v : Value} {fs : Array Field} (hu : P.underlying t = some (.struct fs)) : (Instr.typeAssert (.iface t v) xT t true).run P w = .ok (.tuple #[v, .bool true]) w := by
  simp [Instr.typeAssert, run_underlying hu]
theorem assert_nil {P : Program} {w : World} {t xT : TypeId} {z : Value} {i : TypeInfo} {fs : Array Field} (hu : P.underlying t = some (.struct fs)) (hi : P.info? t = some i) (hz : i.zero = some z) : (Instr.typeAssert .nilIface xT t true).run P w = .ok (.tuple #[z, .bool false]) w := by
  simp [Instr.typeAssert, run_underlying hu, zeroValue, typeInfo, hi, hz]
section
variable {P : Program} {ops : Array Oper} {Q : Exit → Act → List Frame → World → Prop} {i : Nat} {rest : List Nat} {a : Act} {cs cs' : List Frame} {w w' : World} {o : Oper} {v : Value}
theorem opsS_recover (ho : ops[i]? = some o) (hw : Region.wanted o (yielded ops a.tmps) = true) (hr : (execOp a.eval o).run P w = .ok .recover w') (hc : recoverD cs = some (v, cs')) (h : wpOpsS P ops Q rest (a.put o.dst v) cs' w') : wpOpsS P ops Q (i :: rest) a cs w := by
  simp only [wpOpsS, ho, hw, if_true, hr, hc]
  exact h
theorem opsS_recover_none (ho : ops[i]? = some o) (hw : Region.wanted o (yielded ops a.tmps) = true) (hr : (execOp a.eval o).run P w = .ok .recover w') (hc : recoverD cs = none) (h : wpOpsS P ops Q rest (a.put o.dst .nilIface) cs w') : wpOpsS P ops Q (i :: rest) a cs w := by
  simp only [wpOpsS, ho, hw, if_true, hr, hc]
  exact h
/-- operations that do not recover are walked as everywhere -/
theorem opsS_of_list (hno : ¬ LetsOut (fun e a w => Q e a cs w)) (l : List Oper) : ∀ (k : Nat) (a : Act) (w : World), (∀ j, l[j]? = ops[k + j]?) → wpList P ops (fun e a w => Q e a cs w) l a w → wpOpsS P ops Q (List.range' k l.length) a cs w := by
  induction l with
  | nil => intro k a w _ h; exact h
  | cons o l ih =>
    intro k a w h hw
    have h0 : ops[k]? = some o := by simpa using (h 0).symm
    have ih' := ih (k + 1)
    have hj : ∀ j, l[j]? = ops[k + 1 + j]? := fun j => by have := h (j + 1); simpa [Nat.add_assoc, Nat.add_comm 1 j] using this
    simp only [List.length_cons, List.range'_succ, wpOpsS, h0]
    unfold wpList at hw
    by_cases hwn : Region.wanted o (yielded ops a.tmps) = true
    · simp only [hwn, if_true] at hw ⊢
      rcases hw with hw | ⟨_, hl⟩
      · have hw2 := Oper.wp_mono (fun a' w' hh => ih' a' w' hj hh) hw
        unfold Oper.wp at hw2
        split
        · rename_i w' hr
          rw [hr] at hw2
          exact hw2.elim
        · exact hw2
      · exact absurd hl hno
    · simp only [hwn, if_false, Bool.false_eq_true] at hw ⊢
      exact ih' _ _ hj hw
/-- a region whose first operation recovers -/
theorem regionS_recover {id : Nat} {l : List Oper} (hg : o.guard = none) (hr : (execOp a.eval o).run P w = .ok .recover w') (hc : recoverD cs = some (v, cs')) (hno : ¬ LetsOut (fun e a w => Q e a cs' w))
    (h : wpList P (o :: l).toArray (fun e a w => Q e a cs' w) l (a.put o.dst v) w') : (Code.region id (o :: l).toArray false).wpS P Q a cs w := by
  refine wpS_region ?_
  rw [List.size_toArray, List.length_cons, List.range_eq_range', List.range'_succ]
  refine opsS_recover (o := o) (by simp) (by simp only [Region.wanted, hg]) hr hc ?_
  exact opsS_of_list hno l (0 + 1) _ _ (fun j => by simp [Nat.add_comm]) h
theorem regionS_recover_none {id : Nat} {l : List Oper} (hg : o.guard = none) (hr : (execOp a.eval o).run P w = .ok .recover w') (hc : recoverD cs = none) (hno : ¬ LetsOut (fun e a w => Q e a cs w))
    (h : wpList P (o :: l).toArray (fun e a w => Q e a cs w) l (a.put o.dst .nilIface) w') : (Code.region id (o :: l).toArray false).wpS P Q a cs w := by
  refine wpS_region ?_
  rw [List.size_toArray, List.length_cons, List.range_eq_range', List.range'_succ]
  refine opsS_recover_none (o := o) (by simp) (by simp only [Region.wanted, hg]) hr hc ?_
  exact opsS_of_list hno l (0 + 1) _ _ (fun j => by simp [Nat.add_comm]) h
end

set_option maxHeartbeats 4000000 in
set_option maxRecDepth 100000 in
/-- THE DEFERRED CLOSURE in a frame that panics with a clue: recovered; the answer is false. -/
theorem catch_clue (b : Nat) (x : Bool) (y0 y1 y2 : Int) (older : List PanicEntry) (w : World) (hc : w.cell? ⟨b, 0, none⟩ = some (.bool x)) (hz : w.frozen? ⟨b, 0, none⟩ = false) (hp : b < w.heap.size) :
    CallsD Tryd.prog 143 #[.pointer (some ⟨b, 0, none⟩)] (.panicking ({ v := .iface 30 (.agg #[.int .i64 y0, .int .i64 y1, .int .i64 y2]), recovered := false } :: older)) w fun e u' w' => e = .returned (.tuple #[]) ∧ u' = .panicking ({ v := .iface 30 (.agg #[.int .i64 y0, .int .i64 y1, .int .i64 y2]), recovered := true } :: older) ∧ w' = (w.alloc (Obj.cells #[.int .i64 y0, .int .i64 y1, .int .i64 y2] 30)).setCell ⟨b, 0, none⟩ (.bool false) := by
  have ha := fun (X : World) (xT : TypeId) => assert_yes (P := Tryd.prog) (w := X) (xT := xT) (v := .agg #[.int .i64 y0, .int .i64 y1, .int .i64 y2]) Tryd.underlying30
  refine callsD_of_wpS Tryd.func143 rfl fun c₀ cs hu => ?_
  apply wpS_seq
  simp only [Tryd.ntmps143, List.size_toArray, List.length_cons, List.length_nil, Nat.reduceAdd, Nat.reduceSub, Array.replicate_succ, Array.replicate_zero, List.push_toArray, List.append_toArray, List.nil_append, List.cons_append]
  refine regionS_recover (v := .iface 30 (.agg #[.int .i64 y0, .int .i64 y1, .int .i64 y2])) (cs' := { c₀ with mode := .panicking ({ v := .iface 30 (.agg #[.int .i64 y0, .int .i64 y1, .int .i64 y2]), recovered := true } :: older) } :: cs) (w' := w) ?hg ?hr ?hc ?hno ?hrest
  case hg => exact rfl
  case hr => simp [go_sem]
  case hc => simp [recoverD, hu]
  case hno =>
    rintro ⟨a, w, u', h, _⟩
    cases h
  case hrest =>
    simp only [Act.put]
    have c1 : (w.alloc (Obj.cells #[.int .i64 y0, .int .i64 y1, .int .i64 y2] 30)).cell? ⟨b, 0, none⟩ = some (.bool x) := (World.cell?_alloc_lt _ _ _ hp).trans hc
    have z1 : (w.alloc (Obj.cells #[.int .i64 y0, .int .i64 y1, .int .i64 y2] 30)).frozen? ⟨b, 0, none⟩ = false := (World.frozen?_alloc_old w _ ⟨b, 0, none⟩ (by show b ≠ w.heap.size; omega)).trans hz
    clear hu hp hc hz
    go_wp2
    refine wpS_of_wp ?_
    go_wp2
    exact ⟨rfl, _, rfl, .tuple #[], by simp [results, Tryd.results143, go_sem], rfl, rfl, rfl⟩

set_option maxHeartbeats 4000000 in
set_option maxRecDepth 100000 in
/-- in a frame that returns: nothing is recovered; the answer is true. -/
theorem catch_none (b : Nat) (x : Bool) (w : World) (hc : w.cell? ⟨b, 0, none⟩ = some (.bool x)) (hz : w.frozen? ⟨b, 0, none⟩ = false) (hp : b < w.heap.size) :
    CallsD Tryd.prog 143 #[.pointer (some ⟨b, 0, none⟩)] .returning w fun e u' w' => e = .returned (.tuple #[]) ∧ u' = .returning ∧ w' = (w.alloc (Obj.cells #[.int .i64 0, .int .i64 0, .int .i64 0] 30)).setCell ⟨b, 0, none⟩ (.bool true) := by
  obtain ⟨i0, hi, hz0, _, _⟩ := info_parts Tryd.infoClue
  have ha := fun (X : World) (xT : TypeId) => assert_nil (P := Tryd.prog) (w := X) (xT := xT) Tryd.underlying30 hi hz0
  refine callsD_of_wpS Tryd.func143 rfl fun c₀ cs hu => ?_
  apply wpS_seq
  simp only [Tryd.ntmps143, List.size_toArray, List.length_cons, List.length_nil, Nat.reduceAdd, Nat.reduceSub, Array.replicate_succ, Array.replicate_zero, List.push_toArray, List.append_toArray, List.nil_append, List.cons_append]
  refine regionS_recover_none (w' := w) ?hg ?hr ?hc ?hno ?hrest
  case hg => exact rfl
  case hr => simp [go_sem]
  case hc => simp [recoverD, hu]
  case hno =>
    rintro ⟨a, w, u', h, _⟩
    cases h
  case hrest =>
    simp only [Act.put]
    have c1 : (w.alloc (Obj.cells #[.int .i64 0, .int .i64 0, .int .i64 0] 30)).cell? ⟨b, 0, none⟩ = some (.bool x) := (World.cell?_alloc_lt _ _ _ hp).trans hc
    have z1 : (w.alloc (Obj.cells #[.int .i64 0, .int .i64 0, .int .i64 0] 30)).frozen? ⟨b, 0, none⟩ = false := (World.frozen?_alloc_old w _ ⟨b, 0, none⟩ (by show b ≠ w.heap.size; omega)).trans hz
    have Hu := Lib.hid hu
    clear hu hp hc hz
    go_wp2
    refine wpS_of_wp ?_
    go_wp2
    refine ⟨rfl, .returning, ?_, .tuple #[], by simp [results, Tryd.results143, go_sem], rfl, rfl, rfl⟩
    have h := Hu.out
    cases c₀
    simp only at h
    subst h
    rfl

set_option maxHeartbeats 4000000 in
set_option maxRecDepth 100000 in
theorem areClues_any (n : Int) (l : CL) (A : Option Addr) (c : Nat) (w : World) (h1 : 1 ≤ n) (h5 : n ≤ 5) (hl : l.length ≤ 1048576) (hA : CRead w w.heap.size A (ccells l)) :
    Calls Tryd.prog 111 #[.int .i64 n, .slice A l.length c] w fun e w' => e = .returned (.bool (l.all (isCB n))) ∧ Below w.heap.size w w' := by
  have hmf : ∀ (fn : Fn) (first cap : Array Value) (w : World), (Instr.makeFunc fn first cap).run Tryd.prog w = .ok (.func fn first cap) w := fun _ _ _ _ => rfl
  obtain ⟨r, hr⟩ : ∃ r, l.all (isCB n) = r := ⟨_, rfl⟩
  rw [hr]
  have Hr := Lib.hid hr
  clear hr
  generalize hn : l.length = m at *
  have Hn := Lib.hid hn
  clear hn
  go_enter_defers Tryd.func111, Tryd.ntmps111
  go_wp2
  go_loopw [10] (fun i wr => ∃ k : Nat, k ≤ m ∧ i = .int .i64 k ∧ (l.take k).all (isCB n) = true ∧ Below (w.heap.size + 1) (w.alloc (Obj.cells #[.bool false] 4)) wr) (fun i _ => m - (intOf i).toNat)
  case atStart => exact ⟨0, Nat.zero_le _, rfl, rfl, Below.refl _ _⟩
  case round =>
    obtain ⟨k, hk, rfl, hgood, hb⟩ := hrel
    have Hgood := Lib.hid hgood
    clear hgood
    have hs := hb.size
    simp only [World.size_alloc] at hs
    have hbw : Below w.heap.size w wr := Below.trans (b := _) (by go_grown) (hb.mono (by omega))
    have u0 : wr.cell? ⟨w.heap.size, 0, none⟩ = some (.bool false) := (hb.cell (p := ⟨w.heap.size, 0, none⟩) (by simp)).trans (by simp)
    have f0 : wr.frozen? ⟨w.heap.size, 0, none⟩ = false := (hb.frozen (p := ⟨w.heap.size, 0, none⟩) (by simp)).trans (by simp)
    by_cases hlt : k < m
    · obtain ⟨⟨x, y, z⟩, hx⟩ := getSome l k (by rw [Hn.out]; exact hlt)
      obtain ⟨b, off, rfl, hbb, c0, c1, c2⟩ := (hA.below hbw (Nat.le_refl _)).clue hx
      have hki : (k : Int) < (m : Int) := by omega
      have Hx := Lib.hid hx
      clear hx
      go_wp2_with fail
      refine (requireClue_any n x y z h1 h5 _).mono ?_
      rintro e w2 ⟨he, hb2⟩
      simp only [World.size_alloc] at hb2
      have hb3 : Below wr.heap.size wr w2 := Below.trans (b := _) (by go_grown) (hb2.mono (by omega))
      have hb4 := hb.trans (hb3.mono (by omega))
      have hb5 := hbw.trans (hb3.mono (by omega))
      have u2 := carry hb3 u0 (by omega)
      have f2 := (hb3.frozen (p := ⟨w.heap.size, 0, none⟩) (by show w.heap.size < wr.heap.size; omega)).trans f0
      have hs3 := hb3.size
      clear c0 c1 c2 u0 f0 hb2
      cases hq : isCB n (x, y, z) with
      | false =>
        have hall : r = false := by
          rw [← Hr.out, List.all_eq_false]
          exact ⟨_, List.mem_of_getElem? Hx.out, by simp [hq]⟩
        rw [hq, if_neg (by simp)] at he
        subst he hall
        refine leaves_cons (f := 143) (args := #[.pointer (some ⟨w.heap.size, 0, none⟩)]) (by simp) (by simp [go_sem]) ?_
        refine (catch_clue w.heap.size false x y z [] w2 u2 f2 (by omega)).mono ?_
        rintro e u' w'' ⟨rfl, rfl, rfl⟩
        have c3 : ((w2.alloc (Obj.cells #[.int .i64 x, .int .i64 y, .int .i64 z] 30)).setCell ⟨w.heap.size, 0, none⟩ (.bool false)).cell? ⟨w.heap.size, 0, none⟩ = some (.bool false) := by
          refine World.cell?_setCell_same' _ _ _ ?_
          rw [(World.cell?_alloc_lt _ _ _ (by show w.heap.size < w2.heap.size; omega)).trans u2]; rfl
        refine ⟨.bool false, by simp [results, Tryd.results111, go_sem, c3], rfl, (hb5.alloc (by omega) _).setCell (p := ⟨w.heap.size, 0, none⟩) (Nat.le_refl _) _⟩
      | true =>
        rw [hq, if_pos rfl] at he
        subst he
        go_wp2
        go_roundw
        case rel =>
          refine ⟨k + 1, by omega, by go_num, ?_, hb4⟩
          rw [List.take_add_one, Hx.out, List.all_append, Hgood.out]
          simp [hq]
        case measure => simp [intOf]; omega
    · have hkl : k = m := by omega
      have hall : r = true := by
        have e := Hgood.out
        rw [hkl, List.take_of_length_le (by rw [Hn.out]; exact Nat.le_refl _), Hr.out] at e
        exact e
      subst hkl hall
      have hge : ¬ ((k : Int) < k) := by omega
      have u1 : (wr.setCell ⟨w.heap.size, 0, none⟩ (.bool true)).cell? ⟨w.heap.size, 0, none⟩ = some (.bool true) := World.cell?_setCell_same' _ _ _ (by rw [u0]; rfl)
      have f1 : (wr.setCell ⟨w.heap.size, 0, none⟩ (.bool true)).frozen? ⟨w.heap.size, 0, none⟩ = false := (World.frozen?_setCell _ _ _ _).trans f0
      have U1 := Lib.hid u1
      have F1 := Lib.hid f1
      clear u1 f1
      go_wp2
      refine leaves_cons (f := 143) (args := #[.pointer (some ⟨w.heap.size, 0, none⟩)]) (by simp) (by simp [go_sem]) ?_
      refine (catch_none w.heap.size true _ U1.out F1.out (by simp; omega)).mono ?_
      rintro e u' w'' ⟨rfl, rfl, rfl⟩
      have c3 : (((wr.setCell ⟨w.heap.size, 0, none⟩ (.bool true)).alloc (Obj.cells #[.int .i64 0, .int .i64 0, .int .i64 0] 30)).setCell ⟨w.heap.size, 0, none⟩ (.bool true)).cell? ⟨w.heap.size, 0, none⟩ = some (.bool true) := by
        refine World.cell?_setCell_same' _ _ _ ?_
        rw [(World.cell?_alloc_lt _ _ _ (by simp; omega)).trans U1.out]; rfl
      refine ⟨.bool true, by simp [results, Tryd.results111, go_sem, c3], rfl, ?_⟩
      exact ((hbw.setCell (p := ⟨w.heap.size, 0, none⟩) (Nat.le_refl _) _).alloc (by simp; omega) _).setCell (p := ⟨w.heap.size, 0, none⟩) (Nat.le_refl _) _
set_option maxHeartbeats 1000000 in
set_option maxRecDepth 100000 in
theorem implIsClue_any (n k a b : Int) (w : World) :
    Calls Tryd.prog 69 #[.int .i64 n, .agg #[.int .i64 k, .int .i64 a, .int .i64 b]] w fun e w' => e = .returned (.bool (resIsClue n k a b)) ∧ Below w.heap.size w w' := by
  cases hg : isGuests n with
  | false =>
    rw [show resIsClue n k a b = false from by unfold resIsClue; rw [hg]; rfl]
    have Hg := Lib.hid hg
    clear hg
    go_enter Tryd.func69, Tryd.ntmps69
    go_wp2_with (go_at_call 99; refine (areGuests_any _ _).mono ?_; rw [Hg.out]; rintro e w' ⟨rfl, rfl⟩)
    go_ret
    exact ⟨rfl, by go_grown⟩
  | true =>
    have hp : 1 ≤ n ∧ n ≤ 5 := by simpa [isGuests, l1InB] using hg
    rw [show resIsClue n k a b = isCB n (k, a, b) from by unfold resIsClue; rw [hg]; rfl]
    have Hg := Lib.hid hg
    have call := fun (X : World) (A : Option Addr) (c : Nat) (hA : CRead X X.heap.size A (ccells [(k, a, b)])) => areClues_any n [(k, a, b)] A c X hp.1 hp.2 (by simp) hA
    simp only [List.all_cons, List.all_nil, Bool.and_true, List.length_cons, List.length_nil, Nat.zero_add] at call
    have Call := Lib.hid call
    clear hg call
    go_enter Tryd.func69, Tryd.ntmps69
    go_wp2_with (go_at_call 99; refine (areGuests_any _ _).mono ?_; rw [Hg.out]; rintro e w' ⟨rfl, rfl⟩)
    refine (Call.out _ _ _ ?_).mono ?_
    · intro j u hu
      refine ⟨w.heap.size + 1, 0, rfl, by simp, ?_⟩
      match j with
      | 0 => simp [ccells] at hu; subst hu; simp
      | 1 => simp [ccells] at hu; subst hu; simp
      | 2 => simp [ccells] at hu; subst hu; simp
      | j + 3 => simp [ccells] at hu
    rintro e w2 ⟨rfl, hb2⟩
    simp only [World.size_alloc] at hb2
    go_wp2
    go_ret
    exact ⟨rfl, Below.trans (b := _) (by go_grown) (hb2.mono (by omega))⟩
set_option maxHeartbeats 1000000 in
set_option maxRecDepth 100000 in
theorem isPuzzle_any (p : Int) (l : CL) (A : Option Addr) (c : Nat) (w : World) (hl : l.length ≤ 1048576) (hA : CRead w w.heap.size A (ccells l)) :
    Calls Tryd.prog 75 #[.agg #[.int .i64 p, .slice A l.length c]] w fun e w' => e = .returned (.bool (isU p l)) ∧ Below w.heap.size w w' := by
  cases hg : isGuests p with
  | false =>
    rw [show isU p l = false from by unfold isU; rw [hg]; rfl]
    have Hg := Lib.hid hg
    clear hg
    go_enter Tryd.func75, Tryd.ntmps75
    go_wp2_with (go_at_call 99; refine (areGuests_any _ _).mono ?_; rw [Hg.out]; rintro e w' ⟨rfl, rfl⟩)
    go_ret
    exact ⟨rfl, by go_grown⟩
  | true =>
    have hp : 1 ≤ p ∧ p ≤ 5 := by simpa [isGuests, l1InB] using hg
    obtain ⟨h1, h5⟩ := hp
    have Hg := Lib.hid hg
    by_cases h8 : (l.length : Int) ≤ 8
    · have he : isU p l = l.all (isCB p) := by unfold isU; rw [hg, show decide (l.length ≤ 8) = true from decide_eq_true (by omega)]; simp
      rw [he]
      clear hg he
      have hd : decide ((l.length : Int) ≤ 8) = true := decide_eq_true h8
      go_enter Tryd.func75, Tryd.ntmps75
      go_wp2_with (go_at_call 99; refine (areGuests_any _ _).mono ?_; rw [Hg.out]; rintro e w' ⟨rfl, rfl⟩)
      refine (areClues_any p l A c _ h1 h5 hl ((hA.below (B' := w.heap.size) (by go_grown) (Nat.le_refl _)).more (by go_size))).mono ?_
      rintro e w2 ⟨rfl, hb2⟩
      simp only [World.size_alloc] at hb2
      go_wp2
      go_ret
      exact ⟨rfl, Below.trans (b := _) (by go_grown) (hb2.mono (by omega))⟩
    · rw [show isU p l = false from by unfold isU; rw [show decide (l.length ≤ 8) = false from decide_eq_false (by omega)]; simp]
      clear hg
      have hd : decide ((l.length : Int) ≤ 8) = false := decide_eq_false h8
      go_enter Tryd.func75, Tryd.ntmps75
      go_wp2_with (go_at_call 99; refine (areGuests_any _ _).mono ?_; rw [Hg.out]; rintro e w' ⟨rfl, rfl⟩)
      go_ret
      exact ⟨rfl, by go_grown⟩
theorem implIsPuzzle_any (p : Int) (l : CL) (A : Option Addr) (c : Nat) (w : World) (hl : l.length ≤ 1048576) (hA : CRead w w.heap.size A (ccells l)) :
    Calls Tryd.prog 75 #[.agg #[.int .i64 p, .slice A l.length c]] w fun e w' => e = .returned (.bool (resIsPuzzle p l)) ∧ Below w.heap.size w w' := isPuzzle_any p l A c w hl hA
end Go.Proofs.YtefkcfkicmfhlaaDoor
/-
  'DoesFit': the model's and the program's, by their contracts.
-/
namespace Go.Proofs.YtefkcfkicmfhlaaDoor
open Go.RowKit

theorem fitting_any (p k a b : Int) (l : PL) (A : Option Addr) (c : Nat) (w : World) (hp : isP p l = true) (hA : CRead w w.heap.size A (pcells l)) (htab : TabW w) (hk : k = 0 ∨ k = 1 ∨ k = 2 ∨ k = 3 ∨ k = 4 ∨ k = 5) (h2 : k = 2 → 0 ≤ a ∧ a < p) :
    Calls Tryd.prog 112 #[.agg #[.int .i64 k, .int .i64 a, .int .i64 b], .agg #[.int .i64 p, .slice A l.length c]] w fun e w' => e = .returned (.agg #[.int .i64 (fitV p l k a b).1, .int .i64 (fitV p l k a b).2.1, .int .i64 (fitV p l k a b).2.2]) ∧ Below w.heap.size w w' := by
  have hn := isP_range hp
  have hl : l.length ≤ 1048576 := by have h1 := isP_length hp; have h2 := people_sq hn.1 hn.2; omega
  rcases hk with rfl | rfl | rfl | rfl | rfl | rfl
  · exact fitting_0 p a b l A c w hl hA
  · exact fitting_1 p a b l A c w hl hA
  · exact fitting_2 p a b l A c w hl hA hp (h2 rfl)
  · exact fitting_3 p a b l A c w
  · exact fitting_4 p a b l A c w hl hA hp htab
  · exact fitting_5 p a b l A c w hl hA hp

set_option maxRecDepth 100000 in
theorem run_equal_clue (x0 x1 x2 y0 y1 y2 : Int) (w : World) : (binOp .eql 30 (.agg #[.int .i64 x0, .int .i64 x1, .int .i64 x2]) (.agg #[.int .i64 y0, .int .i64 y1, .int .i64 y2])).run Tryd.prog w = .ok (.bool (decide (x0 = y0) && (decide (x1 = y1) && decide (x2 = y2)))) w := by
  have h0 : (Tryd.prog.fieldsOf 30).toList.map (fun f => (f.name, f.offset)) = [("Kind", 0), ("A", 1), ("B", 2)] := by kernel_rfl
  rw [run_eql_struct]
  simp [go_sem]
  by_cases e0 : x0 = y0 <;> by_cases e1 : x1 = y1 <;> by_cases e2 : x2 = y2 <;> simp [e0, e1, e2, go_sem]
set_option maxHeartbeats 4000000 in
set_option maxRecDepth 100000 in
theorem fits_any (p k a b : Int) (l : PL) (A : Option Addr) (c : Nat) (w : World) (hp : isP p l = true) (hA : CRead w w.heap.size A (pcells l)) (htab : TabW w) (hc : isCB p (k, a, b) = true) :
    Calls Tryd.prog 70 #[.agg #[.int .i64 k, .int .i64 a, .int .i64 b], .agg #[.int .i64 p, .slice A l.length c]] w fun e w' => e = .returned (.bool (fitB p l (k, a, b))) ∧ Below w.heap.size w w' := by
  obtain ⟨X, hX⟩ : ∃ X, (w.alloc (Obj.cells #[.int .i64 k, .int .i64 a, .int .i64 b] 30)).alloc (Obj.cells #[.int .i64 p, .slice A l.length c] 34) = X := ⟨_, rfl⟩
  have kX : Below w.heap.size w X := by rw [← hX]; go_grown
  have sX : X.heap.size = w.heap.size + 2 := by rw [← hX]; simp
  have x0 : X.cell? ⟨w.heap.size, 0, none⟩ = some (.int .i64 k) := by rw [← hX]; exact (World.cell?_alloc_lt _ _ _ (by simp)).trans (by simp)
  have x1 : X.cell? ⟨w.heap.size, 1, none⟩ = some (.int .i64 a) := by rw [← hX]; exact (World.cell?_alloc_lt _ _ _ (by simp)).trans (by simp)
  have x2 : X.cell? ⟨w.heap.size, 2, none⟩ = some (.int .i64 b) := by rw [← hX]; exact (World.cell?_alloc_lt _ _ _ (by simp)).trans (by simp)
  have p0 : X.cell? ⟨w.heap.size + 1, 0, none⟩ = some (.int .i64 p) := by rw [← hX]; simp
  have p1 : X.cell? ⟨w.heap.size + 1, 1, none⟩ = some (.slice A l.length c) := by rw [← hX]; simp
  have q0 : ∀ z : Ext X.heap.size X, z.val.cell? ⟨w.heap.size, 0, none⟩ = some (.int .i64 k) := fun z => z.cell x0 (by omega)
  have q1 : ∀ z : Ext X.heap.size X, z.val.cell? ⟨w.heap.size, 1, none⟩ = some (.int .i64 a) := fun z => z.cell x1 (by omega)
  have q2 : ∀ z : Ext X.heap.size X, z.val.cell? ⟨w.heap.size, 2, none⟩ = some (.int .i64 b) := fun z => z.cell x2 (by omega)
  have q3 : ∀ z : Ext X.heap.size X, z.val.cell? ⟨w.heap.size + 1, 0, none⟩ = some (.int .i64 p) := fun z => z.cell p0 (by omega)
  have q4 : ∀ z : Ext X.heap.size X, z.val.cell? ⟨w.heap.size + 1, 1, none⟩ = some (.slice A l.length c) := fun z => z.cell p1 (by omega)
  have hpos := htab.pos
  have call : ∀ z : Ext X.heap.size X, Calls Tryd.prog 112 #[.agg #[.int .i64 k, .int .i64 a, .int .i64 b], .agg #[.int .i64 p, .slice A l.length c]] z.val fun e w' => e = .returned (.agg #[.int .i64 (fitV p l k a b).1, .int .i64 (fitV p l k a b).2.1, .int .i64 (fitV p l k a b).2.2]) ∧ Below z.val.heap.size z.val w' := fun z =>
    fitting_any p k a b l A c z.val hp ((hA.below (kX.trans (z.below.mono kX.size)) (Nat.le_refl _)).more (Nat.le_trans kX.size z.size)) (htab.below (kX.trans (z.below.mono kX.size)) hpos) (isCB_kind hc) (fun h => by subst h; have := isCB_num hc; omega)
  unfold fitB
  obtain ⟨⟨v0, v1, v2⟩, hv⟩ : ∃ v, fitV p l k a b = v := ⟨_, rfl⟩
  simp only [hv] at call ⊢
  have heq : decide ((v0, v1, v2) = (k, a, b)) = (decide (v0 = k) && (decide (v1 = a) && decide (v2 = b))) := by rw [Bool.eq_iff_iff]; simp
  rw [heq]
  clear heq
  have heq := run_equal_clue v0 v1 v2 k a b
  have Call := Lib.hid call
  have HX := Lib.hid hX
  clear call hX hv x0 x1 x2 p0 p1 hp hc
  go_enter Tryd.func70, Tryd.ntmps70
  go_wp2_with fail
  rw [HX.out]
  refine wp_region_ext X.heap.size (by kernel_rfl) (by kernel_rfl) ?_
  repeat (go_big_quiet_step ((first | (go_at_call 112; exact Calls.ext_of ((Call.out _).mono fun _ _ h => ⟨h.1, h.2.mono (Ext.size _)⟩)))))
  refine wpQuiet_nil ?_
  rintro w3 ⟨⟨_, hb3⟩, rfl⟩
  have k3 := kX.trans (hb3.mono kX.size)
  go_wp2
  go_ret
  exact ⟨rfl, k3⟩
set_option maxHeartbeats 4000000 in
set_option maxRecDepth 100000 in
theorem implDoesFit_any (k a b p : Int) (l : PL) (A : Option Addr) (c : Nat) (w : World) (hl : l.length ≤ 1048576) (hA : CRead w w.heap.size A (pcells l)) (htab : TabW w) :
    Calls Tryd.prog 20 #[.agg #[.int .i64 k, .int .i64 a, .int .i64 b], .agg #[.int .i64 p, .slice A l.length c]] w fun e w' => e = .returned (.tuple #[.bool (resDoesFit k a b p l).1, .bool (resDoesFit k a b p l).2]) ∧ Below w.heap.size w w' := by
  obtain ⟨X, hX⟩ : ∃ X, (w.alloc (Obj.cells #[.int .i64 k, .int .i64 a, .int .i64 b] 30)).alloc (Obj.cells #[.int .i64 p, .slice A l.length c] 34) = X := ⟨_, rfl⟩
  have kX : Below w.heap.size w X := by rw [← hX]; go_grown
  have sX : X.heap.size = w.heap.size + 2 := by rw [← hX]; simp
  have x0 : X.cell? ⟨w.heap.size, 0, none⟩ = some (.int .i64 k) := by rw [← hX]; exact (World.cell?_alloc_lt _ _ _ (by simp)).trans (by simp)
  have x1 : X.cell? ⟨w.heap.size, 1, none⟩ = some (.int .i64 a) := by rw [← hX]; exact (World.cell?_alloc_lt _ _ _ (by simp)).trans (by simp)
  have x2 : X.cell? ⟨w.heap.size, 2, none⟩ = some (.int .i64 b) := by rw [← hX]; exact (World.cell?_alloc_lt _ _ _ (by simp)).trans (by simp)
  have p0 : X.cell? ⟨w.heap.size + 1, 0, none⟩ = some (.int .i64 p) := by rw [← hX]; simp
  have p1 : X.cell? ⟨w.heap.size + 1, 1, none⟩ = some (.slice A l.length c) := by rw [← hX]; simp
  have rX : CRead X X.heap.size A (pcells l) := (hA.below kX (Nat.le_refl _)).more kX.size
  have TX := htab.below kX htab.pos
  have HX := Lib.hid hX
  have HTX := Lib.hid TX
  clear htab TX hX
  cases hp : isP p l with
  | false =>
    rw [show resDoesFit k a b p l = (false, false) by unfold resDoesFit; rw [hp]; rfl]
    have Hp := Lib.hid hp
    clear hp
    go_enter Tryd.func20, Tryd.ntmps20
    go_wp2_with fail
    rw [HX.out]
    refine (isParty_any _ _ _ _ _ hl rX).mono ?_
    rw [Hp.out]
    rintro e w2 ⟨rfl, hb2⟩
    go_wp2
    go_ret2
    exact ⟨rfl, kX.trans (hb2.mono kX.size)⟩
  | true =>
    have hcl : resIsClue p k a b = (isGuests p && isCB p (k, a, b)) := rfl
    cases hg : (isGuests p && isCB p (k, a, b)) with
    | false =>
      rw [show resDoesFit k a b p l = (false, false) by unfold resDoesFit; rw [hp, hg]; rfl]
      rw [hg] at hcl
      have Hp := Lib.hid hp
      have Hcl := Lib.hid hcl
      clear hp hg hcl
      go_enter Tryd.func20, Tryd.ntmps20
      go_wp2_with fail
      rw [HX.out]
      refine (isParty_any _ _ _ _ _ hl rX).mono ?_
      rw [Hp.out]
      rintro e w2 ⟨rfl, hb2⟩
      have y0 := carry hb2 x0 (by omega)
      have y1 := carry hb2 x1 (by omega)
      have y2 := carry hb2 x2 (by omega)
      have y3 := carry hb2 p0 (by omega)
      have y4 := carry hb2 p1 (by omega)
      have k2 := kX.trans (hb2.mono kX.size)
      clear x0 x1 x2 p0 p1
      go_wp2_with fail
      refine (implIsClue_any p k a b _).mono ?_
      rw [Hcl.out]
      rintro e w3 ⟨rfl, hb3⟩
      go_wp2
      go_ret2
      exact ⟨rfl, k2.trans (hb3.mono k2.size)⟩
    | true =>
      rw [show resDoesFit k a b p l = (fitB p l (k, a, b), true) by unfold resDoesFit; rw [hp, hg]; rfl]
      rw [hg] at hcl
      have hc : isCB p (k, a, b) = true := by rw [Bool.and_eq_true] at hg; exact hg.2
      have Hp := Lib.hid hp
      have Hc := Lib.hid hc
      have Hcl := Lib.hid hcl
      have hpos := HTX.out.pos
      clear hp hg hcl hc
      go_enter Tryd.func20, Tryd.ntmps20
      go_wp2_with fail
      rw [HX.out]
      refine (isParty_any _ _ _ _ _ hl rX).mono ?_
      rw [Hp.out]
      rintro e w2 ⟨rfl, hb2⟩
      have y0 := carry hb2 x0 (by omega)
      have y1 := carry hb2 x1 (by omega)
      have y2 := carry hb2 x2 (by omega)
      have y3 := carry hb2 p0 (by omega)
      have y4 := carry hb2 p1 (by omega)
      have s2 := hb2.size
      have k2 := kX.trans (hb2.mono kX.size)
      clear x0 x1 x2 p0 p1
      go_wp2_with fail
      refine (implIsClue_any p k a b _).mono ?_
      rw [Hcl.out]
      rintro e w3 ⟨rfl, hb3⟩
      have z0 := carry hb3 y0 (by omega)
      have z1 := carry hb3 y1 (by omega)
      have z2 := carry hb3 y2 (by omega)
      have z3 := carry hb3 y3 (by omega)
      have z4 := carry hb3 y4 (by omega)
      have hb23 := hb2.trans (hb3.mono s2)
      have k3 := k2.trans (hb3.mono k2.size)
      clear y0 y1 y2 y3 y4
      go_wp2_with fail
      refine (fits_any p k a b l A c _ Hp.out ((rX.below hb23 (Nat.le_refl _)).more hb23.size) (HTX.out.below hb23 hpos) Hc.out).mono ?_
      rintro e w4 ⟨rfl, hb4⟩
      clear z0 z1 z2 z3 z4
      go_wp2
      go_ret2
      exact ⟨rfl, k3.trans (hb4.mono k3.size)⟩
set_option maxHeartbeats 4000000 in
set_option maxRecDepth 100000 in
theorem specDoesFit_any (k a b p : Int) (l : PL) (A : Option Addr) (c : Nat) (w : World) (hl : l.length ≤ 1048576) (hA : CRead w w.heap.size A (pcells l)) :
    Calls Tryd.prog 17 #[.agg #[.int .i64 k, .int .i64 a, .int .i64 b], .agg #[.int .i64 p, .slice A l.length c]] w fun e w' => e = .returned (.tuple #[.bool (resDoesFit k a b p l).1, .bool (resDoesFit k a b p l).2]) ∧ Below w.heap.size w w' := by
  obtain ⟨X, hX⟩ : ∃ X, (w.alloc (Obj.cells #[.int .i64 k, .int .i64 a, .int .i64 b] 30)).alloc (Obj.cells #[.int .i64 p, .slice A l.length c] 34) = X := ⟨_, rfl⟩
  have kX : Below w.heap.size w X := by rw [← hX]; go_grown
  have sX : X.heap.size = w.heap.size + 2 := by rw [← hX]; simp
  have x0 : X.cell? ⟨w.heap.size, 0, none⟩ = some (.int .i64 k) := by rw [← hX]; exact (World.cell?_alloc_lt _ _ _ (by simp)).trans (by simp)
  have x1 : X.cell? ⟨w.heap.size, 1, none⟩ = some (.int .i64 a) := by rw [← hX]; exact (World.cell?_alloc_lt _ _ _ (by simp)).trans (by simp)
  have x2 : X.cell? ⟨w.heap.size, 2, none⟩ = some (.int .i64 b) := by rw [← hX]; exact (World.cell?_alloc_lt _ _ _ (by simp)).trans (by simp)
  have p0 : X.cell? ⟨w.heap.size + 1, 0, none⟩ = some (.int .i64 p) := by rw [← hX]; simp
  have p1 : X.cell? ⟨w.heap.size + 1, 1, none⟩ = some (.slice A l.length c) := by rw [← hX]; simp
  have rX : CRead X X.heap.size A (pcells l) := (hA.below kX (Nat.le_refl _)).more kX.size
  have HX := Lib.hid hX
  clear hX
  cases hp : isP p l with
  | false =>
    rw [show resDoesFit k a b p l = (false, false) by unfold resDoesFit; rw [hp]; rfl]
    have Hp := Lib.hid hp
    clear hp
    go_enter Tryd.func17, Tryd.ntmps17
    go_wp2_with fail
    rw [HX.out]
    refine (paGood_any _ _ _ _ _ hl rX).mono ?_
    rw [Hp.out]
    rintro e w2 ⟨rfl, hb2⟩
    go_wp2
    go_ret2
    exact ⟨rfl, kX.trans (hb2.mono kX.size)⟩
  | true =>
    cases hg : isGuests p with
    | false =>
      rw [show resDoesFit k a b p l = (false, false) by unfold resDoesFit; rw [hp, hg]; rfl]
      have Hp := Lib.hid hp
      have Hg := Lib.hid hg
      clear hp hg
      go_enter Tryd.func17, Tryd.ntmps17
      go_wp2_with fail
      rw [HX.out]
      refine (paGood_any _ _ _ _ _ hl rX).mono ?_
      rw [Hp.out]
      rintro e w2 ⟨rfl, hb2⟩
      have y3 := carry hb2 p0 (by omega)
      have k2 := kX.trans (hb2.mono kX.size)
      clear x0 x1 x2 p0 p1
      go_wp2_with fail
      refine (pzPeople_any p _).mono ?_
      rw [Hg.out]
      rintro e w3 ⟨rfl, rfl⟩
      go_wp2
      go_ret2
      exact ⟨rfl, k2⟩
    | true =>
      have hp15 : 1 ≤ p ∧ p ≤ 5 := by simpa [isGuests, l1InB] using hg
      cases hc : isCB p (k, a, b) with
      | false =>
        rw [show resDoesFit k a b p l = (false, false) by unfold resDoesFit; rw [hp, hg, hc]; rfl]
        have Hp := Lib.hid hp
        have Hg := Lib.hid hg
        have Hc := Lib.hid hc
        clear hp hg hc
        go_enter Tryd.func17, Tryd.ntmps17
        go_wp2_with fail
        rw [HX.out]
        refine (paGood_any _ _ _ _ _ hl rX).mono ?_
        rw [Hp.out]
        rintro e w2 ⟨rfl, hb2⟩
        have y0 := carry hb2 x0 (by omega)
        have y1 := carry hb2 x1 (by omega)
        have y2 := carry hb2 x2 (by omega)
        have y3 := carry hb2 p0 (by omega)
        have k2 := kX.trans (hb2.mono kX.size)
        clear x0 x1 x2 p0 p1
        go_wp2_with fail
        refine (pzPeople_any p _).mono ?_
        rw [Hg.out]
        rintro e w3 ⟨rfl, rfl⟩
        go_wp2_with fail
        refine (pzClue_any p k a b hp15.1 hp15.2 _).mono ?_
        rw [Hc.out]
        rintro e w4 ⟨rfl, hb4⟩
        go_wp2
        go_ret2
        exact ⟨rfl, k2.trans (hb4.mono k2.size)⟩
      | true =>
        rw [show resDoesFit k a b p l = (fitB p l (k, a, b), true) by unfold resDoesFit; rw [hp, hg, hc]; rfl]
        have Hp := Lib.hid hp
        have Hg := Lib.hid hg
        have Hc := Lib.hid hc
        clear hp hg hc
        go_enter Tryd.func17, Tryd.ntmps17
        go_wp2_with fail
        rw [HX.out]
        refine (paGood_any _ _ _ _ _ hl rX).mono ?_
        rw [Hp.out]
        rintro e w2 ⟨rfl, hb2⟩
        have y0 := carry hb2 x0 (by omega)
        have y1 := carry hb2 x1 (by omega)
        have y2 := carry hb2 x2 (by omega)
        have y3 := carry hb2 p0 (by omega)
        have y4 := carry hb2 p1 (by omega)
        have s2 := hb2.size
        have k2 := kX.trans (hb2.mono kX.size)
        clear x0 x1 x2 p0 p1
        go_wp2_with fail
        refine (pzPeople_any p _).mono ?_
        rw [Hg.out]
        rintro e w3 ⟨rfl, rfl⟩
        go_wp2_with fail
        refine (pzClue_any p k a b hp15.1 hp15.2 _).mono ?_
        rw [Hc.out]
        rintro e w4 ⟨rfl, hb4⟩
        have z0 := carry hb4 y0 (by omega)
        have z1 := carry hb4 y1 (by omega)
        have z2 := carry hb4 y2 (by omega)
        have z3 := carry hb4 y3 (by omega)
        have z4 := carry hb4 y4 (by omega)
        have hb24 := hb2.trans (hb4.mono s2)
        have k4 := k2.trans (hb4.mono k2.size)
        clear y0 y1 y2 y3 y4
        go_wp2_with fail
        refine (pzFits_any p k a b l A c _ Hp.out ((rX.below hb24 (Nat.le_refl _)).more hb24.size) Hc.out).mono ?_
        rintro e w5 ⟨rfl, hb5⟩
        clear z0 z1 z2 z3 z4
        go_wp2
        go_ret2
        exact ⟨rfl, k4.trans (hb5.mono k4.size)⟩
end Go.Proofs.YtefkcfkicmfhlaaDoor
