/-
  A LIST OF NUMBERS THAT CAME IN, opened.
-/
import Derived.Test.YtgccapdjhnejcaaSaid
import Derived.Deep.Slices
namespace Go.Proofs.Ytgccapdjhnejcaa
open Go.ChangeShapes Go.WideShapes Go.ChangeAt Go.RowKit Go.Deep

section
variable {H : Type} {enc : TypeId × Value → H} {W : World}
set_option maxRecDepth 100000 in
/-- A list of numbers that came in. -/
theorem open_list {v : Value} {d : DataW H} {p : List MemPlace} {r : Reach} {b0 : Nat} (hv : Value.okWide Try.prog W r b0 25 v) (h : DataW.Trod enc Try.prog W 0 (fun _ => true) true 25 v d p) :
    ∃ (l : List Int) (A : Option Addr) (c : Nat), v = .slice A l.length c ∧ l.length ≤ maxLen ∧ CRead W W.heap.size A (icells l) := by
  obtain ⟨a0, len0, cap0, rfl⟩ := okWide_slice Try.underlying25 hv
  obtain ⟨fuel, hf⟩ := h
  rcases open_slice1 Try.underlying25 Try.cellsInt hf with ⟨hcs, _⟩ | ⟨a, len, cap, m, n, V, D, Pl, hcs, _, hlc, hcm, hm, _, hall⟩
  · simp [Value.cells] at hcs
    obtain ⟨rfl, rfl, rfl⟩ := hcs
    exact ⟨[], none, 0, rfl, Nat.zero_le _, CRead.nil⟩
  · simp [Value.cells] at hcs
    obtain ⟨rfl, rfl, rfl⟩ := hcs
    have hm' : m = cap0 := by simpa using hm
    subst hm'
    have each : ∀ i, i < len0 → ∃ x : Int, W.cell? (a.add i) = some (.int .i64 x) := by
      intro i hi
      obtain ⟨c0, t0⟩ := hall i (by omega)
      obtain ⟨x, e0, _, _⟩ := DataW.trod_int Try.underlying3 t0
      simp only [List.cons.injEq, and_true] at e0
      exact ⟨x, by rw [c0, e0]⟩
    let num : Option Value → Int := fun | some (.int _ z) => z | _ => 0
    let l : List Int := (List.range len0).map fun i => num (W.cell? (a.add i))
    have hll : l.length = len0 := by simp [l]
    refine ⟨l, some a, m, by rw [hll], by rw [hll]; omega, ?_⟩
    intro j u hu
    have hjl : j < (icells l).length := (List.getElem?_eq_some_iff.1 hu).1
    rw [icells_length, hll] at hjl
    obtain ⟨x, cx⟩ := each j hjl
    have hl : l[j]? = some x := by simp [l, hjl, cx, num]
    obtain ⟨z0, cz⟩ := each 0 (by omega)
    have hspot : a.spot = none := by simpa [Addr.add] using World.cell?_spot cz
    obtain ⟨b, off, sp⟩ := a
    simp only at hspot
    subst hspot
    have hb : b < W.heap.size := by
      have := World.block_lt_of_cell? W _ cz
      simpa [Addr.add] using this
    refine ⟨b, off, rfl, hb, ?_⟩
    rw [add_plain] at cx
    have e2 := icells_at hl
    rw [hu] at e2
    rw [cx, e2]
end
end Go.Proofs.Ytgccapdjhnejcaa
