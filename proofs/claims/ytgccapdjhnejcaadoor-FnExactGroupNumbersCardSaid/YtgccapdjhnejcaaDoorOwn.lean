/-
  'spec.l1Own': a copy of a list of numbers, by its contract.
-/
import Derived.Test.YtgccapdjhnejcaaDoorHas
import Derived.ArgAppend
namespace Go.Proofs.YtgccapdjhnejcaaDoor
open Go.RowKit

set_option maxHeartbeats 1000000 in
set_option maxRecDepth 100000 in
theorem l1Own_any (q : List Int) (A : Option Addr) (c : Nat) (w : World) (hq : q.length ≤ 1048576) (h0 : 0 < q.length) (hA : CRead w w.heap.size A (icells q)) :
    Calls Tryd.prog 50 #[.slice A q.length c] w fun e w' => ∃ A' c', e = .returned (.slice A' q.length c') ∧ w'.ownsRow w.heap.size 3 1 (.slice A' q.length c') q.length (icells q) ∧ Below w.heap.size w w' := by
  obtain ⟨i0, hi, hz0, hz1, hz2⟩ := info_parts Tryd.infoInt
  obtain ⟨b, off, rfl, hb, hr⟩ := hA.ints h0
  go_enter Tryd.func50, Tryd.ntmps50
  have hc : ∀ j u, (icells q)[j]? = some u → (w.alloc (Obj.cells #[] 3)).cell? ((⟨b, off, none⟩ : Addr).add j) = some u := fun j u hu => by
    rw [Addr.add_lit]
    obtain ⟨b', off', e, _, hcell⟩ := hA j u hu
    simp only [Option.some.injEq, Addr.mk.injEq, and_true] at e
    obtain ⟨rfl, rfl⟩ := e
    exact (World.cell?_alloc_lt _ _ _ hb).trans hcell
  clear hr
  go_wp2_with (at_builtin; refine wpList_append_grows _ rfl _ _ 25 rfl 3 i0 _ 1 8 Tryd.underlying25 hi hz0 hz1 hz2 rfl (by decide) (some ⟨w.heap.size, 0, none⟩) 0 0 [] rfl (fun h => by cases h) rfl (fun b' hb' m u hu => by simp at hu) ⟨b, off, none⟩ q.length c (icells q) rfl (by simp [icells]) hc (icells_one q) (by omega) (by unfold maxLen; omega) (by omega) ?_; intro v1 w4 own4 gr4; simp only [Nat.zero_add, List.nil_append] at own4; obtain ⟨A4, d4, rfl, _⟩ := own_shape own4)
  go_ret
  exact ⟨A4, d4, rfl, own_lower own4 (by simp), below_of_gb (gb_trans (World.grownBy_alloc w _ none) gr4) (Nat.le_refl _)⟩
end Go.Proofs.YtgccapdjhnejcaaDoor
