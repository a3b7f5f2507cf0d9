/-
  'slices.Contains' at numbers, from the shelf.
-/
import Derived.Test.YtaemodpolopcfaaHas
import Derived.Test.YtaemodpolopcfaaShelf
namespace Go.Proofs.Ytaemodpolopcfaa
open Go.RowKit

set_option maxRecDepth 100000 in
theorem containsI_any (q : List Int) (x : Int) (A : Option Addr) (c : Nat) (w : World) (hl : q.length ≤ 1048576) (hA : CRead w w.heap.size A (icells q)) :
    Calls Try.prog 72 #[.slice A q.length c, .int .i64 x] w fun e w' => e = .returned (.bool (hasI q x)) ∧ w = w' := by
  by_cases h0 : q.length = 0
  · have hq : q = [] := List.eq_nil_of_length_eq_zero h0
    subst hq
    have h := AnyG.slices_Contains_int_empty Try.containsI A c x w
    change Calls Try.prog 72 _ _ _ at h
    exact h.mono fun _ _ ⟨he, hw⟩ => ⟨he, hw.symm⟩
  · obtain ⟨b, off, rfl, hb, hc⟩ := hA.ints (by omega)
    have h := AnyG.slices_Contains_int Try.containsI b off q.length c q x w (Nat.le_refl _) (by omega) hc
    rw [List.take_length] at h
    change Calls Try.prog 72 _ _ _ at h
    exact h.mono fun _ _ ⟨he, hw⟩ => ⟨he, hw.symm⟩
end Go.Proofs.Ytaemodpolopcfaa
