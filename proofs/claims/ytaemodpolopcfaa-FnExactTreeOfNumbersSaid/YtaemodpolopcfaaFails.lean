/-
  WHERE NUMBERS FAIL, AND WHETHER THEY CAN BE: the model's and the program's, by their contracts.
-/
import Derived.Test.YtaemodpolopcfaaSortI
namespace Go.Proofs.Ytaemodpolopcfaa
open Go.RowKit

/-- what the walk of one number k wants to know -/
theorem fails_bounds {s : List Int} (hs : isNums s = true) {k : Nat} (hk : k < s.length) : (0 ≤ sumI (s.take k) ∧ sumI (s.take k) ≤ 144) ∧ (∀ x : Int, s[k]? = some x → 0 ≤ x ∧ x ≤ 12 ∧ sumI (s.take (k + 1)) = sumI (s.take k) + x) ∧
    ((k : Int) + 1) * (k : Int) = ((k + 1) * k : Nat) ∧ (k + 1) * k ≤ 132 ∧ (∀ m, 0 ≤ sumI (minsI ((k : Int) + 1) ((s.drop (k + 1)).take m)) ∧ sumI (minsI ((k : Int) + 1) ((s.drop (k + 1)).take m)) ≤ 12 * m) := by
  have hl := isNums_len hs
  have hall : ∀ x ∈ s, 0 ≤ x ∧ x ≤ 12 := fun x hx => by have := isNums_mem hs x hx; omega
  have h1 := sumI_take_bound (q := s) (m := 12) (by omega) hall k
  refine ⟨⟨h1.1, by omega⟩, fun x hx => ?_, ?_, ?_, fun m => ?_⟩
  · have := hall x (List.mem_of_getElem? hx)
    refine ⟨this.1, this.2, ?_⟩
    rw [List.take_add_one, hx, Option.toList_some, sumI_snoc]
  · rw [Int.natCast_mul, Int.natCast_add]
    rfl
  · have : (k + 1) * k ≤ 12 * 11 := Nat.mul_le_mul (by omega) (by omega)
    omega
  · have hall2 : ∀ x ∈ minsI ((k : Int) + 1) (s.drop (k + 1)), 0 ≤ x ∧ x ≤ 12 := minsI_bound (by omega) fun x hx => hall x (List.mem_of_mem_drop hx)
    have h2 := sumI_take_bound (m := 12) (by omega) hall2 m
    have e : minsI ((k : Int) + 1) ((s.drop (k + 1)).take m) = (minsI ((k : Int) + 1) (s.drop (k + 1))).take m := by unfold minsI; rw [List.map_take]
    rw [e]
    omega

end Go.Proofs.Ytaemodpolopcfaa
