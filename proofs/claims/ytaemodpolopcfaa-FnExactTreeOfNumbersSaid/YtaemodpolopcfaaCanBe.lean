/-
  'CanBe', 'FailsAt', 'HangTogether': the model's and the program's, by their contracts.
-/
import Derived.Test.YtaemodpolopcfaaFails
namespace Go.Proofs.Ytaemodpolopcfaa
open Go.RowKit

theorem sumI_bound {q : List Int} (h : isNums q = true) : 0 ≤ sumI q ∧ sumI q ≤ 144 := by
  have hl := isNums_len h
  have hall : ∀ x ∈ q, 0 ≤ x ∧ x ≤ 12 := fun x hx => by have := isNums_mem h x hx; omega
  have h1 := sumI_take_bound (q := q) (m := 12) (by omega) hall q.length
  rw [List.take_length] at h1
  omega

def resCanBe (q : List Int) : Bool × Bool := if isNums q then (canI q, true) else (false, false)
/-! ## FailsAt -/
def resFailsAt (q : List Int) : Int × Bool := if isNums q then (failsI (fall q), decide (0 < failsI (fall q))) else (0, false)
end Go.Proofs.Ytaemodpolopcfaa
