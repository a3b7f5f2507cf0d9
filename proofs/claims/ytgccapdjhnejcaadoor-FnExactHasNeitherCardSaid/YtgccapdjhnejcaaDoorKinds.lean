/-
  'GroupBound', 'LeastMustHave', 'LeastOneKind': the model's and the program's, by their contracts.
-/
import Derived.Test.YtgccapdjhnejcaaDoorWays
namespace Go.Proofs.YtgccapdjhnejcaaDoor
open Go.RowKit

def kindsI (r s : Int) : Bool := decide (1 ≤ r ∧ r ≤ 4) && decide (1 ≤ s ∧ s ≤ 4)
theorem kindsI_yes {r s : Int} (h : kindsI r s = true) : (1 ≤ r ∧ r ≤ 4) ∧ (1 ≤ s ∧ s ≤ 4) := by simpa [kindsI] using h
set_option maxHeartbeats 1000000 in
theorem areWanted_any (r s : Int) (w : World) : Calls Tryd.prog 85 #[.int .i64 r, .int .i64 s] w fun e w' => e = .returned (.bool (kindsI r s)) ∧ w = w' := by
  by_cases h1 : 1 ≤ r
  · by_cases h2 : r ≤ 4
    · by_cases h3 : 1 ≤ s
      · by_cases h4 : s ≤ 4
        · have e : kindsI r s = true := by simp [kindsI, h1, h2, h3, h4]
          rw [e]
          clear e
          go_enter Tryd.func85, Tryd.ntmps85
          go_wp2
          go_ret
          exact ⟨rfl, rfl⟩
        · have e : kindsI r s = false := by simp [kindsI, h4]
          rw [e]
          clear e
          go_enter Tryd.func85, Tryd.ntmps85
          go_wp2
          go_ret
          exact ⟨rfl, rfl⟩
      · have e : kindsI r s = false := by simp [kindsI, h3]
        rw [e]
        clear e
        go_enter Tryd.func85, Tryd.ntmps85
        go_wp2
        go_ret
        exact ⟨rfl, rfl⟩
    · have e : kindsI r s = false := by simp [kindsI, h2]
      rw [e]
      clear e
      go_enter Tryd.func85, Tryd.ntmps85
      go_wp2
      go_ret
      exact ⟨rfl, rfl⟩
  · have e : kindsI r s = false := by simp [kindsI, h1]
    rw [e]
    clear e
    go_enter Tryd.func85, Tryd.ntmps85
    go_wp2
    go_ret
    exact ⟨rfl, rfl⟩
set_option maxHeartbeats 1000000 in
theorem trKinds_any (r s : Int) (w : World) : Calls Tryd.prog 83 #[.int .i64 r, .int .i64 s] w fun e w' => e = .returned (.bool (kindsI r s)) ∧ w = w' := by
  by_cases h1 : 1 ≤ r ∧ r ≤ 4
  · by_cases h2 : 1 ≤ s ∧ s ≤ 4
    · have e : kindsI r s = true := by simp [kindsI, h1, h2]
      rw [e]
      clear e
      go_enter Tryd.func83, Tryd.ntmps83
      go_wp2_with fail
      refine (l1In_yes r 1 4 h1.1 h1.2 _).mono ?_
      rintro e w' ⟨rfl, rfl⟩
      go_wp2_with fail
      refine (l1In_yes s 1 4 h2.1 h2.2 _).mono ?_
      rintro e w' ⟨rfl, rfl⟩
      go_wp2
      go_ret
      exact ⟨rfl, rfl⟩
    · have e : kindsI r s = false := by simp [kindsI, h2]
      rw [e]
      clear e
      go_enter Tryd.func83, Tryd.ntmps83
      go_wp2_with fail
      refine (l1In_yes r 1 4 h1.1 h1.2 _).mono ?_
      rintro e w' ⟨rfl, rfl⟩
      go_wp2_with fail
      refine (l1In_no s 1 4 (by omega) _).mono ?_
      rintro e w' ⟨rfl, rfl⟩
      go_wp2
      go_ret
      exact ⟨rfl, rfl⟩
  · have e : kindsI r s = false := by simp [kindsI, h1]
    rw [e]
    clear e
    go_enter Tryd.func83, Tryd.ntmps83
    go_wp2_with fail
    refine (l1In_no r 1 4 (by omega) _).mono ?_
    rintro e w' ⟨rfl, rfl⟩
    go_wp2
    go_ret
    exact ⟨rfl, rfl⟩

/-! ## GroupBound -/
def resGroupBound (r s : Int) : Int × Bool := if kindsI r s then (waysI (r + s - 2) (r - 1).toNat, true) else (0, false)
/-! ## LeastMustHave -/
def resLeastMustHave (r s : Int) : Int × Bool :=
  if kindsI r s && decide (r + s ≤ 7) then (if min r s = 1 then 1 else if min r s = 2 then max r s else if max r s = 3 then 6 else 9, true) else (0, false)
theorem four_cases {r : Int} (h : 1 ≤ r ∧ r ≤ 4) : r = 1 ∨ r = 2 ∨ r = 3 ∨ r = 4 := by omega
/-! ## LeastOneKind -/
def resLeastOneKind (n : Int) : Int × Bool := if 0 ≤ n ∧ n ≤ 12 then (waysI n 3 - (n * ((n - 1) * (n - 1)).tdiv 4).tdiv 2, true) else (0, false)
theorem thirteen {n : Int} (h : 0 ≤ n ∧ n ≤ 12) : n = 0 ∨ n = 1 ∨ n = 2 ∨ n = 3 ∨ n = 4 ∨ n = 5 ∨ n = 6 ∨ n = 7 ∨ n = 8 ∨ n = 9 ∨ n = 10 ∨ n = 11 ∨ n = 12 := by omega
end Go.Proofs.YtgccapdjhnejcaaDoor
