/-
  'AreFriends': the model's and the program's, by their contracts.
-/
import Derived.Test.YtgccapdjhnejcaaDoorOtherP
import Derived.Deep.RegionWith
namespace Go.Proofs.YtgccapdjhnejcaaDoor
open Go.RowKit

/-! ## People -/
def isMan (p a : Int) : Bool := decide (0 ≤ a ∧ a < p)
theorem isMan_yes {p a : Int} (h : 0 ≤ a ∧ a < p) : isMan p a = true := decide_eq_true h
theorem isMan_no {p a : Int} (h : ¬ (0 ≤ a ∧ a < p)) : isMan p a = false := decide_eq_false h
set_option maxHeartbeats 400000 in
theorem paHas_any (p a : Int) (A : Option Addr) (n c : Nat) (w : World) (hp : 0 ≤ p ∧ p ≤ 12) :
    Calls Tryd.prog 69 #[.agg #[.int .i64 p, .slice A n c], .int .i64 a] w fun e w' => e = .returned (.bool (isMan p a)) ∧ Below w.heap.size w w' := by
  obtain ⟨h0, h1⟩ := hp
  have e : l1InB a 0 (p - 1) = isMan p a := by
    unfold l1InB isMan
    rw [Bool.eq_iff_iff]
    simp
    omega
  have He := Lib.hid e
  clear e
  go_enter Tryd.func69, Tryd.ntmps69
  go_wp2_with fail
  refine (l1In_any _ _ _ _).mono ?_
  rw [He.out]
  rintro e w' ⟨rfl, rfl⟩
  go_wp2
  go_ret
  exact ⟨rfl, by go_grown⟩
set_option maxHeartbeats 400000 in
theorem isPerson_any (p a : Int) (A : Option Addr) (n c : Nat) (w : World) :
    Calls Tryd.prog 70 #[.agg #[.int .i64 p, .slice A n c], .int .i64 a] w fun e w' => e = .returned (.bool (isMan p a)) ∧ Below w.heap.size w w' := by
  by_cases h0 : 0 ≤ a
  · by_cases h1 : a < p
    · rw [isMan_yes ⟨h0, h1⟩]
      go_enter Tryd.func70, Tryd.ntmps70
      go_wp2
      go_ret
      exact ⟨rfl, by go_grown⟩
    · rw [isMan_no (by omega)]
      go_enter Tryd.func70, Tryd.ntmps70
      go_wp2
      go_ret
      exact ⟨rfl, by go_grown⟩
  · rw [isMan_no (by omega)]
    go_enter Tryd.func70, Tryd.ntmps70
    go_wp2
    go_ret
    exact ⟨rfl, by go_grown⟩

/-- a party and two different people -/
def isTwo (p : Int) (l : PL) (a b : Int) : Bool := isP p l && isMan p a && isMan p b && decide (a ≠ b)
theorem isTwo_parts {p : Int} {l : PL} {a b : Int} (h : isTwo p l a b = true) : isP p l = true ∧ (0 ≤ a ∧ a < p) ∧ (0 ≤ b ∧ b < p) ∧ a ≠ b := by
  simp only [isTwo, isMan, Bool.and_eq_true, decide_eq_true_eq] at h
  exact ⟨h.1.1.1, h.1.1.2, h.1.2, h.2⟩

/-! ## The pair of two people; whether it is among pairs -/
def indexP (x y : Int) (l : PL) : Int := if l.contains (x, y) then (l.idxOf (x, y) : Int) else -1
end Go.Proofs.YtgccapdjhnejcaaDoor
