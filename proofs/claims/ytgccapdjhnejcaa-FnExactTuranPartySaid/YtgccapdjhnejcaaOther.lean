/-
  THE MODEL's PARTY WITH FRIENDS AND STRANGERS EXCHANGED, by its contract.
-/
import Derived.Test.YtgccapdjhnejcaaOf
namespace Go.Proofs.Ytgccapdjhnejcaa
open Go.RowKit

def otherP (n : Nat) (l : PL) : PL := (allP n).filter fun q => !l.contains q
theorem tabP_congr {n : Nat} {t t' : Nat → Nat → Bool} (h : ∀ i j, i < j → j < n → t i j = t' i j) : tabP n t = tabP n t' := by
  unfold tabP
  refine List.filter_congr fun q hq => ?_
  have := mem_allP.1 hq
  exact h _ _ (by omega) (by omega)
theorem tabP_contains {n : Nat} {l : PL} (f : Bool → Bool) (h : isP n l = true) : tabP n (fun i j => f (adj l i j)) = (allP n).filter fun q => f (l.contains q) := by
  unfold tabP
  refine List.filter_congr fun q hq => ?_
  have hm := mem_allP.1 hq
  show f (adj l q.1.toNat q.2.toNat) = _
  rw [adj_pair h (i := q.1.toNat) (j := q.2.toNat) (by omega)]
  have e : (((q.1.toNat : Nat) : Int), ((q.2.toNat : Nat) : Int)) = q := by
    obtain ⟨x, y⟩ := q
    simp only [Prod.mk.injEq]
    simp at hm
    omega
  rw [e]
theorem tabP_other {n : Nat} {l : PL} (h : isP n l = true) : tabP n (fun i j => !adj l i j) = otherP n l := tabP_contains (fun b => !b) h
theorem tabP_same {n : Nat} {l : PL} (h : isP n l = true) : tabP n (adj l) = l := (tabP_contains (fun b => b) h).trans (isP_filter h)

/-- the table in the middle of being turned -/
def turnT (t : Nat → Nat → Bool) (a b : Nat) : Nat → Nat → Bool := fun i j => if i < a ∨ i = a ∧ j < b then !t i j else t i j
theorem turnT_start (t : Nat → Nat → Bool) : turnT t 0 0 = t := by funext i j; simp [turnT]
theorem turnT_next (t : Nat → Nat → Bool) (a b : Nat) : upd (turnT t a b) a b (!t a b) = turnT t a (b + 1) := by
  funext i j
  unfold upd turnT
  by_cases h : i = a ∧ j = b
  · obtain ⟨rfl, rfl⟩ := h
    simp
  · rw [if_neg h]
    have : (i < a ∨ i = a ∧ j < b) ↔ (i < a ∨ i = a ∧ j < b + 1) := by omega
    simp only [this]
theorem turnT_row {n : Nat} (t : Nat → Nat → Bool) (a : Nat) : ∀ i j, i < n → j < n → turnT t a n i j = turnT t (a + 1) 0 i j := by
  intro i j hi hj
  unfold turnT
  have : (i < a ∨ i = a ∧ j < n) ↔ (i < a + 1 ∨ i = a + 1 ∧ j < 0) := by omega
  simp only [this]
theorem turnT_all {n : Nat} (t : Nat → Nat → Bool) : ∀ i j, i < n → j < n → turnT t n 0 i j = !t i j := by
  intro i j hi hj
  unfold turnT
  rw [if_pos (.inl hi)]
theorem turnT_at (t : Nat → Nat → Bool) (a b : Nat) : turnT t a b a b = t a b := by unfold turnT; rw [if_neg (by omega)]

end Go.Proofs.Ytgccapdjhnejcaa
