/-
  TWO PARTIES TOGETHER: all of the one friends of all of the other, as lists and as tables; a table of both in the middle of being filled.
-/
import Derived.Test.YtgccapdjhnejcaaDoorJoin
namespace Go.Proofs.YtgccapdjhnejcaaDoor
open Go.RowKit

theorem other_isP {n : Nat} {l : PL} (h : isP n l = true) : isP n (otherP n l) = true := by
  have h12 := (isP_range h).2
  exact filter_isP (by omega) _
theorem adj_other {n : Nat} {l : PL} (h : isP n l = true) {i j : Nat} (hij : i < j) (hj : j < n) : adj (otherP n l) i j = !adj l i j := by
  rw [adj_pair (other_isP h) hij, adj_pair h hij, Bool.eq_iff_iff, List.contains_iff_mem]
  unfold otherP
  rw [List.mem_filter, mem_allP]
  constructor
  · intro h; exact h.2
  · intro h; exact ⟨⟨by simp only; omega, by simp only; omega, by simp only; omega⟩, h⟩
def togetherP (p s : Nat) (l m : PL) : PL := otherP (p + s) (besideP p (otherP p l) (otherP s m))
theorem beside_isP {p s : Nat} {l m : PL} (hl : isP p l = true) (hm : isP s m = true) (h : p + s ≤ 12) : isP ((p + s : Nat) : Int) (besideP p l m) = true := by
  have := beside_list (p := p) (s := s) hl hm (by omega)
  have e : ((p + s : Nat) : Int) = (p : Int) + s := by omega
  rw [e]
  exact isP_of_list this
theorem tabP_together {p s : Nat} {l m : PL} (hl : isP p l = true) (hm : isP s m = true) (h : p + s ≤ 12) : tabP (p + s) (joinT p (adj l) (adj m) true) = togetherP p s l m := by
  have ho := other_isP hl
  have ho' := other_isP hm
  unfold togetherP
  rw [← tabP_other (beside_isP ho ho' h)]
  refine tabP_congr fun i j hij hj => ?_
  have hB := beside_isP ho ho' h
  rw [adj_pair hB hij]
  have e := joinT_adj ho ho' hij
  have e' : (besideP (p : Int) (otherP p l) (otherP s m)).contains ((i : Int), (j : Int)) = joinT p (adj (otherP p l)) (adj (otherP s m)) false i j := by
    rw [Bool.eq_iff_iff, List.contains_iff_mem, e]
  rw [e']
  unfold joinT
  by_cases hj' : j < p
  · rw [if_pos (show i < p by omega), if_pos hj', if_pos (show i < p by omega), if_pos hj', adj_other hl hij hj', Bool.not_not]
  · by_cases hi' : i < p
    · simp [hi', hj']
    · rw [if_neg hi', if_neg hj', if_neg hi', if_neg hj', adj_other hm (by omega) (by omega), Bool.not_not]

/-! ## The table of both, in the middle of being filled -/
/-- the first a rows of the one, its first p cells -/
def fillA (p : Nat) (t : Nat → Nat → Bool) (a : Nat) : Nat → Nat → Bool := fun i j => if i < a ∧ j < p then t i j else false
/-- the other one's too, its first a rows -/
def fillB (p : Nat) (t t' : Nat → Nat → Bool) (a : Nat) : Nat → Nat → Bool := fun i j => if i < p ∧ j < p then t i j else if p ≤ i ∧ i < p + a ∧ p ≤ j then t' (i - p) (j - p) else false
/-- what is between them: the first a rows, and of the next one up to b -/
def fillC (p : Nat) (t t' : Nat → Nat → Bool) (x : Bool) (a b : Nat) : Nat → Nat → Bool := fun i j =>
  if i < p ∧ j < p then t i j else if p ≤ i ∧ p ≤ j then t' (i - p) (j - p) else if i < p then (if i < a ∨ i = a ∧ j < b then x else false) else if j < a ∨ j = a ∧ i < b then x else false
theorem fillC_next (p : Nat) (t t' : Nat → Nat → Bool) (x : Bool) {a b : Nat} (ha : a < p) (hb : p ≤ b) : upd (upd (fillC p t t' x a b) a b x) b a x = fillC p t t' x a (b + 1) := by
  funext i j
  unfold upd fillC
  by_cases h1 : i = b ∧ j = a
  · obtain ⟨rfl, rfl⟩ := h1
    rw [if_pos ⟨rfl, rfl⟩, if_neg (by omega), if_neg (by omega), if_neg (by omega), if_pos (by omega)]
  · rw [if_neg h1]
    by_cases h2 : i = a ∧ j = b
    · obtain ⟨rfl, rfl⟩ := h2
      rw [if_pos ⟨rfl, rfl⟩, if_neg (by omega), if_neg (by omega), if_pos (by omega), if_pos (by omega)]
    · rw [if_neg h2]
      by_cases c1 : i < p ∧ j < p
      · rw [if_pos c1, if_pos c1]
      · rw [if_neg c1, if_neg c1]
        by_cases c2 : p ≤ i ∧ p ≤ j
        · rw [if_pos c2, if_pos c2]
        · rw [if_neg c2, if_neg c2]
          by_cases c3 : i < p
          · rw [if_pos c3, if_pos c3]
            have : (i < a ∨ i = a ∧ j < b) ↔ (i < a ∨ i = a ∧ j < b + 1) := by omega
            simp only [this]
          · rw [if_neg c3, if_neg c3]
            have : (j < a ∨ j = a ∧ i < b) ↔ (j < a ∨ j = a ∧ i < b + 1) := by omega
            simp only [this]
theorem fillC_row {n : Nat} (p : Nat) (t t' : Nat → Nat → Bool) (x : Bool) (a : Nat) : ∀ i j, i < n → j < n → fillC p t t' x a n i j = fillC p t t' x (a + 1) p i j := by
  intro i j hi hj
  unfold fillC
  by_cases c1 : i < p ∧ j < p
  · rw [if_pos c1, if_pos c1]
  · rw [if_neg c1, if_neg c1]
    by_cases c2 : p ≤ i ∧ p ≤ j
    · rw [if_pos c2, if_pos c2]
    · rw [if_neg c2, if_neg c2]
      by_cases c3 : i < p
      · rw [if_pos c3, if_pos c3]
        have : (i < a ∨ i = a ∧ j < n) ↔ (i < a + 1 ∨ i = a + 1 ∧ j < p) := by omega
        simp only [this]
      · rw [if_neg c3, if_neg c3]
        have : (j < a ∨ j = a ∧ i < n) ↔ (j < a + 1 ∨ j = a + 1 ∧ i < p) := by omega
        simp only [this]
theorem fillC_start {n : Nat} (p s : Nat) (t t' : Nat → Nat → Bool) (x : Bool) (hn : n = p + s) : ∀ i j, i < n → j < n → fillB p t t' s i j = fillC p t t' x 0 p i j := by
  intro i j hi hj
  unfold fillB fillC
  by_cases c1 : i < p ∧ j < p
  · rw [if_pos c1, if_pos c1]
  · rw [if_neg c1, if_neg c1]
    by_cases c2 : p ≤ i ∧ p ≤ j
    · rw [if_pos c2, if_pos (by omega)]
    · rw [if_neg c2, if_neg (by omega)]
      by_cases c3 : i < p
      · rw [if_pos c3, if_neg (by omega)]
      · rw [if_neg c3, if_neg (by omega)]
theorem fillC_all {n : Nat} (p : Nat) (t t' : Nat → Nat → Bool) (x : Bool) (b : Nat) : ∀ i j, i < n → j < n → fillC p t t' x p b i j = joinT p t t' x i j := by
  intro i j hi hj
  unfold fillC joinT
  by_cases c1 : i < p
  · by_cases c2 : j < p
    · simp [c1, c2]
    · rw [if_neg (by omega), if_neg (by omega), if_pos c1, if_pos (by omega), if_pos c1, if_neg c2]
  · by_cases c2 : j < p
    · rw [if_neg (by omega), if_neg (by omega), if_neg c1, if_pos (by omega), if_neg c1, if_pos c2]
    · rw [if_neg (by omega), if_pos (by omega), if_neg c1, if_neg c2]
theorem fillA_start (p : Nat) (t : Nat → Nat → Bool) : fillA p t 0 = fun _ _ => false := by funext i j; simp [fillA]
theorem fillB_start (p : Nat) (t t' : Nat → Nat → Bool) : fillB p t t' 0 = fillA p t p := by
  funext i j
  unfold fillB fillA
  by_cases c : i < p ∧ j < p
  · rw [if_pos c, if_pos c]
  · rw [if_neg c, if_neg c, if_neg (by omega)]
end Go.Proofs.YtgccapdjhnejcaaDoor
