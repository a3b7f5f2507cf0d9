/-
  PARTIES AS PLAIN LISTS: what a party is, how many pairs it can have. Nothing here speaks of the program.
-/
import Derived.Test.YtgccapdjhnejcaaDoorBase
namespace Go.Proofs.YtgccapdjhnejcaaDoor

def pairLess (a b : Int × Int) : Bool := decide (a.1 < b.1 ∨ a.1 = b.1 ∧ a.2 < b.2)
def goodAt (p : Int) (l : PL) (i : Nat) : Bool :=
  match l[i]? with
  | none => true
  | some (x, y) => decide (0 ≤ x ∧ x < y ∧ y < p) && (i == 0 || match l[i - 1]? with | none => true | some q => pairLess q (x, y))
def isP (p : Int) (l : PL) : Bool := decide (0 ≤ p ∧ p ≤ 12) && (List.range l.length).all (goodAt p l)

theorem isP_of (p : Int) (l : PL) (h0 : 0 ≤ p) (h1 : p ≤ 12) (h : ∀ i, i < l.length → goodAt p l i = true) : isP p l = true := by
  simp only [isP, Bool.and_eq_true, decide_eq_true_eq, List.all_eq_true, List.mem_range]
  exact ⟨⟨h0, h1⟩, h⟩
theorem isP_no (p : Int) (l : PL) {i : Nat} (hi : i < l.length) (h : goodAt p l i = false) : isP p l = false := by
  cases he : isP p l with
  | false => rfl
  | true =>
    simp only [isP, Bool.and_eq_true, decide_eq_true_eq, List.all_eq_true, List.mem_range] at he
    rw [he.2 i hi] at h
    cases h
theorem isP_out (p : Int) (l : PL) (h : p < 0 ∨ 12 < p) : isP p l = false := by
  simp only [isP, Bool.and_eq_false_iff, decide_eq_false_iff_not]
  left
  omega
theorem isP_range {p : Int} {l : PL} (h : isP p l = true) : 0 ≤ p ∧ p ≤ 12 := by
  simp only [isP, Bool.and_eq_true, decide_eq_true_eq] at h
  exact h.1
theorem isP_good {p : Int} {l : PL} (h : isP p l = true) {i : Nat} (hi : i < l.length) : goodAt p l i = true := by
  simp only [isP, Bool.and_eq_true, decide_eq_true_eq, List.all_eq_true, List.mem_range] at h
  exact h.2 i hi
theorem goodAt_pair {p : Int} {l : PL} {i : Nat} {x y : Int} (h : goodAt p l i = true) (hx : l[i]? = some (x, y)) : 0 ≤ x ∧ x < y ∧ y < p := by
  simp only [goodAt, hx, Bool.and_eq_true, decide_eq_true_eq] at h
  exact h.1
theorem goodAt_less {p : Int} {l : PL} {i : Nat} {x y x' y' : Int} (h : goodAt p l (i + 1) = true) (hx : l[i]? = some (x, y)) (hx' : l[i + 1]? = some (x', y')) : x < x' ∨ x = x' ∧ y < y' := by
  simp only [goodAt, hx', Nat.add_sub_cancel, hx, Bool.and_eq_true, Bool.or_eq_true, pairLess, decide_eq_true_eq] at h
  rcases h.2 with h | h
  · simp at h
  · exact h
theorem goodAt_first {p : Int} {l : PL} {x y : Int} (hx : l[0]? = some (x, y)) (h : 0 ≤ x ∧ x < y ∧ y < p) : goodAt p l 0 = true := by
  simp [goodAt, hx, h.1, h.2.1, h.2.2]
theorem goodAt_next {p : Int} {l : PL} {i : Nat} {x y x' y' : Int} (hx : l[i]? = some (x, y)) (hx' : l[i + 1]? = some (x', y')) (h : 0 ≤ x' ∧ x' < y' ∧ y' < p) (hl : x < x' ∨ x = x' ∧ y < y') : goodAt p l (i + 1) = true := by
  simp only [goodAt, hx', Nat.add_sub_cancel, hx, Bool.and_eq_true, Bool.or_eq_true, pairLess, decide_eq_true_eq]
  exact ⟨h, .inr hl⟩
theorem goodAt_bad {p : Int} {l : PL} {i : Nat} {x y : Int} (hx : l[i]? = some (x, y)) (h : ¬ (0 ≤ x ∧ x < y ∧ y < p)) : goodAt p l i = false := by
  simp only [goodAt, hx, Bool.and_eq_false_iff, decide_eq_false_iff_not]
  exact .inl h
theorem goodAt_stale {p : Int} {l : PL} {i : Nat} {x y x' y' : Int} (hx : l[i]? = some (x, y)) (hx' : l[i + 1]? = some (x', y')) (hl : ¬ (x < x' ∨ x = x' ∧ y < y')) : goodAt p l (i + 1) = false := by
  cases h : goodAt p l (i + 1) with
  | false => rfl
  | true => exact absurd (goodAt_less h hx hx') hl

theorem goodAt_zero {p : Int} {l : PL} {k : Nat} {x y : Int} (hk : k = 0) (hx : l[k]? = some (x, y)) (h : 0 ≤ x ∧ x < y ∧ y < p) : goodAt p l k = true := by subst hk; exact goodAt_first hx h
theorem goodAt_later {p : Int} {l : PL} {k : Nat} {x y x' y' : Int} (hk : 0 < k) (hx : l[k - 1]? = some (x, y)) (hx' : l[k]? = some (x', y')) (h : 0 ≤ x' ∧ x' < y' ∧ y' < p) (hl : x < x' ∨ x = x' ∧ y < y') : goodAt p l k = true := by
  obtain ⟨j, rfl⟩ : ∃ j, k = j + 1 := ⟨k - 1, by omega⟩
  exact goodAt_next hx hx' h hl
theorem goodAt_stale' {p : Int} {l : PL} {k : Nat} {x y x' y' : Int} (hk : 0 < k) (hx : l[k - 1]? = some (x, y)) (hx' : l[k]? = some (x', y')) (hl : ¬ (x < x' ∨ x = x' ∧ y < y')) : goodAt p l k = false := by
  obtain ⟨j, rfl⟩ : ∃ j, k = j + 1 := ⟨k - 1, by omega⟩
  exact goodAt_stale hx hx' hl

/-- Twice the number of pairs that come before a pair. -/
def rank2 (p x y : Int) : Int := 2 * (x * p) + 2 * y - x * x - 3 * x - 2
theorem small_cases {x : Int} (h0 : 0 ≤ x) (h1 : x ≤ 11) : x = 0 ∨ x = 1 ∨ x = 2 ∨ x = 3 ∨ x = 4 ∨ x = 5 ∨ x = 6 ∨ x = 7 ∨ x = 8 ∨ x = 9 ∨ x = 10 ∨ x = 11 := by omega
theorem rank2_step {p x y x' y' : Int} (hp : p ≤ 12) (h : 0 ≤ x ∧ x < y ∧ y < p) (h' : 0 ≤ x' ∧ x' < y' ∧ y' < p) (hl : x < x' ∨ x = x' ∧ y < y') : rank2 p x y + 2 ≤ rank2 p x' y' := by
  unfold rank2
  rcases small_cases h.1 (by omega) with rfl | rfl | rfl | rfl | rfl | rfl | rfl | rfl | rfl | rfl | rfl | rfl <;>
  rcases small_cases h'.1 (by omega) with rfl | rfl | rfl | rfl | rfl | rfl | rfl | rfl | rfl | rfl | rfl | rfl <;> omega
theorem rank2_lo {p x y : Int} (hp : p ≤ 12) (h : 0 ≤ x ∧ x < y ∧ y < p) : 0 ≤ rank2 p x y := by
  unfold rank2
  rcases small_cases h.1 (by omega) with rfl | rfl | rfl | rfl | rfl | rfl | rfl | rfl | rfl | rfl | rfl | rfl <;> omega
theorem people_cases {p : Int} (h0 : 0 ≤ p) (h1 : p ≤ 12) : p = 0 ∨ p = 1 ∨ p = 2 ∨ p = 3 ∨ p = 4 ∨ p = 5 ∨ p = 6 ∨ p = 7 ∨ p = 8 ∨ p = 9 ∨ p = 10 ∨ p = 11 ∨ p = 12 := by omega
theorem rank2_hi {p x y : Int} (hp : p ≤ 12) (h : 0 ≤ x ∧ x < y ∧ y < p) : rank2 p x y + 2 ≤ p * (p - 1) := by
  have h0 : 0 ≤ p := by omega
  unfold rank2
  rcases people_cases h0 hp with rfl | rfl | rfl | rfl | rfl | rfl | rfl | rfl | rfl | rfl | rfl | rfl | rfl <;>
  rcases small_cases h.1 (by omega) with rfl | rfl | rfl | rfl | rfl | rfl | rfl | rfl | rfl | rfl | rfl | rfl <;> omega
theorem people_sq {p : Int} (h0 : 0 ≤ p) (h1 : p ≤ 12) : 0 ≤ p * (p - 1) ∧ p * (p - 1) ≤ 132 := by
  rcases people_cases h0 h1 with rfl | rfl | rfl | rfl | rfl | rfl | rfl | rfl | rfl | rfl | rfl | rfl | rfl <;> omega
theorem isP_rank {p : Int} {l : PL} (h : isP p l = true) : ∀ (i : Nat) (x y : Int), l[i]? = some (x, y) → 2 * (i : Int) ≤ rank2 p x y := by
  intro i
  induction i with
  | zero =>
    intro x y hx
    have hl : 0 < l.length := (List.getElem?_eq_some_iff.1 hx).1
    have := rank2_lo (isP_range h).2 (goodAt_pair (isP_good h hl) hx)
    omega
  | succ i ih =>
    intro x y hx
    have hl : i + 1 < l.length := (List.getElem?_eq_some_iff.1 hx).1
    obtain ⟨⟨x', y'⟩, hx'⟩ := getSome l i (by omega)
    have h1 := ih _ _ hx'
    have h2 := rank2_step (isP_range h).2 (goodAt_pair (isP_good h (by omega)) hx') (goodAt_pair (isP_good h hl) hx) (goodAt_less (isP_good h hl) hx' hx)
    omega
/-- A party has no more pairs than there are. -/
theorem isP_length {p : Int} {l : PL} (h : isP p l = true) : 2 * (l.length : Int) ≤ p * (p - 1) := by
  have hr := isP_range h
  by_cases hl : l.length = 0
  · have := people_sq hr.1 hr.2
    omega
  · obtain ⟨⟨x, y⟩, hx⟩ := getSome l (l.length - 1) (by omega)
    have h1 := isP_rank h _ _ _ hx
    have h2 := rank2_hi hr.2 (goodAt_pair (isP_good h (by omega)) hx)
    omega
theorem isP_many {p : Int} {l : PL} (h : p * (p - 1) < 2 * (l.length : Int)) : isP p l = false := by
  cases he : isP p l with
  | false => rfl
  | true => have := isP_length he; omega
end Go.Proofs.YtgccapdjhnejcaaDoor
