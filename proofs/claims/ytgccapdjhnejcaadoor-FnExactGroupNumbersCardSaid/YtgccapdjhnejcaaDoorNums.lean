/-
  LISTS OF NUMBERS OF FRIENDS AS PLAIN LISTS: what numbers are; sorted so that they are falling; sums; where they fail. Nothing here speaks of the program.
-/
import Derived.Test.YtgccapdjhnejcaaDoorBase
namespace Go.Proofs.YtgccapdjhnejcaaDoor

def isNums (q : List Int) : Bool := decide (q.length ≤ 12) && q.all fun x => decide (0 ≤ x ∧ x < q.length)
theorem isNums_len {q : List Int} (h : isNums q = true) : q.length ≤ 12 := by
  simp only [isNums, Bool.and_eq_true, decide_eq_true_eq] at h
  exact h.1
theorem isNums_mem {q : List Int} (h : isNums q = true) : ∀ x ∈ q, 0 ≤ x ∧ x < q.length := by
  simp only [isNums, Bool.and_eq_true, List.all_eq_true, decide_eq_true_eq] at h
  exact h.2
theorem isNums_at {q : List Int} (h : isNums q = true) {k : Nat} {x : Int} (hx : q[k]? = some x) : 0 ≤ x ∧ x < q.length := isNums_mem h x (List.mem_of_getElem? hx)
theorem isNums_of {q : List Int} (h : q.length ≤ 12) (h2 : ∀ (k : Nat) (x : Int), k < q.length → q[k]? = some x → 0 ≤ x ∧ x < q.length) : isNums q = true := by
  simp only [isNums, Bool.and_eq_true, List.all_eq_true, decide_eq_true_eq]
  refine ⟨h, fun x hx => ?_⟩
  obtain ⟨i, hi, rfl⟩ := List.getElem_of_mem hx
  exact h2 i _ hi (List.getElem?_eq_getElem hi)
theorem isNums_bad {q : List Int} {k : Nat} {x : Int} (hx : q[k]? = some x) (h : ¬ (0 ≤ x ∧ x < q.length)) : isNums q = false := by
  cases he : isNums q with
  | false => rfl
  | true => exact absurd (isNums_at he hx) h
theorem isNums_many {q : List Int} (h : 12 < q.length) : isNums q = false := by
  cases he : isNums q with
  | false => rfl
  | true => have := isNums_len he; omega

/-! ## Falling -/
def fall (q : List Int) : List Int := q.mergeSort fun x y => decide (y ≤ x)
theorem fall_perm (q : List Int) : (fall q).Perm q := List.mergeSort_perm _ _
theorem fall_length (q : List Int) : (fall q).length = q.length := (fall_perm q).length_eq
theorem fall_mem {q : List Int} {x : Int} : x ∈ fall q ↔ x ∈ q := (fall_perm q).mem_iff
theorem fall_sorted (q : List Int) : (fall q).Pairwise fun x y => y ≤ x := by
  have h := List.pairwise_mergeSort (le := fun x y : Int => decide (y ≤ x)) (by intro a b c; simp; omega) (by intro a b; simp; omega) q
  exact h.imp (by simp)
theorem fall_unique {l q : List Int} (hs : l.Pairwise fun x y => y ≤ x) (hp : l.Perm q) : l = fall q :=
  List.Perm.eq_of_pairwise (le := fun x y : Int => y ≤ x) (fun a b _ _ h1 h2 => by omega) hs (fall_sorted q) (hp.trans (fall_perm q).symm)
theorem fall_nums {q : List Int} (h : isNums q = true) : isNums (fall q) = true := by
  refine isNums_of (by rw [fall_length]; exact isNums_len h) fun k x _ hx => ?_
  have := isNums_mem h x (fall_mem.1 (List.mem_of_getElem? hx))
  rw [fall_length]
  exact this

/-- the numbers from n down, j of them, each as often as it is in the list -/
def blockI (q : List Int) (x : Int) : List Int := q.filter fun y => decide (x = y)
def descI (q : List Int) (n j : Nat) : List Int := (List.range j).flatMap fun i : Nat => blockI q ((n : Int) - (i : Int))
theorem descI_zero (q : List Int) (n : Nat) : descI q n 0 = [] := rfl
theorem descI_next (q : List Int) (n j : Nat) : descI q n (j + 1) = descI q n j ++ blockI q ((n : Int) - j) := by
  unfold descI
  rw [List.range_succ, List.flatMap_append]
  simp
theorem blockI_snoc (q : List Int) (x y : Int) : blockI (q ++ [y]) x = blockI q x ++ if x = y then [y] else [] := by
  unfold blockI
  rw [List.filter_append]
  congr 1
  by_cases h : x = y
  · rw [if_pos h, List.filter_cons_of_pos (by simpa using h)]; rfl
  · rw [if_neg h, List.filter_cons_of_neg (by simpa using h)]; rfl
theorem mem_blockI {q : List Int} {x y : Int} : y ∈ blockI q x ↔ y ∈ q ∧ x = y := by simp [blockI]
theorem mem_descI {q : List Int} {n j : Nat} {y : Int} : y ∈ descI q n j ↔ y ∈ q ∧ (n : Int) - j < y ∧ y ≤ n := by
  simp only [descI, List.mem_flatMap, List.mem_range, mem_blockI]
  constructor
  · rintro ⟨i, hi, hy, rfl⟩; exact ⟨hy, by omega, by omega⟩
  · rintro ⟨hy, h1, h2⟩; exact ⟨((n : Int) - y).toNat, by omega, hy, by omega⟩
theorem descI_sorted (q : List Int) (n j : Nat) : (descI q n j).Pairwise fun x y => y ≤ x := by
  induction j with
  | zero => exact List.Pairwise.nil
  | succ j ih =>
    rw [descI_next, List.pairwise_append]
    refine ⟨ih, ?_, fun a ha b hb => ?_⟩
    · rw [List.pairwise_iff_getElem]
      intro a b ha hb _
      have h1 := (mem_blockI.1 (List.getElem_mem ha)).2
      have h2 := (mem_blockI.1 (List.getElem_mem hb)).2
      omega
    · have h1 := mem_descI.1 ha
      have h2 := (mem_blockI.1 hb).2
      omega
theorem count_blockI (q : List Int) (x y : Int) : (blockI q x).count y = if x = y then q.count y else 0 := by
  unfold blockI
  by_cases h : x = y
  · subst h
    rw [if_pos rfl, List.count_filter (by simp)]
  · rw [if_neg h, List.count_eq_zero]
    intro hm
    exact h (by simpa using (List.mem_filter.1 hm).2)
theorem count_descI (q : List Int) (n j : Nat) (y : Int) : (descI q n j).count y = if (n : Int) - j < y ∧ y ≤ n then q.count y else 0 := by
  induction j with
  | zero => rw [descI_zero, if_neg (by omega)]; rfl
  | succ j ih =>
    rw [descI_next, List.count_append, ih, count_blockI]
    by_cases h1 : (n : Int) - j = y
    · rw [if_pos h1, if_neg (by omega), if_pos (by omega), Nat.zero_add]
    · rw [if_neg h1, Nat.add_zero]
      by_cases h2 : (n : Int) - j < y ∧ y ≤ n
      · rw [if_pos h2, if_pos (by omega)]
      · rw [if_neg h2, if_neg (by omega)]
theorem descI_fall {q : List Int} (h : isNums q = true) : descI q q.length (q.length + 1) = fall q := by
  refine fall_unique (descI_sorted _ _ _) (List.perm_iff_count.2 fun y => ?_)
  rw [count_descI]
  split
  · rfl
  · rename_i hn
    symm
    rw [List.count_eq_zero]
    intro hy
    have := isNums_mem h y hy
    omega
theorem descI_le (q : List Int) (n j : Nat) : (descI q n j).length ≤ j * q.length := by
  induction j with
  | zero => simp [descI_zero]
  | succ j ih =>
    rw [descI_next, List.length_append, Nat.add_mul, Nat.one_mul]
    have : (blockI q ((n : Int) - j)).length ≤ q.length := List.length_filter_le _ _
    omega
theorem blockI_le (q : List Int) (x : Int) : (blockI q x).length ≤ q.length := List.length_filter_le _ _

/-! ## Sums -/
def sumI (q : List Int) : Int := q.foldl (· + ·) 0
theorem sumI_snoc (q : List Int) (x : Int) : sumI (q ++ [x]) = sumI q + x := by simp [sumI, List.foldl_append]
theorem sumI_nil : sumI [] = 0 := rfl
/-- a bound of the sum of a beginning -/
theorem sumI_take_bound {q : List Int} {m : Int} (hm : 0 ≤ m) (h : ∀ x ∈ q, 0 ≤ x ∧ x ≤ m) : ∀ k, 0 ≤ sumI (q.take k) ∧ sumI (q.take k) ≤ k * m := by
  intro k
  induction k with
  | zero => simp [sumI_nil]
  | succ k ih =>
    rw [List.take_add_one]
    have e : ((k + 1 : Nat) : Int) * m = k * m + m := by rw [Int.natCast_add, Int.add_mul]; simp
    rw [e]
    cases hx : q[k]? with
    | none => simp; omega
    | some x =>
      have := h x (List.mem_of_getElem? hx)
      rw [Option.toList_some, sumI_snoc]
      omega
theorem sumI_perm {q l : List Int} (h : q.Perm l) : sumI q = sumI l := by
  unfold sumI
  exact h.foldl_eq' (fun x _ y _ z => by omega) 0

/-! ## Where numbers fail -/
def minsI (k : Int) (q : List Int) : List Int := q.map fun x => if k < x then k else x
theorem minsI_snoc (k : Int) (q : List Int) (x : Int) : minsI k (q ++ [x]) = minsI k q ++ [if k < x then k else x] := by simp [minsI]
def mostI (s : List Int) (k : Nat) : Int := (k : Int) * (k - 1) + sumI (minsI k (s.drop k))
def failAt (s : List Int) (k : Nat) : Bool := decide (mostI s k < sumI (s.take k))
def failsI (s : List Int) : Int := match (List.range s.length).find? fun i => failAt s (i + 1) with | none => 0 | some i => (i : Int) + 1
theorem failsI_at {s : List Int} {k : Nat} (hk : k < s.length) (h : ∀ j, j < k → failAt s (j + 1) = false) (hf : failAt s (k + 1) = true) : failsI s = k + 1 := by
  have : (List.range s.length).find? (fun i => failAt s (i + 1)) = some k := by
    rw [List.find?_range_eq_some]
    exact ⟨hf, by simpa using hk, fun j hj => by simp [h j hj]⟩
  unfold failsI
  rw [this]
theorem failsI_none {s : List Int} (h : ∀ j, j < s.length → failAt s (j + 1) = false) : failsI s = 0 := by
  have : (List.range s.length).find? (fun i => failAt s (i + 1)) = none := by
    rw [List.find?_range_eq_none]
    intro j hj
    simp [h j hj]
  unfold failsI
  rw [this]
theorem failsI_range (s : List Int) : 0 ≤ failsI s ∧ failsI s ≤ s.length := by
  unfold failsI
  split
  · omega
  · rename_i i hi
    have := List.mem_of_find?_eq_some hi
    rw [List.mem_range] at this
    omega
theorem minsI_bound {s : List Int} {m k : Int} (hk : 0 ≤ k) (h : ∀ x ∈ s, 0 ≤ x ∧ x ≤ m) : ∀ x ∈ minsI k s, 0 ≤ x ∧ x ≤ m := by
  intro x hx
  obtain ⟨y, hy, rfl⟩ := List.mem_map.1 hx
  have := h y hy
  split <;> omega
/-- they can be -/
def canI (q : List Int) : Bool := decide (sumI q % 2 = 0) && decide (failsI (fall q) = 0)
end Go.Proofs.YtgccapdjhnejcaaDoor
