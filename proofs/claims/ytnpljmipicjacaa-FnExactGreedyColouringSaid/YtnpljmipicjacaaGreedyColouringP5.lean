/-
  Texts put together for the claim of 'GreedyColouring' (pack 5): ChooseP, Ways, GroupP, GroupS, TrG, CountG, GreedI, Ints, LawGreedyColouring, Head, Facts.
-/
import Derived.Test.YtnpljmipicjacaaGreedyColouringP1
import Derived.Test.YtnpljmipicjacaaGreedyColouringP2
import Derived.Test.YtnpljmipicjacaaGreedyColouringP3
import Derived.Test.YtnpljmipicjacaaGreedyColouringP4
import Derived.BigRegion
import Derived.Deep.RegionHeld3
import Derived.Test.YtnpljmipicjacaaRows
/-
  PEOPLE CHOSEN AND RENAMED, as plain lists and as tables. Nothing here speaks of the program.
-/
namespace Go.Proofs.Ytnpljmipicjacaa
open Go.RowKit

def choiceAt (p : Int) (q : List Int) (i : Nat) : Bool :=
  match q[i]? with
  | none => true
  | some x => decide (0 ≤ x ∧ x < p) && (i == 0 || match q[i - 1]? with | none => true | some y => decide (y < x))
/-- an increasing list of some of p people -/
def isChoiceI (p : Int) (q : List Int) : Bool := (List.range q.length).all (choiceAt p q)
theorem isChoiceI_of {p : Int} {q : List Int} (h : ∀ i, i < q.length → choiceAt p q i = true) : isChoiceI p q = true := by
  simp only [isChoiceI, List.all_eq_true, List.mem_range]
  exact h
theorem isChoiceI_no {p : Int} {q : List Int} {i : Nat} (hi : i < q.length) (h : choiceAt p q i = false) : isChoiceI p q = false := by
  cases he : isChoiceI p q with
  | false => rfl
  | true =>
    simp only [isChoiceI, List.all_eq_true, List.mem_range] at he
    rw [he i hi] at h
    cases h
theorem isChoiceI_good {p : Int} {q : List Int} (h : isChoiceI p q = true) {i : Nat} (hi : i < q.length) : choiceAt p q i = true := by
  simp only [isChoiceI, List.all_eq_true, List.mem_range] at h
  exact h i hi
theorem choiceAt_man {p : Int} {q : List Int} {i : Nat} {x : Int} (h : choiceAt p q i = true) (hx : q[i]? = some x) : 0 ≤ x ∧ x < p := by
  simp only [choiceAt, hx, Bool.and_eq_true, decide_eq_true_eq] at h
  exact h.1
theorem choiceAt_less {p : Int} {q : List Int} {i : Nat} {x y : Int} (h : choiceAt p q (i + 1) = true) (hx : q[i]? = some x) (hy : q[i + 1]? = some y) : x < y := by
  simp only [choiceAt, hy, Nat.add_sub_cancel, hx, Bool.and_eq_true, Bool.or_eq_true, decide_eq_true_eq] at h
  rcases h.2 with h | h
  · simp at h
  · exact h
theorem choiceAt_zero {p : Int} {q : List Int} {k : Nat} {x : Int} (hk : k = 0) (hx : q[k]? = some x) (h : 0 ≤ x ∧ x < p) : choiceAt p q k = true := by
  subst hk
  simp [choiceAt, hx, h.1, h.2]
theorem choiceAt_later {p : Int} {q : List Int} {k : Nat} {x y : Int} (_hk : 0 < k) (hx : q[k - 1]? = some x) (hy : q[k]? = some y) (h : 0 ≤ y ∧ y < p) (hl : x < y) : choiceAt p q k = true := by
  simp [choiceAt, hx, hy, h.1, h.2, hl]
theorem choiceAt_bad {p : Int} {q : List Int} {k : Nat} {x : Int} (hx : q[k]? = some x) (h : ¬ (0 ≤ x ∧ x < p)) : choiceAt p q k = false := by
  simp only [choiceAt, hx, Bool.and_eq_false_iff, decide_eq_false_iff_not]
  exact .inl h
theorem choiceAt_stale {p : Int} {q : List Int} {k : Nat} {x y : Int} (hk : 0 < k) (hx : q[k - 1]? = some x) (hy : q[k]? = some y) (hl : ¬ x < y) : choiceAt p q k = false := by
  cases h : choiceAt p q k with
  | false => rfl
  | true =>
    obtain ⟨j, rfl⟩ : ∃ j, k = j + 1 := ⟨k - 1, by omega⟩
    exact absurd (choiceAt_less h hx hy) hl
theorem isChoiceI_sorted {p : Int} {q : List Int} (h : isChoiceI p q = true) : q.Pairwise (· < ·) := by
  rw [List.pairwise_iff_getElem]
  have step : ∀ (d i : Nat) (hi : i < q.length) (hj : i + d + 1 < q.length), q[i] < q[i + d + 1] := by
    intro d
    induction d with
    | zero => intro i hi hj; exact choiceAt_less (isChoiceI_good h hj) (List.getElem?_eq_getElem (by omega)) (List.getElem?_eq_getElem hj)
    | succ d ih =>
      intro i hi hj
      have h1 := ih i hi (by omega)
      have h2 := choiceAt_less (p := p) (q := q) (i := i + d + 1) (isChoiceI_good h (by omega)) (List.getElem?_eq_getElem (by omega)) (List.getElem?_eq_getElem (by omega))
      exact Int.lt_trans h1 h2
  intro i j hi hj hij
  have e : j = i + (j - i - 1) + 1 := by omega
  have := step (j - i - 1) i hi (by omega)
  simpa only [← e] using this
theorem isChoiceI_mem {p : Int} {q : List Int} (h : isChoiceI p q = true) : ∀ x ∈ q, 0 ≤ x ∧ x < p := by
  intro x hx
  obtain ⟨i, hi, rfl⟩ := List.getElem_of_mem hx
  exact choiceAt_man (isChoiceI_good h hi) (List.getElem?_eq_getElem hi)
theorem isChoiceI_long {p : Int} {q : List Int} (h : isChoiceI p q = true) : (q.length : Int) ≤ p ∨ q = [] := by
  have hs := isChoiceI_sorted h
  have low : ∀ (i : Nat) (x : Int), q[i]? = some x → (i : Int) ≤ x := by
    intro i
    induction i with
    | zero => intro x hx; exact (isChoiceI_mem h x (List.mem_of_getElem? hx)).1
    | succ i ih =>
      intro x hx
      have hl : i + 1 < q.length := (List.getElem?_eq_some_iff.1 hx).1
      obtain ⟨y, hy⟩ := getSome q i (by omega)
      have h1 := ih y hy
      have h2 := choiceAt_less (isChoiceI_good h hl) hy hx
      omega
  by_cases hl : q.length = 0
  · exact .inr (List.eq_nil_of_length_eq_zero hl)
  · obtain ⟨x, hx⟩ := getSome q (q.length - 1) (by omega)
    have h1 := low _ _ hx
    have h2 := (isChoiceI_mem h x (List.mem_of_getElem? hx)).2
    left
    omega

theorem countP_at : ∀ (q : List Int), q.Pairwise (· < ·) → ∀ (i : Nat) (x : Int), q[i]? = some x → q.countP (fun y => decide (y < x)) = i
  | [], _, i, x, h => by simp at h
  | a :: q, hs, 0, x, h => by
    simp only [List.getElem?_cons_zero, Option.some.injEq] at h
    subst h
    rw [List.pairwise_cons] at hs
    rw [List.countP_eq_zero]
    intro b hb
    rcases List.mem_cons.1 hb with rfl | hb
    · simp
    · have := hs.1 b hb
      simp only [decide_eq_true_eq]
      omega
  | a :: q, hs, i + 1, x, h => by
    rw [List.pairwise_cons] at hs
    have hx : q[i]? = some x := by simpa using h
    have := hs.1 x (List.mem_of_getElem? hx)
    rw [List.countP_cons_of_pos (by simpa using this), countP_at q hs.2 i x hx]

/-- how many of a list are less -/
def ltI (q : List Int) (x : Int) : Int := ((q.countP (· < x) : Nat) : Int)
theorem ltI_at {q : List Int} (hs : q.Pairwise (· < ·)) {i : Nat} {x : Int} (hx : q[i]? = some x) : ltI q x = i := by
  unfold ltI
  rw [countP_at q hs i x hx]
theorem ltI_mem {q : List Int} (hs : q.Pairwise (· < ·)) {x : Int} (hx : x ∈ q) : ∃ i : Nat, ltI q x = i ∧ q[i]? = some x := by
  obtain ⟨i, hi, rfl⟩ := List.getElem_of_mem hx
  exact ⟨i, ltI_at hs (List.getElem?_eq_getElem hi), List.getElem?_eq_getElem hi⟩
theorem ltI_le (q : List Int) (x : Int) : 0 ≤ ltI q x ∧ ltI q x ≤ q.length := by
  unfold ltI
  have := List.countP_le_length (p := fun y => decide (y < x)) (l := q)
  omega
/-- the pairs of the people chosen -/
def chooseP (l : PL) (q : List Int) : PL := l.filterMap fun r => if q.contains r.1 = true ∧ q.contains r.2 = true then some (ltI q r.1, ltI q r.2) else none
theorem chooseP_snoc (l : PL) (q : List Int) (x y : Int) : chooseP (l ++ [(x, y)]) q = chooseP l q ++ if q.contains x = true ∧ q.contains y = true then [(ltI q x, ltI q y)] else [] := by
  unfold chooseP
  rw [List.filterMap_append]
  congr 1
  by_cases h : q.contains x = true ∧ q.contains y = true
  · rw [if_pos h, List.filterMap_cons_some (by rw [if_pos h]), List.filterMap_nil]
  · rw [if_neg h, List.filterMap_cons_none (by rw [if_neg h]), List.filterMap_nil]
theorem chooseP_le (l : PL) (q : List Int) : (chooseP l q).length ≤ l.length := List.length_filterMap_le _ _
def gI (q : List Int) (i : Nat) : Nat := (q.getD i 0).toNat
def chosenT (l : PL) (q : List Int) (i j : Nat) : Bool := adj l (gI q i) (gI q j)
theorem gI_at {q : List Int} {i : Nat} {x : Int} (hx : q[i]? = some x) (h0 : 0 ≤ x) : ((gI q i : Nat) : Int) = x := by
  unfold gI
  rw [List.getD_eq_getElem?_getD, hx]
  simp only [Option.getD_some]
  omega
theorem mem_chooseP {l : PL} {q : List Int} {r : Int × Int} : r ∈ chooseP l q ↔ ∃ s ∈ l, s.1 ∈ q ∧ s.2 ∈ q ∧ r = (ltI q s.1, ltI q s.2) := by
  unfold chooseP
  rw [List.mem_filterMap]
  constructor
  · rintro ⟨s, hs, h⟩
    split at h
    · rename_i hc
      rw [List.contains_iff_mem, List.contains_iff_mem] at hc
      exact ⟨s, hs, hc.1, hc.2, by simpa using h.symm⟩
    · cases h
  · rintro ⟨s, hs, h1, h2, rfl⟩
    refine ⟨s, hs, ?_⟩
    rw [if_pos (by rw [List.contains_iff_mem, List.contains_iff_mem]; exact ⟨h1, h2⟩)]
theorem chooseP_list {p : Int} {l : PL} {q : List Int} (hp : isP p l = true) (hq : isChoiceI p q = true) : IsList q.length (chooseP l q) := by
  have hr := isP_range hp
  obtain ⟨_, _, hm, hs⟩ := isP_list hp
  have hqs := isChoiceI_sorted hq
  have hmono : ∀ x y, x ∈ q → y ∈ q → x < y → ltI q x < ltI q y := by
    intro x y hx hy hxy
    obtain ⟨i, ei, hi⟩ := ltI_mem hqs hx
    obtain ⟨j, ej, hj⟩ := ltI_mem hqs hy
    rw [ei, ej]
    have hil : i < q.length := (List.getElem?_eq_some_iff.1 hi).1
    have hjl : j < q.length := (List.getElem?_eq_some_iff.1 hj).1
    have e1 : q[i] = x := by rw [List.getElem?_eq_getElem hil] at hi; simpa using hi
    have e2 : q[j] = y := by rw [List.getElem?_eq_getElem hjl] at hj; simpa using hj
    rcases Nat.lt_trichotomy i j with h | h | h
    · omega
    · subst h; omega
    · have := (List.pairwise_iff_getElem.1 hqs) j i hjl hil h
      omega
  have hlen : (q.length : Int) ≤ 12 := by
    rcases isChoiceI_long hq with h | h
    · omega
    · simp [h]
  refine ⟨by omega, hlen, fun r hr => ?_, ?_⟩
  · obtain ⟨s, hsl, h1, h2, rfl⟩ := mem_chooseP.1 hr
    have h3 := hmono _ _ h1 h2 (hm s hsl).2.1
    obtain ⟨j, ej, hj⟩ := ltI_mem hqs h2
    have hjl : j < q.length := (List.getElem?_eq_some_iff.1 hj).1
    have := ltI_le q s.1
    simp only
    omega
  · unfold chooseP
    rw [List.pairwise_filterMap]
    refine List.Pairwise.imp (fun {a b} hlt u hu v hv => ?_) hs
    split at hu
    · split at hv
      · rename_i h1 h2
        rw [List.contains_iff_mem, List.contains_iff_mem] at h1 h2
        simp only [Option.some.injEq] at hu hv
        subst hu
        subst hv
        unfold plt at hlt ⊢
        rcases hlt with hlt | ⟨e, hlt⟩
        · exact .inl (hmono _ _ h1.1 h2.1 hlt)
        · exact .inr ⟨by simp only; rw [e], hmono _ _ h1.2 h2.2 hlt⟩
      · cases hv
    · cases hu
theorem tabP_choose {p : Int} {l : PL} {q : List Int} (hp : isP p l = true) (hq : isChoiceI p q = true) : tabP q.length (chosenT l q) = chooseP l q := by
  have hc := chooseP_list hp hq
  have hqs := isChoiceI_sorted hq
  obtain ⟨_, _, hm, hs⟩ := isP_list hp
  have hlen : q.length ≤ 12 := by have := hc.2.1; omega
  refine sorted_ext (filter_list hlen _).2.2.2 hc.2.2.2 fun r => ?_
  unfold tabP
  rw [List.mem_filter, mem_allP, mem_chooseP]
  constructor
  · rintro ⟨⟨h0, h1, h2⟩, ht⟩
    obtain ⟨x, hx⟩ := getSome q r.1.toNat (by omega)
    obtain ⟨y, hy⟩ := getSome q r.2.toNat (by omega)
    have hx0 := isChoiceI_mem hq x (List.mem_of_getElem? hx)
    have hy0 := isChoiceI_mem hq y (List.mem_of_getElem? hy)
    have ex := gI_at hx hx0.1
    have ey := gI_at hy hy0.1
    have hxy : x < y := by
      have hil : r.1.toNat < q.length := (List.getElem?_eq_some_iff.1 hx).1
      have hjl : r.2.toNat < q.length := (List.getElem?_eq_some_iff.1 hy).1
      have := (List.pairwise_iff_getElem.1 hqs) _ _ hil hjl (by omega)
      rw [List.getElem?_eq_getElem hil] at hx
      rw [List.getElem?_eq_getElem hjl] at hy
      simp only [Option.some.injEq] at hx hy
      rwa [hx, hy] at this
    have hmem : (x, y) ∈ l := by
      unfold chosenT adj at ht
      rw [ex, ey, Bool.or_eq_true, List.contains_iff_mem, List.contains_iff_mem] at ht
      rcases ht with ht | ht
      · exact ht
      · have := hm _ ht
        simp only at this
        omega
    refine ⟨(x, y), hmem, List.mem_of_getElem? hx, List.mem_of_getElem? hy, ?_⟩
    rw [ltI_at hqs hx, ltI_at hqs hy]
    exact Prod.ext (by simp; omega) (by simp; omega)
  · rintro ⟨s, hsl, h1, h2, rfl⟩
    have hin := hc.2.2.1 _ (mem_chooseP.2 ⟨s, hsl, h1, h2, rfl⟩)
    refine ⟨hin, ?_⟩
    obtain ⟨i, ei, hi⟩ := ltI_mem hqs h1
    obtain ⟨j, ej, hj⟩ := ltI_mem hqs h2
    have hs0 := hm s hsl
    simp only [ei, ej, Int.toNat_natCast]
    unfold chosenT adj
    rw [gI_at hi (by omega), gI_at hj (by omega), Bool.or_eq_true, List.contains_iff_mem]
    left
    exact hsl
end Go.Proofs.Ytnpljmipicjacaa
/-
  WAYS TO CHOOSE: the program's 'waysToChoose' and the model's 'trChoose', by their contracts; 'GroupBound', 'LeastMustHave', 'LeastOneKind'.
-/
namespace Go.Proofs.Ytnpljmipicjacaa
open Go.RowKit

/-- the product of the first steps, as the program takes them -/
def waysI (n : Int) : Nat → Int
  | 0 => 1
  | i + 1 => (waysI n i * (n - i)).tdiv (i + 1)
/-- as the model takes them -/
def stepsI (n k : Int) : Nat → Int
  | 0 => 1
  | i + 1 => (stepsI n k i * (n - k + (i + 1))).tdiv (i + 1)
def InWays (n : Int) (k : Nat) : Prop := (0 ≤ n ∧ n ≤ 12 ∧ k ≤ 12) ∨ (0 ≤ n ∧ n ≤ 132 ∧ k ≤ 2)
theorem waysI_all : (∀ n : Fin 13, ∀ k : Fin 13, 0 ≤ waysI (n.val : Int) k.val ∧ waysI (n.val : Int) k.val ≤ 10000) ∧ (∀ n : Fin 133, ∀ k : Fin 3, 0 ≤ waysI (n.val : Int) k.val ∧ waysI (n.val : Int) k.val ≤ 10000) := by
  constructor <;> decide +kernel
theorem waysI_bound {n : Int} {k : Nat} (h : InWays n k) : 0 ≤ waysI n k ∧ waysI n k ≤ 10000 := by
  rcases h with ⟨h0, h1, h2⟩ | ⟨h0, h1, h2⟩
  · have := waysI_all.1 ⟨n.toNat, by omega⟩ ⟨k, by omega⟩
    rwa [show ((n.toNat : Nat) : Int) = n from by omega] at this
  · have := waysI_all.2 ⟨n.toNat, by omega⟩ ⟨k, by omega⟩
    rwa [show ((n.toNat : Nat) : Int) = n from by omega] at this
theorem InWays.less {n : Int} {k i : Nat} (h : InWays n k) (hi : i ≤ k) : InWays n i := by unfold InWays at *; omega
theorem stepsI_all : (∀ n : Fin 13, ∀ k : Fin 13, k.val ≤ n.val → ∀ i : Fin 13, i.val ≤ k.val → 0 ≤ stepsI (n.val : Int) (k.val : Int) i.val ∧ stepsI (n.val : Int) (k.val : Int) i.val ≤ 10000) ∧ (∀ n : Fin 133, ∀ k : Fin 3, k.val ≤ n.val → ∀ i : Fin 3, i.val ≤ k.val → 0 ≤ stepsI (n.val : Int) (k.val : Int) i.val ∧ stepsI (n.val : Int) (k.val : Int) i.val ≤ 10000) := by
  constructor <;> decide +kernel
theorem stepsI_bound {n : Int} {k i : Nat} (h : InWays n k) (hk : (k : Int) ≤ n) (hi : i ≤ k) : 0 ≤ stepsI n k i ∧ stepsI n k i ≤ 10000 := by
  rcases h with ⟨h0, h1, h2⟩ | ⟨h0, h1, h2⟩
  · have := stepsI_all.1 ⟨n.toNat, by omega⟩ ⟨k, by omega⟩ (by show k ≤ n.toNat; omega) ⟨i, by omega⟩ hi
    rwa [show ((n.toNat : Nat) : Int) = n from by omega] at this
  · have := stepsI_all.2 ⟨n.toNat, by omega⟩ ⟨k, by omega⟩ (by show k ≤ n.toNat; omega) ⟨i, by omega⟩ hi
    rwa [show ((n.toNat : Nat) : Int) = n from by omega] at this
theorem ways_steps_all : (∀ n : Fin 13, ∀ k : Fin 13, waysI (n.val : Int) k.val = if k.val > n.val then 0 else stepsI (n.val : Int) (k.val : Int) k.val) ∧ (∀ n : Fin 133, ∀ k : Fin 3, waysI (n.val : Int) k.val = if k.val > n.val then 0 else stepsI (n.val : Int) (k.val : Int) k.val) := by
  constructor <;> decide +kernel
theorem ways_steps {n : Int} {k : Nat} (h : InWays n k) : waysI n k = if (k : Int) > n then 0 else stepsI n k k := by
  rcases h with ⟨h0, h1, h2⟩ | ⟨h0, h1, h2⟩
  · have := ways_steps_all.1 ⟨n.toNat, by omega⟩ ⟨k, by omega⟩
    rw [show ((n.toNat : Nat) : Int) = n from by omega] at this
    rw [this]
    by_cases hk : k > n.toNat
    · rw [if_pos hk, if_pos (by omega)]
    · rw [if_neg hk, if_neg (by omega)]
  · have := ways_steps_all.2 ⟨n.toNat, by omega⟩ ⟨k, by omega⟩
    rw [show ((n.toNat : Nat) : Int) = n from by omega] at this
    rw [this]
    by_cases hk : k > n.toNat
    · rw [if_pos hk, if_pos (by omega)]
    · rw [if_neg hk, if_neg (by omega)]
/-- what a step's product is within -/
theorem mul_within {a b : Int} (ha : 0 ≤ a ∧ a ≤ 10000) (hb : -200 ≤ b ∧ b ≤ 200) : -2000000 ≤ a * b ∧ a * b ≤ 2000000 := by
  constructor
  · have h1 : a * (-200) ≤ a * b := Int.mul_le_mul_of_nonneg_left hb.1 ha.1
    omega
  · have h1 : a * b ≤ a * 200 := Int.mul_le_mul_of_nonneg_left hb.2 ha.1
    omega
theorem wrap_small {x : Int} (h : -9223372036854775808 ≤ x ∧ x ≤ 9223372036854775807) : IntKind.i64.wrap x = x := by simp [IntKind.wrap, IntKind.bits, IntKind.signed]; omega

end Go.Proofs.Ytnpljmipicjacaa
/-
  GROUPS AS PLAIN LISTS: a list is a group just if all of its pairs are chosen. Nothing here speaks of the program.
-/
namespace Go.Proofs.Ytnpljmipicjacaa
open Go.RowKit

/-- a person who is a friend of all of a list -/
def knowsI (l : PL) (q : List Int) (x : Int) : Bool := q.all fun y => adj l x.toNat y.toNat
def groupAt (p : Int) (l : PL) (q : List Int) (k : Nat) : Bool := choiceAt p q k && knowsI l (q.take k) (q.getD k 0)
def isGroupI (p : Int) (l : PL) (q : List Int) : Bool := (List.range q.length).all (groupAt p l q)
theorem isGroupI_of {p : Int} {l : PL} {q : List Int} (h : ∀ i, i < q.length → groupAt p l q i = true) : isGroupI p l q = true := by
  simp only [isGroupI, List.all_eq_true, List.mem_range]
  exact h
theorem isGroupI_no {p : Int} {l : PL} {q : List Int} {i : Nat} (hi : i < q.length) (h : groupAt p l q i = false) : isGroupI p l q = false := by
  cases he : isGroupI p l q with
  | false => rfl
  | true =>
    simp only [isGroupI, List.all_eq_true, List.mem_range] at he
    rw [he i hi] at h
    cases h
theorem allP_length : ∀ n : Fin 13, ((allP n.val).length : Int) = waysI n.val 2 := by decide +kernel
theorem allP_ways {n : Nat} (hn : n ≤ 12) : ((allP n).length : Int) = waysI n 2 := allP_length ⟨n, by omega⟩
theorem groups_all {p : Int} {l : PL} {q : List Int} (hp : isP p l = true) (hq : isChoiceI p q = true) : isGroupI p l q = decide (((chooseP l q).length : Int) = waysI q.length 2) := by
  have hlen : q.length ≤ 12 := by have := isP_range hp; rcases isChoiceI_long hq with h | h; (· omega); (· simp [h])
  have hall : ((chooseP l q).length : Int) = waysI q.length 2 ↔ ∀ i j, i < j → j < q.length → chosenT l q i j = true := by
    rw [← tabP_choose hp hq, ← allP_ways hlen]
    unfold tabP
    constructor
    · intro h
      have h2 := List.length_filter_eq_length_iff.1 (Int.ofNat_inj.1 h)
      intro i j hij hj
      have := h2 ((i : Int), (j : Int)) (mem_allP.2 ⟨by simp, by simp; omega, by simp; omega⟩)
      simpa using this
    · intro h
      congr 1
      rw [List.length_filter_eq_length_iff]
      intro r hr
      have h3 := mem_allP.1 hr
      exact h r.1.toNat r.2.toNat (by omega) (by omega)
  have hat : ∀ k, k < q.length → (groupAt p l q k = true ↔ ∀ i, i < k → chosenT l q i k = true) := by
    intro k hk
    unfold groupAt knowsI
    rw [isChoiceI_good hq hk, Bool.true_and, List.all_eq_true]
    constructor
    · intro h i hi
      obtain ⟨y, hy⟩ := getSome q i (by omega)
      have := h y (List.mem_of_getElem? (l := q.take k) (i := i) (by rw [List.getElem?_take, if_pos hi]; exact hy))
      unfold chosenT gI
      rw [adj_comm, show q.getD i 0 = y by rw [List.getD_eq_getElem?_getD, hy]; rfl]
      exact this
    · intro h y hy
      obtain ⟨i, hi, e⟩ := List.getElem_of_mem hy
      rw [List.length_take] at hi
      rw [List.getElem_take] at e
      have := h i (by omega)
      unfold chosenT gI at this
      rw [adj_comm, show q.getD i 0 = y by rw [List.getD_eq_getElem?_getD, List.getElem?_eq_getElem (by omega), e]; rfl] at this
      exact this
  by_cases h : ((chooseP l q).length : Int) = waysI q.length 2
  · rw [decide_eq_true h]
    exact isGroupI_of fun k hk => (hat k hk).2 fun i hi => hall.1 h i k hi hk
  · rw [decide_eq_false h]
    cases he : isGroupI p l q with
    | false => rfl
    | true =>
      refine absurd (hall.2 fun i j hij hj => ?_) h
      simp only [isGroupI, List.all_eq_true, List.mem_range] at he
      exact (hat j hj).1 (he j hj) i hij
theorem groups_not {p : Int} {l : PL} {q : List Int} (hq : isChoiceI p q = false) : isGroupI p l q = false := by
  simp only [isChoiceI, List.all_eq_false, List.mem_range] at hq
  obtain ⟨k, hk, h⟩ := hq
  exact isGroupI_no hk (by unfold groupAt; simp only [Bool.not_eq_true] at h; rw [h, Bool.false_and])
def resIsGroup (p : Int) (l : PL) (q : List Int) : Bool × Bool := if isP p l then (isGroupI p l q, true) else (false, false)
end Go.Proofs.Ytnpljmipicjacaa
/-
  'IsGroup' of the model, by its contract.
-/
namespace Go.Proofs.Ytnpljmipicjacaa
open Go.RowKit

theorem getD_is {q : List Int} {k : Nat} {x : Int} (h : q[k]? = some x) : q.getD k 0 = x := by rw [List.getD_eq_getElem?_getD, h]; rfl

end Go.Proofs.Ytnpljmipicjacaa
/-
  THE MODEL's GROUPS OF A SIZE ('spec.trGroups'), by its contract: induction on how many are still to come.
-/
namespace Go.Proofs.Ytnpljmipicjacaa
open Go.RowKit

theorem candR_set {t : Nat → Nat → Bool} {n : Nat} (hn : n ≤ 12) (q : List Int) (a : Nat) : (candR t n q a).length ≤ 12 := by
  unfold candR
  refine Nat.le_trans (List.length_filter_le _ _) ?_
  simp only [List.length_range']
  omega
theorem lists_candR {t : Nat → Nat → Bool} {n k : Nat} (hn : n ≤ 12) (q : List Int) (a : Nat) : (listsC t k q (candR t n q a)).length ≤ 4096 := by
  have h1 := listsC_length_le t k q (candR t n q a)
  have h2 : 2 ^ (candR t n q a).length ≤ 2 ^ 12 := Nat.pow_le_pow_right (by omega) (candR_set hn q a)
  omega
theorem Try.infoIntsG : (Try.prog.info? 25).map (fun i => (i.zero, i.size, i.bytes)) = some (some (.slice none 0 0), 1, 24) := by kernel_rfl

end Go.Proofs.Ytnpljmipicjacaa
/-
  'CountGroups': the model's and the program's, by their contracts.
-/
namespace Go.Proofs.Ytnpljmipicjacaa
open Go.RowKit

theorem friendsT_of {n : Int} {l : PL} (h : isP n l = true) : TiesOf (friendsT l) (adj l) := by
  have hn := isP_range h
  have hl := (isP_list h).2.2.1
  have key : ∀ m, m ≤ l.length → TiesOf (friendsT (l.take m)) (adj (l.take m)) := by
    intro m
    induction m with
    | zero => intro _; exact TiesOf.none
    | succ m ih =>
      intro hm
      obtain ⟨⟨x, y⟩, hx⟩ := getSome l m (by omega)
      have h0 := hl _ (List.mem_of_getElem? hx)
      simp only at h0
      obtain ⟨a, rfl⟩ : ∃ a : Nat, x = a := ⟨x.toNat, by omega⟩
      obtain ⟨b, rfl⟩ : ∃ b : Nat, y = b := ⟨y.toNat, by omega⟩
      rw [List.take_add_one, hx, Option.toList_some, friendsT_snoc, adj_snoc]
      exact (ih (by omega)).with (by omega) (by omega) (by omega)
  have := key l.length (Nat.le_refl _)
  rwa [List.take_length] at this
theorem candR_all (t : Nat → Nat → Bool) (n : Nat) : candR t n [] 0 = List.range n := by
  unfold candR
  rw [List.filter_eq_self.2 (by simp), Nat.sub_zero, List.range_eq_range']
/-- the groups of a size -/
def groupsL (n : Nat) (l : PL) (k : Nat) : List (List Int) := listsC (adj l) k [] (List.range n)
theorem groupsL_few {n : Nat} (hn : n ≤ 12) (l : PL) (k : Nat) : (groupsL n l k).length ≤ 4096 := lists_few (IsSet.people (n := n) (by omega)) (fun b hb => by have := List.mem_range.1 hb; omega)
def resCountGroups (p : Int) (l : PL) (k : Int) : Int × Bool := if isP p l && decide (0 ≤ k ∧ k ≤ 12) then ((groupsL p.toNat l k.toNat).length, true) else (0, false)

end Go.Proofs.Ytnpljmipicjacaa
/-
  'GreedyColouring' of the program, by its contract: colours as sets of people.
-/
namespace Go.Proofs.Ytnpljmipicjacaa
open Go.RowKit

/-- sets of people, one a colour -/
def sets16 (S : Nat → Nat) (K : Nat) : List Value := (List.range K).map fun j => Value.int .u16 (S j : Nat)
theorem sets16_at (S : Nat → Nat) {K j : Nat} (h : j < K) : (sets16 S K)[j]? = some (Value.int .u16 (S j : Nat)) := map_range_at _ h
structure SetsOf (S : Nat → Nat) (n : Nat) (s : (Nat → Int) × Nat) : Prop where
  lt : ∀ j, j < s.2 → S j < 65536
  bit : ∀ j, j < s.2 → ∀ b, (S j).testBit b = (decide (b < n) && decide (s.1 b = (j : Int)))
theorem SetsOf.has {S T : Nat → Nat} {n : Nat} {s : (Nat → Int) × Nat} {t : Nat → Nat → Bool} (h : SetsOf S n s) (hn : n ≤ 12) (hT : TiesOf T t) {a j : Nat} (ha : a < 12) (hj : j < s.2) : decide (S j &&& T a = 0) = !hasTo t s.1 n a (j : Int) := by
  rw [Bool.eq_iff_iff, decide_eq_true_eq]
  have hb := h.bit j hj
  constructor
  · intro h0
    cases e : hasTo t s.1 n a (j : Int) with
    | false => rfl
    | true =>
      unfold hasTo at e
      obtain ⟨b, hbn, hb2⟩ := List.any_eq_true.1 e
      rw [Bool.and_eq_true, decide_eq_true_eq] at hb2
      have hbn' := List.mem_range.1 hbn
      have h1 : (S j &&& T a).testBit b = false := by rw [h0]; simp
      rw [Nat.testBit_and, hb b, hT.bit a b ha (by omega)] at h1
      simp [hbn', hb2.1, hb2.2] at h1
  · intro h1
    refine Nat.eq_of_testBit_eq fun b => ?_
    rw [Nat.zero_testBit, Nat.testBit_and, hb b]
    by_cases hbn : b < n
    · by_cases hc : s.1 b = (j : Int)
      · rw [hT.bit a b ha (by omega)]
        cases e : t a b with
        | false => simp
        | true =>
          have : hasTo t s.1 n a (j : Int) = true := by
            unfold hasTo
            exact List.any_eq_true.2 ⟨b, List.mem_range.2 hbn, by rw [e]; simp [hc]⟩
          rw [this] at h1
          cases h1
      · simp [hc]
    · simp [hbn]
theorem SetsOf.step {S : Nat → Nat} {n : Nat} {q : List Int} {s : (Nat → Int) × Nat} (h : SetsOf S n s) (hg : Coloured q s) {a c K : Nat} (ha : a < n) (hn : n ≤ 12) (hnew : s.1 a = -1) (hc : c < K) (hK : K = s.2 ∨ K = s.2 + 1 ∧ c = s.2) (hS : K = s.2 + 1 → S s.2 = 0) :
    SetsOf (upN S c (S c ||| 2 ^ a)) n (upN s.1 a (c : Int), K) := by
  have hlt : ∀ j, j < K → S j < 65536 := fun j hj => by
    by_cases e : j < s.2
    · exact h.lt j e
    · have : j = s.2 := by omega
      subst this
      rw [hS (by omega)]
      omega
  have hbit : ∀ j, j < K → ∀ b, (S j).testBit b = (decide (b < n) && decide (s.1 b = (j : Int))) := fun j hj b => by
    by_cases e : j < s.2
    · exact h.bit j e b
    · have : j = s.2 := by omega
      subst this
      rw [hS (by omega)]
      have := hg.low b
      have hne : ¬ s.1 b = (s.2 : Int) := by omega
      simp [hne]
  refine ⟨fun j hj => ?_, fun j hj b => ?_⟩
  · by_cases e : j = c
    · subst e; rw [upN_self]; exact or_lt (hlt j hj) (by omega)
    · rw [upN_ne _ _ e]; exact hlt j hj
  · simp only at hj ⊢
    by_cases hb : b = a
    · subst hb
      simp only [upN_self]
      by_cases e : j = c
      · subst e
        rw [upN_self, Nat.testBit_or, hbit j hj, Nat.testBit_two_pow]
        simp [ha]
      · rw [upN_ne _ _ e, hbit j hj, hnew]
        have h1 : ¬ (-1 : Int) = (j : Int) := by omega
        have h2 : ¬ (c : Int) = (j : Int) := by omega
        simp [h1, h2]
    · simp only [upN_ne _ _ hb]
      by_cases e : j = c
      · subst e
        rw [upN_self, Nat.testBit_or, hbit j hj, Nat.testBit_two_pow]
        have : ¬ a = b := fun h => hb h.symm
        simp [this]
      · rw [upN_ne _ _ e, hbit j hj]
/-- who has not come yet has no colour -/
theorem runC_new {t : Nat → Nat → Bool} {n : Nat} {q : List Int} {b : Nat} (h : (b : Int) ∉ q) (h0 : ∀ x ∈ q, 0 ≤ x) : (runC t n q).1 b = -1 := by
  induction q using snocRec with
  | nil => rfl
  | append_singleton q x ih =>
    rw [runC_snoc]
    have hx := h0 x (by simp)
    show upN (runC t n q).1 x.toNat _ b = -1
    rw [upN_ne _ _ (fun e => h (by rw [e, Int.toNat_of_nonneg hx]; simp))]
    exact ih (fun hm => h (List.mem_append_left _ hm)) fun y hy => h0 y (List.mem_append_left _ hy)

set_option maxHeartbeats 2000000 in
set_option maxRecDepth 100000 in
theorem groupJoins_any (T : Nat → Nat) (hT : ∀ i, i < 12 → T i < 65536) (J a gf ga : Nat) (ha : a < 12) (hJ : J < 65536) (W : World) (row : W.rowIs gf 71 12 (fun j => .int .u16 (T j))) (ca : W.cell? ⟨ga, 0, none⟩ = some (.int .i64 a)) :
    Calls Try.prog 56 #[.int .u16 J, .pointer (some ⟨gf, 0, none⟩), .pointer (some ⟨ga, 0, none⟩)] W fun e w' => e = .returned (.bool (decide (J &&& T a = 0))) ∧ W = w' := by
  have ct := row.cell ha
  have hai : (a : Int) < 12 := by omega
  have hTa := hT a ha
  have hand := u16_and_nat J (T a) hJ hTa
  have heq : (((J &&& T a : Nat) : Int) == 0) = decide (J &&& T a = 0) := by
    by_cases h : J &&& T a = 0
    · rw [h]; rfl
    · rw [decide_eq_false h, beq_eq_false_iff_ne]; omega
  have Hand := Lib.hid hand
  have Heq := Lib.hid heq
  clear hand heq
  go_enter Try.func56, Try.ntmps56
  go_wp2
  go_ret
  exact ⟨by rw [← Heq.out, ← Hand.out]; rfl, rfl⟩
set_option maxHeartbeats 2000000 in
set_option maxRecDepth 100000 in
theorem indexJoins_any {T S : Nat → Nat} {t : Nat → Nat → Bool} {n : Nat} {s : (Nat → Int) × Nat} (hT : TiesOf T t) (hS : SetsOf S n s) (hn : n ≤ 12) (hK : s.2 ≤ 12) (a gf ga : Nat) (ha : a < 12) (A : Option Addr) (c : Nat) (W : World) (row : W.rowIs gf 71 12 (fun j => .int .u16 (T j))) (ca : W.cell? ⟨ga, 0, none⟩ = some (.int .i64 a)) (hA : CRead W W.heap.size A (sets16 S s.2)) :
    Calls Try.prog 57 #[.slice A s.2 c, .func (.func 56) #[] #[.pointer (some ⟨gf, 0, none⟩), .pointer (some ⟨ga, 0, none⟩)]] W fun e w' =>
      e = .returned (.int .i64 (if freeC t s.1 n s.2 a < s.2 then (freeC t s.1 n s.2 a : Int) else -1)) ∧ W = w' := by
  have hjoin := fun j (hj : j < s.2) => groupJoins_any T hT.lt (S j) a gf ga ha (hS.lt j hj) W row ca
  have hhas := fun j (hj : j < s.2) => hS.has hn hT (a := a) (j := j) ha hj
  have hfree := fun (c : Nat) (h1 : ∀ c', c' < c → hasTo t s.1 n a (c' : Int) = true) (h2 : c < s.2 → hasTo t s.1 n a (c : Int) = false) (h3 : c ≤ s.2) => freeC_eq (t := t) (col := s.1) (n := n) (K := s.2) (a := a) (c := c) h1 h2 h3
  obtain ⟨K, hKK⟩ : ∃ K, s.2 = K := ⟨_, rfl⟩
  obtain ⟨F, hF⟩ : ∃ F, freeC t s.1 n s.2 a = F := ⟨_, rfl⟩
  rw [hF, hKK]
  simp only [hF] at hfree
  simp only [hKK] at hjoin hhas hfree hA hK
  obtain ⟨I, hI⟩ : ∃ I : Int, (if F < K then (F : Int) else -1) = I := ⟨_, rfl⟩
  rw [hI]
  have HI := Lib.hid hI
  clear hI
  have Hjoin := Lib.hid hjoin
  have Hhas := Lib.hid hhas
  have Hfree := Lib.hid hfree
  clear hjoin hhas hfree hKK hF row ca hS hT
  go_enter Try.func57, Try.ntmps57
  go_wp2
  go_loopw [8] (fun i wr => ∃ j : Nat, j ≤ K ∧ i = .int .i64 j ∧ W = wr ∧ ∀ c', c' < j → hasTo t s.1 n a (c' : Int) = true) (fun i _ => K - (intOf i).toNat)
  case atStart => exact ⟨0, Nat.zero_le _, rfl, rfl, fun c' h => by omega⟩
  case round =>
    obtain ⟨j, hj, rfl, rfl, hall⟩ := hrel
    have Hall := Lib.hid hall
    clear hall
    by_cases hlt : j < K
    · obtain ⟨b, off, rfl, hbb, c0⟩ := hA j _ (sets16_at S hlt)
      have hji : (j : Int) < (K : Int) := by omega
      have call := Hjoin.out j hlt
      rw [Hhas.out j hlt] at call
      cases hh : hasTo t s.1 n a (j : Int) with
      | true =>
        rw [hh] at call
        have Call := Lib.hid call
        have Hh := Lib.hid hh
        clear call hh
        go_wp2_with fail
        refine Call.out.mono ?_
        rintro e w2 ⟨rfl, rfl⟩
        go_wp2
        go_roundw
        case rel => exact ⟨j + 1, by omega, by go_num, trivial, fun c' h => by
                      by_cases e : c' = j
                      · subst e; exact Hh.out
                      · exact Hall.out c' (by omega)⟩
        case measure => simp [intOf]; omega
      | false =>
        rw [hh] at call
        have hf := Hfree.out j Hall.out (fun _ => hh) (by omega)
        have hI2 : I = (j : Int) := by rw [← HI.out, hf, if_pos hlt]
        subst hI2
        have Call := Lib.hid call
        have Hf := Lib.hid hf
        clear call hh hf
        go_wp2_with fail
        refine Call.out.mono ?_
        rintro e w2 ⟨rfl, rfl⟩
        go_wp2
        go_ret
        exact ⟨rfl, rfl⟩
    · have hjK : j = K := by omega
      subst hjK
      have hf := Hfree.out j Hall.out (fun h => by omega) (by omega)
      have hI2 : I = -1 := by rw [← HI.out, hf, if_neg (by omega)]
      subst hI2
      have hge : ¬ ((j : Int) < (j : Int)) := by omega
      clear hf
      go_wp2
      go_ret
      exact ⟨rfl, rfl⟩
theorem Try.infoCrowd : (Try.prog.info? 69).map (fun i => (i.zero, i.size, i.bytes)) = some (some (.int .u16 0), 1, 2) := by kernel_rfl
theorem set_grown (w : World) (a : Addr) (u : Value) : w.grownBy (w.setCell a u) (some a.block) := ⟨rfl, rfl, rfl, by simp, fun k _ hk => heap_setCell_other _ _ _ _ (fun e => hk (by rw [e]))⟩
theorem sets16_set (S : Nat → Nat) (K c v : Nat) : (sets16 S K).set c (Value.int .u16 (v : Nat)) = sets16 (upN S c v) K := by
  unfold sets16
  rw [map_range_set]
  refine List.map_congr_left fun j _ => ?_
  by_cases e : j = c
  · subst e; simp only [upN_self]
  · simp only [upN_ne _ _ e]
theorem sets16_more (S : Nat → Nat) (K : Nat) : sets16 (upN S K 0) (K + 1) = sets16 S K ++ [Value.int .u16 0] := by
  unfold sets16
  rw [List.range_succ, List.map_append, List.map_singleton, upN_self]
  congr 1
  refine List.map_congr_left fun j hj => ?_
  have := List.mem_range.1 hj
  rw [upN_ne _ _ (by omega)]
theorem SetsOf.more {S : Nat → Nat} {n : Nat} {s : (Nat → Int) × Nat} (h : SetsOf S n s) : SetsOf (upN S s.2 0) n s :=
  ⟨fun j hj => by rw [upN_ne _ _ (by omega)]; exact h.lt j hj, fun j hj b => by rw [upN_ne _ _ (by omega)]; exact h.bit j hj b⟩

set_option maxHeartbeats 8000000 in
set_option maxRecDepth 100000 in
theorem implGreedyColouring_any (p : Int) (l : PL) (A : Option Addr) (c : Nat) (q : List Int) (B : Option Addr) (d : Nat) (w : World) (hl : l.length ≤ 1048576) (hA : CRead w w.heap.size A (pcells l)) (_ : q.length ≤ 1048576) (hB : CRead w w.heap.size B (icells q)) :
    Calls Try.prog 20 #[.agg #[.int .i64 p, .slice A l.length c], .slice B q.length d] w (GotIntsOk w (resGreedyColouring p l q).1 (resGreedyColouring p l q).2) := by
  obtain ⟨i0, hi, hz0, hz1, hz2⟩ := info_parts Try.infoInt
  obtain ⟨i1, hj1, hy0, hy1, hy2⟩ := info_parts Try.infoCrowd
  have RA : CRead (w.alloc (Obj.cells #[.int .i64 p, .slice A l.length c] 31)) (w.alloc (Obj.cells #[.int .i64 p, .slice A l.length c] 31)).heap.size A (pcells l) := (hA.below (B' := w.heap.size) (by go_grown) (Nat.le_refl _)).more (by go_size)
  cases hp : isP p l with
  | false =>
    have e : resGreedyColouring p l q = ([], false) := by simp [resGreedyColouring, hp]
    rw [e]
    have Hp := Lib.hid hp
    clear hp e
    go_enter Try.func20, Try.ntmps20
    go_wp2_with fail
    refine (isParty_any _ _ _ _ _ hl RA).mono ?_
    rw [Hp.out]
    rintro e w2 ⟨rfl, hb2⟩
    simp only [World.size_alloc] at hb2
    go_wp2
    go_ret2
    exact ⟨none, 0, rfl, World.ownsRow_nil _ _ _ _, Below.trans (b := _) (by go_grown) (hb2.mono (by omega))⟩
  | true =>
    have hn := isP_range hp
    obtain ⟨n, rfl⟩ : ∃ n : Nat, p = n := ⟨p.toNat, by omega⟩
    have hn12 : n ≤ 12 := by omega
    have Hp := Lib.hid hp
    cases hc : isNamingI n q with
    | false =>
      have e : resGreedyColouring n l q = ([], false) := by simp [resGreedyColouring, hc]
      rw [e]
      have Hc := Lib.hid hc
      clear hp e hc
      go_enter Try.func20, Try.ntmps20
      go_wp2_with fail
      refine (isParty_any _ _ _ _ _ hl RA).mono ?_
      rw [Hp.out]
      rintro e w2 ⟨rfl, hb2⟩
      simp only [World.size_alloc] at hb2
      have a0 : w2.cell? ⟨w.heap.size, 0, none⟩ = some (.int .i64 n) := carry hb2 (by simp) (by omega)
      have a1 : w2.cell? ⟨w.heap.size, 1, none⟩ = some (.slice A l.length c) := carry hb2 (by simp) (by omega)
      have k2 : Below w.heap.size w w2 := Below.trans (b := _) (by go_grown) (hb2.mono (by omega))
      go_wp2_with fail
      refine (isNaming_any n q A B l.length c d _ hn ((hB.below k2 (Nat.le_refl _)).more k2.size)).mono ?_
      rw [Hc.out]
      rintro e w3 ⟨rfl, hb3⟩
      go_wp2
      go_ret2
      exact ⟨none, 0, rfl, World.ownsRow_nil _ _ _ _, k2.trans (hb3.mono k2.size)⟩
    | true =>
      have e : resGreedyColouring n l q = (colsG (adj l) n q, true) := by simp [resGreedyColouring, hp, hc]
      rw [e]
      obtain ⟨hlq, hmem, hnd⟩ := isNamingI_parts hc
      have hT := friendsT_of hp
      have hrun := fun k => runC_good (adj l) n (q.take k)
      have hpos := colsG_pos (t := adj l) hc
      have hlen : (colsG (adj l) n q).length = n := by simp [colsG]
      have hfr := fun (X : World) (hX : CRead X X.heap.size A (pcells l)) => friendsIn_any n l A c X hp hX
      obtain ⟨T, hTT⟩ : ∃ T, friendsT l = T := ⟨_, rfl⟩
      simp only [hTT] at hfr hT
      suffices h : Calls Try.prog 20 #[.agg #[.int .i64 n, .slice A l.length c], .slice B q.length d] w fun e w' => ∃ A' c', e = .returned (.tuple #[.slice A' n c', .bool true]) ∧ w'.ownsRow w.heap.size 3 1 (.slice A' n c') n (icells ((List.range n).map (posC (runC (adj l) n q).1))) ∧ Below w.heap.size w w' by
        refine h.mono fun e w' h => ?_
        obtain ⟨A', c', h1, h2, h3⟩ := h
        rw [hpos] at h2
        refine ⟨A', c', ?_, ?_, h3⟩
        · simp only [hlen]; exact h1
        · simp only [hlen]; exact h2
      have Hc := Lib.hid hc
      have Hmem := Lib.hid hmem
      have Hnd := Lib.hid hnd
      have Hrun := Lib.hid hrun
      have HT := Lib.hid hT
      have Hfr := Lib.hid hfr
      clear hp e hc hmem hnd hrun hlen hpos hT hfr hTT
      go_enter Try.func20, Try.ntmps20
      go_wp2_with fail
      refine (isParty_any _ _ _ _ _ hl RA).mono ?_
      rw [Hp.out]
      rintro e w2 ⟨rfl, hb2⟩
      have s2 := hb2.size
      simp only [World.size_alloc] at hb2 s2
      have a0 : w2.cell? ⟨w.heap.size, 0, none⟩ = some (.int .i64 n) := carry hb2 (by simp) (by omega)
      have a1 : w2.cell? ⟨w.heap.size, 1, none⟩ = some (.slice A l.length c) := carry hb2 (by simp) (by omega)
      have k2 : Below w.heap.size w w2 := Below.trans (b := _) (by go_grown) (hb2.mono (by omega))
      go_wp2_with fail
      refine (isNaming_any n q A B l.length c d _ hn ((hB.below k2 (Nat.le_refl _)).more k2.size)).mono ?_
      rw [Hc.out]
      rintro e w3 ⟨rfl, hb3⟩
      have s3 := hb3.size
      have b0 := carry hb3 a0 (by omega)
      have b1 := carry hb3 a1 (by omega)
      have k3 := k2.trans (hb3.mono k2.size)
      clear a0 a1
      go_wp2_with fail
      refine (Hfr.out _ ((hA.below k3 (Nat.le_refl _)).more k3.size)).mono ?_
      rintro e w4 ⟨rfl, _, hb4⟩
      have s4 := hb4.size
      have k4 := k3.trans (hb4.mono k3.size)
      have d0 := carry hb4 b0 (by omega)
      have d1 := carry hb4 b1 (by omega)
      have rowF := rowIs_u16 w4 T 71
      obtain ⟨X, hX⟩ : ∃ X, w4.alloc (Obj.cells (tcells T) 71) = X := ⟨_, rfl⟩
      rw [hX] at rowF
      have zX : X.heap.size = w4.heap.size + 1 := by rw [← hX]; simp
      have kX4 : Below w4.heap.size w4 X := by rw [← hX]; go_grown
      have kX := k4.trans (kX4.mono k4.size)
      have e0 := carry kX4 d0 (by omega)
      have e1 := carry kX4 d1 (by omega)
      have HX := Lib.hid hX
      have KX := Lib.hid kX
      have RowF := Lib.hid rowF
      have hX1 : w4.heap.size < X.heap.size := by omega
      clear b0 b1 d0 d1 hX kX4 kX rowF k2 k3 k4 hb2 hb3 hb4 zX
      unfold tcells at HX ⊢
      go_upto_region 4 with fail
      rw [HX.out]
      go_wp2_with (at_make; refine wpList_make_full _ rfl _ _ 25 rfl X.heap.size 3 i0 _ 1 Try.underlying25 hi hz0 hz1 _ _ _ _ n rfl rfl (by omega) (by omega) (by rw [hz2]; omega) (by unfold maxLen; omega) (Nat.le_refl _) ?_; intro w5 hown5 hgr5)
      rw [show Value.cells (.int .i64 0) = #[.int .i64 0] from rfl, made_ints] at hown5
      have hb5 : Below X.heap.size X w5 := below_of_gb hgr5 (Nat.le_refl _)
      have hzero : List.replicate n (0 : Int) = (List.range n).map (posC (runC (adj l) n (q.take 0)).1) := by
        refine List.ext_getElem (by simp) fun i h1 h2 => by simp [runC, posC]
      rw [hzero] at hown5
      have Own5 := Lib.hid hown5
      have Hb5 := Lib.hid hb5
      clear hown5 hgr5 hzero hb5 e0 e1
      go_wp2
      go_loopw [8, 29] (fun v i wr => ∃ (j : Nat) (S : Nat → Nat) (A8 : Option Addr) (c8 K : Nat), j ≤ q.length ∧ i = .int .i64 j ∧ K = (runC (adj l) n (q.take j)).2 ∧ v = .slice A8 K c8 ∧ SetsOf S n (runC (adj l) n (q.take j)) ∧ wr.ownsRow X.heap.size 69 1 (.slice A8 K c8) K (sets16 S K) ∧ wr.ownsRow X.heap.size 3 1 (.slice (some ⟨X.heap.size, 0, none⟩) n n) n (icells ((List.range n).map (posC (runC (adj l) n (q.take j)).1))) ∧ Below X.heap.size X wr) (fun _ i _ => q.length - (intOf i).toNat)
      case atStart => exact ⟨0, fun _ => 0, none, 0, 0, Nat.zero_le _, by go_num, rfl, rfl, ⟨fun j h => absurd h (Nat.not_lt_zero _), fun j h => absurd h (Nat.not_lt_zero _)⟩, World.ownsRow_nil _ _ _ _, Own5.out, Hb5.out⟩
      case round =>
        clear Own5 Hb5
        obtain ⟨j, S, A8, c8, K, hj, rfl, hK, rfl, hS, own8, own7, hb⟩ := hrel
        by_cases hjt : j < q.length
        · obtain ⟨x, hx⟩ := getSome q j hjt
          have hx0 := Hmem.out x (List.mem_of_getElem? hx)
          obtain ⟨a, rfl⟩ : ∃ a : Nat, x = a := ⟨x.toNat, by omega⟩
          have hak : a < n := by omega
          have hai : (a : Int) < n := by omega
          have kr := KX.out.trans (hb.mono KX.out.size)
          obtain ⟨bq, offq, rfl, hbq, u0⟩ := (hB.below kr (Nat.le_refl _)).int hx
          have hji : (j : Int) < (q.length : Int) := by omega
          have hgood := Hrun.out j
          have hfew := hgood.few
          rw [List.length_take] at hfew
          have htk : q.take (j + 1) = q.take j ++ [(a : Int)] := by rw [List.take_add_one, hx]; rfl
          have hsnoc := runC_snoc (adj l) n (q.take j) (a : Int)
          rw [← htk] at hsnoc
          have hnew : (runC (adj l) n (q.take j)).1 a = -1 := by
            refine runC_new (fun hm => ?_) fun y hy => (Hmem.out y (List.mem_of_mem_take hy)).1
            have h1 := List.nodup_append.1 (htk ▸ (Hnd.out.sublist (List.take_sublist (j + 1) q)))
            exact h1.2.2 _ hm _ (by simp) rfl
          obtain ⟨s, hs⟩ : ∃ s, runC (adj l) n (q.take j) = s := ⟨_, rfl⟩
          rw [hs] at hK hS own7 hgood hfew hsnoc hnew
          have hidx := fun (ga : Nat) (W : World) (row : W.rowIs w4.heap.size 71 12 (fun j => .int .u16 (T j))) (ca : W.cell? ⟨ga, 0, none⟩ = some (.int .i64 a)) (hA8 : CRead W W.heap.size A8 (sets16 S s.2)) => indexJoins_any HT.out hS hn12 (by omega) a w4.heap.size ga (by omega) A8 c8 W row ca hA8
          have hle := freeC_le (adj l) s.1 n s.2 a
          have hst : runC (adj l) n (q.take (j + 1)) = (upN s.1 a (freeC (adj l) s.1 n s.2 a : Int), if freeC (adj l) s.1 n s.2 a = s.2 then s.2 + 1 else s.2) := by rw [hsnoc]; unfold stepC; rw [Int.toNat_natCast]
          obtain ⟨F, hF⟩ : ∃ F, freeC (adj l) s.1 n s.2 a = F := ⟨_, rfl⟩
          simp only [hF] at hidx hle hst
          subst hK
          have Hst := Lib.hid hst
          have Hidx := Lib.hid hidx
          have HS := Lib.hid hS
          have Hgood := Lib.hid hgood
          have Hnew := Lib.hid hnew
          have Own8 := Lib.hid own8
          have Own7 := Lib.hid own7
          have Hb := Lib.hid hb
          have sr := hb.size
          clear hx hs hS hgood hnew own8 own7 hb hst hidx hF hsnoc htk kr
          go_upto_region 9 with fail
          obtain ⟨Y, hY⟩ : ∃ Y, wr.alloc (Obj.cells #[.int .i64 (a : Int)] 3) = Y := ⟨_, rfl⟩
          have kY : Below wr.heap.size wr Y := by rw [← hY]; go_grown
          have zY : Y.heap.size = wr.heap.size + 1 := by rw [← hY]; simp
          have ca : Y.cell? ⟨wr.heap.size, 0, none⟩ = some (.int .i64 a) := by rw [← hY]; simp
          rw [hY]
          have own8Y := own_below Own8.out kY (Nat.le_refl _)
          have own7Y := own_below Own7.out kY (Nat.le_refl _)
          have hbY := Hb.out.trans (kY.mono sr)
          have rowY := RowF.out.of_block (hbY.block _ (show w4.heap.size < X.heap.size by omega))
          have call := Hidx.out wr.heap.size Y rowY ca (CRead.of_own own8Y)
          have O8 := Lib.hid own8Y
          have O7 := Lib.hid own7Y
          have HbY := Lib.hid hbY
          have hY1 : wr.heap.size < Y.heap.size := by omega
          clear hY kY own8Y own7Y hbY rowY zY
          by_cases hFK : F < s.2
          · rw [if_pos hFK] at call
            obtain ⟨g8, hg8⟩ := own_form O8.out (by omega)
            subst hg8
            have hF0 : ¬ ((F : Int) < 0) := by omega
            have Call := Lib.hid call
            clear call
            go_wp2_with fail
            refine Call.out.mono ?_
            rintro e w6 ⟨rfl, rfl⟩
            have hg8w := (own_lt Own8.out).2
            have hl16 := HS.out.lt F hFK
            obtain ⟨U, hU⟩ : ∃ U, S F = U := ⟨_, rfl⟩
            have cu : Y.cell? ⟨g8, F, none⟩ = some (.int .u16 (U : Nat)) := by
              have h := O8.out.cellAt F (by omega)
              rw [h, ← hU]
              exact sets16_at S (show F < s.2 by omega)
            have fu := O8.out.frozenAt F
            have hor := or_bit2 (x := U) (a := a) (by omega) (by omega)
            obtain ⟨V, hV⟩ : ∃ V, U ||| 2 ^ a = V := ⟨_, rfl⟩
            rw [hV] at hor
            have hset := (O8.out.stored F (.int .u16 (V : Int))).1
            rw [sets16_set] at hset
            have hap := own_apart O7.out O8.out (show (3 : TypeId) ≠ 69 by decide)
            have own7b := O7.out.kept (set_grown Y ⟨g8, F, none⟩ (.int .u16 (V : Int))) hap
            have hg8lt := (own_lt O8.out).1
            have hCi : (F : Int) < ((s.2 : Nat) : Int) := by omega
            have hC0 : (0 : Int) ≤ (F : Int) := by omega
            have hCt : ((F : Int)).toNat = F := by omega
            have HU := Lib.hid hU
            have HV := Lib.hid hV
            have Hset := Lib.hid hset
            have O7b := Lib.hid own7b
            have ca2 := (World.cell?_setCell_other Y ⟨g8, F, none⟩ ⟨wr.heap.size, 0, none⟩ (.int .u16 (V : Int)) (by simp <;> omega)).trans ca
            clear hset own7b hU hV hap
            go_wp2
            go_region
            obtain ⟨Z, hZ⟩ : ∃ Z, (Y.setCell ⟨g8, F, none⟩ (.int .u16 (V : Int))).drew = Z := ⟨_, rfl⟩
            have own8Z : Z.ownsRow X.heap.size 69 1 (.slice (some ⟨g8, 0, none⟩) (s.2) c8) (s.2) (sets16 (upN S F V) (s.2)) := by rw [← hZ]; exact World.ownsRow.drew Hset.out
            have own7Z : Z.ownsRow X.heap.size 3 1 (.slice (some ⟨X.heap.size, 0, none⟩) n n) n (icells ((List.range n).map (posC s.1))) := by rw [← hZ]; exact World.ownsRow.drew O7b.out
            have caZ : Z.cell? ⟨wr.heap.size, 0, none⟩ = some (.int .i64 a) := by rw [← hZ]; exact ca2
            have bZ : Below X.heap.size X Z := by rw [← hZ]; exact (HbY.out.setCell (p := ⟨g8, F, none⟩) hg8lt (.int .u16 (V : Int))).drew
            rw [hZ]
            have cv := own_intAt own7Z (map_range_at (posC s.1) hak)
            have fv := own7Z.frozenAt a
            have hset7 := own_setInt own7Z a (F : Int)
            rw [map_range_set, posC_up] at hset7
            have hset8 := own8Z.kept (set_grown Z ⟨X.heap.size, a, none⟩ (.int .i64 (F : Int))) (own_apart own8Z own7Z (show (69 : TypeId) ≠ 3 by decide))
            have hsets := HS.out.step Hgood.out (a := a) (c := F) (K := s.2) hak hn12 Hnew.out hFK (.inl rfl) (fun h => by omega)
            rw [HU.out, HV.out] at hsets
            have H7 := Lib.hid hset7
            have H8 := Lib.hid hset8
            have H9 := Lib.hid (bZ.setCell (p := ⟨X.heap.size, a, none⟩) (Nat.le_refl _) (.int .i64 (F : Int)))
            have HSets := Lib.hid hsets
            have Hst2 := Lib.hid (show runC (adj l) n (q.take (j + 1)) = (upN s.1 a (F : Int), s.2) by rw [Hst.out]; rw [if_neg (by omega)])
            clear hset7 hset8 hsets own8Z own7Z bZ hZ ca ca2 cu fu
            go_wp2
            go_roundw
            case rel => exact ⟨j + 1, _, some ⟨g8, 0, none⟩, c8, s.2, by omega, by go_num, by rw [Hst2.out], rfl, by rw [Hst2.out]; exact HSets.out, H8.out, by rw [Hst2.out]; exact H7.out, H9.out⟩
            case measure => simp [intOf]; omega
          · have hFe : F = s.2 := by omega
            subst hFe
            rw [if_neg (by omega)] at call
            have hF0 : (-1 : Int) < 0 := by omega
            have Call := Lib.hid call
            clear call
            go_wp2_with fail
            refine Call.out.mono ?_
            rintro e w6 ⟨rfl, rfl⟩
            go_wp2_with (at_builtin; refine wpList_append_own _ rfl _ _ 73 rfl X.heap.size 69 i1 _ 1 2 Try.underlying73 hj1 hy0 hy1 hy2 rfl (by decide) _ _ _ rfl (O8.out.alloc _) ⟨Y.heap.size, 0, none⟩ 1 1 [.int .u16 0] rfl rfl (one_cell (by simp)) (one_one rfl) (by unfold maxLen; omega) (by omega) (by simp; omega) ?_; intro v8 w7 own8c gr8 _; obtain ⟨A8c, c8c, rfl, _⟩ := own_shape own8c)
            have own7c := (O7.out.alloc (Obj.cells #[.int .u16 0] 69)).kept gr8 (own_apart (O7.out.alloc (Obj.cells #[.int .u16 0] 69)) (O8.out.alloc (Obj.cells #[.int .u16 0] 69)) (show (3 : TypeId) ≠ 69 by decide))
            have s7 := gr8.size
            rw [World.size_alloc] at s7
            have cac : w7.cell? ⟨wr.heap.size, 0, none⟩ = some (.int .i64 a) := carryG gr8 (own_lies Own8.out) ((World.cell?_alloc_lt _ _ _ (by simp; omega)).trans ca) (.inr (Nat.le_refl _))
            have hb7 : Below X.heap.size X w7 := (HbY.out.alloc (by omega) _).grown gr8 (by simp; omega) (fun k hk => (O8.out.lt k hk).1)
            rw [← sets16_more] at own8c
            obtain ⟨g8, hg8⟩ := own_form own8c (by omega)
            subst hg8
            have hg8w : g8 ≠ wr.heap.size := by
              intro e
              have h := own8c.cellAt 0 (by omega)
              rw [e, cac, sets16_at (upN S s.2 0) (show 0 < s.2 + 1 by omega)] at h
              cases h
            clear ca
            have ca := cac
            have O8c := Lib.hid own8c
            have O7c := Lib.hid own7c
            have Hb7 := Lib.hid hb7
            clear own8c own7c hb7 cac gr8
            have hl16 : upN S s.2 0 s.2 < 65536 := by rw [upN_self]; omega
            obtain ⟨U, hU⟩ : ∃ U, (upN S s.2 0) s.2 = U := ⟨_, rfl⟩
            have cu : w7.cell? ⟨g8, s.2, none⟩ = some (.int .u16 (U : Nat)) := by
              have h := O8c.out.cellAt s.2 (by omega)
              rw [h, ← hU]
              exact sets16_at (upN S s.2 0) (show s.2 < s.2 + 1 by omega)
            have fu := O8c.out.frozenAt s.2
            have hor := or_bit2 (x := U) (a := a) (by omega) (by omega)
            obtain ⟨V, hV⟩ : ∃ V, U ||| 2 ^ a = V := ⟨_, rfl⟩
            rw [hV] at hor
            have hset := (O8c.out.stored s.2 (.int .u16 (V : Int))).1
            rw [sets16_set] at hset
            have hap := own_apart O7c.out O8c.out (show (3 : TypeId) ≠ 69 by decide)
            have own7b := O7c.out.kept (set_grown w7 ⟨g8, s.2, none⟩ (.int .u16 (V : Int))) hap
            have hg8lt := (own_lt O8c.out).1
            have hCi : (s.2 : Int) < ((s.2 + 1 : Nat) : Int) := by omega
            have hC0 : (0 : Int) ≤ (s.2 : Int) := by omega
            have hCt : ((s.2 : Int)).toNat = s.2 := by omega
            have HU := Lib.hid hU
            have HV := Lib.hid hV
            have Hset := Lib.hid hset
            have O7b := Lib.hid own7b
            have ca2 := (World.cell?_setCell_other w7 ⟨g8, s.2, none⟩ ⟨wr.heap.size, 0, none⟩ (.int .u16 (V : Int)) (by simp <;> omega)).trans ca
            clear hset own7b hU hV hap
            go_wp2
            go_region
            obtain ⟨Z, hZ⟩ : ∃ Z, (w7.setCell ⟨g8, s.2, none⟩ (.int .u16 (V : Int))).drew = Z := ⟨_, rfl⟩
            have own8Z : Z.ownsRow X.heap.size 69 1 (.slice (some ⟨g8, 0, none⟩) (s.2 + 1) c8c) (s.2 + 1) (sets16 (upN (upN S s.2 0) s.2 V) (s.2 + 1)) := by rw [← hZ]; exact World.ownsRow.drew Hset.out
            have own7Z : Z.ownsRow X.heap.size 3 1 (.slice (some ⟨X.heap.size, 0, none⟩) n n) n (icells ((List.range n).map (posC s.1))) := by rw [← hZ]; exact World.ownsRow.drew O7b.out
            have caZ : Z.cell? ⟨wr.heap.size, 0, none⟩ = some (.int .i64 a) := by rw [← hZ]; exact ca2
            have bZ : Below X.heap.size X Z := by rw [← hZ]; exact (Hb7.out.setCell (p := ⟨g8, s.2, none⟩) hg8lt (.int .u16 (V : Int))).drew
            rw [hZ]
            have cv := own_intAt own7Z (map_range_at (posC s.1) hak)
            have fv := own7Z.frozenAt a
            have hset7 := own_setInt own7Z a (s.2 : Int)
            rw [map_range_set, posC_up] at hset7
            have hset8 := own8Z.kept (set_grown Z ⟨X.heap.size, a, none⟩ (.int .i64 (s.2 : Int))) (own_apart own8Z own7Z (show (69 : TypeId) ≠ 3 by decide))
            have hsets := HS.out.more.step Hgood.out (a := a) (c := s.2) (K := s.2 + 1) hak hn12 Hnew.out (by omega) (.inr ⟨rfl, rfl⟩) (fun _ => upN_self _ _ _)
            rw [HU.out, HV.out] at hsets
            have H7 := Lib.hid hset7
            have H8 := Lib.hid hset8
            have H9 := Lib.hid (bZ.setCell (p := ⟨X.heap.size, a, none⟩) (Nat.le_refl _) (.int .i64 (s.2 : Int)))
            have HSets := Lib.hid hsets
            have Hst2 := Lib.hid (show runC (adj l) n (q.take (j + 1)) = (upN s.1 a (s.2 : Int), s.2 + 1) by rw [Hst.out]; simp)
            clear hset7 hset8 hsets own8Z own7Z bZ hZ ca ca2 cu fu
            go_wp2
            go_roundw
            case rel => exact ⟨j + 1, _, some ⟨g8, 0, none⟩, c8c, s.2 + 1, by omega, by go_num, by rw [Hst2.out], rfl, by rw [Hst2.out]; exact HSets.out, H8.out, by rw [Hst2.out]; exact H7.out, H9.out⟩
            case measure => simp [intOf]; omega
        · have hje : j = q.length := by omega
          have hge2 : ¬ ((j : Int) < (q.length : Int)) := by omega
          rw [hje, List.take_length] at own7
          have kk := KX.out.trans (hb.mono KX.out.size)
          have Own := Lib.hid (own_lower own7 KX.out.size)
          clear own7 own8 hS hK hje hb
          go_wp2
          go_ret2
          exact ⟨_, _, rfl, Own.out, kk⟩
end Go.Proofs.Ytnpljmipicjacaa
/-
  THE LAWS' COPY OF A LIST OF NUMBERS, by its contract.
-/
namespace Go.Proofs.Ytnpljmipicjacaa
open Go.RowKit

set_option maxHeartbeats 1000000 in
set_option maxRecDepth 100000 in
theorem toIntS_any (l : List Int) (A : Option Addr) (c : Nat) (w : World) (hl : l.length ≤ 1048576) (hA : CRead w w.heap.size A (icells l)) :
    Calls Try.prog 15 #[.slice A l.length c] w fun e w' =>
      e = .returned (.slice (some ⟨w.heap.size, 0, none⟩) l.length l.length) ∧ w'.ownsRow w.heap.size 3 1 (.slice (some ⟨w.heap.size, 0, none⟩) l.length l.length) l.length (icells l) ∧ Below w.heap.size w w' := by
  obtain ⟨i0, hi, hz0, hz1, hz2⟩ := info_parts Try.infoInt
  generalize hn : l.length = n at *
  have Hn := Lib.hid hn
  clear hn
  generalize hg : w.heap.size = g at *
  have Hg := Lib.hid hg
  clear hg
  go_enter Try.func15, Try.ntmps15
  go_wp2_with (at_make; refine wpList_make_full _ rfl _ _ 25 rfl g 3 i0 _ 1 Try.underlying25 hi hz0 hz1 _ _ _ _ n rfl rfl (by omega) (by omega) (by rw [hz2]; omega) (by unfold maxLen; omega) (by rw [Hg.out]; exact Nat.le_refl _) ?_; rw [Hg.out]; intro w1 hown1 hgr1)
  have hs1 : g < w1.heap.size := (own_lt hown1).2
  have hb1 : Below g w w1 := (Below.refl _ _).grown hgr1 (by rw [Hg.out]; exact Nat.le_refl _) (by simp)
  rw [show Value.cells (.int .i64 0) = #[.int .i64 0] from rfl, made_ints] at hown1
  go_loopw [4] (fun i wr => ∃ k : Nat, k ≤ n ∧ i = .int .i64 k ∧ wr.ownsRow g 3 1 (.slice (some ⟨g, 0, none⟩) n n) n (icells (l.take k ++ List.replicate (n - k) 0)) ∧ Below g w wr) (fun i _ => n - (intOf i).toNat)
  case atStart => exact ⟨0, Nat.zero_le _, rfl, by simpa using hown1, hb1⟩
  case round =>
    obtain ⟨k, hk, rfl, hown, hb⟩ := hrel
    have hs := own_lt hown
    by_cases hlt : k < n
    · obtain ⟨x, hx⟩ := getSome l k (by rw [Hn.out]; exact hlt)
      obtain ⟨b, off, rfl, hbb, c0⟩ := (hA.below hb (Nat.le_refl _)).int hx
      have hlt' : (k : Int) < n := by omega
      have f0 := hown.frozenAt k
      have hz : (l.take k ++ List.replicate (n - k) 0)[k]? = some 0 := by
        rw [List.getElem?_append_right (by simp; omega)]
        have h1 : min k l.length = k := Nat.min_eq_left (by rw [Hn.out]; exact hk)
        simp only [List.length_take, h1, Nat.sub_self]
        rw [List.getElem?_replicate, if_pos (by omega)]
      have d0 := own_intAt hown hz
      clear hz
      have Hx := Lib.hid hx
      clear hx
      go_wp2
      go_roundw
      case rel =>
        refine ⟨k + 1, by omega, by go_num, ?_, hb.setCell (p := ⟨g, k, none⟩) (Nat.le_refl _) _⟩
        have h2 := own_setInt hown k x
        rwa [take_set_replicate l 0 n k x Hn.out Hx.out] at h2
      case measure => simp [intOf]; omega
    · have hkl : k = n := by omega
      subst hkl
      have hge : ¬ ((k : Int) < k) := by omega
      go_wp2
      go_ret
      refine ⟨rfl, ?_, hb⟩
      rwa [Nat.sub_self, List.replicate_zero, List.append_nil, List.take_of_length_le (by rw [Hn.out]; exact Nat.le_refl _)] at hown
theorem toIntS_got (l : List Int) (A : Option Addr) (c : Nat) (w : World) (hl : l.length ≤ 1048576) (hA : CRead w w.heap.size A (icells l)) :
    Calls Try.prog 15 #[.slice A l.length c] w fun e w' => ∃ A' c', e = .returned (.slice A' l.length c') ∧ w'.ownsRow w.heap.size 3 1 (.slice A' l.length c') l.length (icells l) ∧ Below w.heap.size w w' :=
  (toIntS_any l A c w hl hA).mono fun _ _ h => ⟨_, _, h⟩
end Go.Proofs.Ytnpljmipicjacaa
/-
  'laws.FnExactGreedyColouring' returns true, whatever its arguments: out of the contracts of the model's function and of the program's.
-/
namespace Go.Proofs.Ytnpljmipicjacaa
open Go.RowKit

set_option maxHeartbeats 4000000 in
set_option maxRecDepth 100000 in
theorem lawGreedyColouring_any (p0 : Int) (l0 : PL) (A0 : Option Addr) (c0 : Nat) (q1 : List Int) (A1 : Option Addr) (c1 : Nat) (W : World) (hl0 : l0.length ≤ maxLen) (hA0 : CRead W W.heap.size A0 (pcells l0)) (hl1 : q1.length ≤ maxLen) (hA1 : CRead W W.heap.size A1 (icells q1)) :
    Calls Try.prog 4 #[.agg #[.int .i64 p0, .slice A0 l0.length c0], .slice A1 q1.length c1] W fun e w' => e = .returned (.bool true) ∧ Below W.heap.size W w' := by
  have hone : (0 : Int) ≤ 1 ∧ (1 : Int) ≤ 16777216 := by omega
  by_cases hq1 : (1048576 : Int) < (q1.length : Int)
  · unfold maxLen at *
    go_enter Try.func4, Try.ntmps4
    go_wp2
    go_ret
    exact ⟨rfl, by go_grown⟩
  have hn1 : q1.length ≤ 1048576 := by omega
  by_cases hz0 : szI (1048576) l0.length < 0
  · go_enter Try.func4, Try.ntmps4
    go_wp2_with fail
    refine (szParty_any _ _ _ _ _ hl0 (by omega) (by omega) _).mono ?_
    rintro e w1 ⟨rfl, hb1⟩
    simp only [World.size_alloc] at hb1
    have g1 : Below W.heap.size W w1 := Below.trans (b := _) (by go_grown) (hb1.mono (by omega))
    have s1 := hb1.size
    simp only [World.size_alloc] at s1
    have f1_0 : w1.cell? ⟨W.heap.size, 0, none⟩ = some (.int .i64 p0) := carry hb1 (by simp) (by omega)
    have f1_1 : w1.cell? ⟨W.heap.size, 1, none⟩ = some (.slice A0 l0.length c0) := carry hb1 (by simp) (by omega)
    have k1 : Below W.heap.size W w1 := g1
    go_wp2
    go_ret
    exact ⟨rfl, k1⟩
  have hn0 : l0.length ≤ 1048576 := by have h1 := szI_len _ _ hz0; have h2 := szI_hi (1048576) l0.length (by omega); omega
  have hz0' : 0 ≤ szI (1048576) l0.length := by omega
  have hz0'' : szI (1048576) l0.length ≤ 1048576 := by have h2 := szI_hi (1048576) l0.length (by omega); omega
  obtain ⟨⟨rm, rok⟩, hres⟩ : ∃ r, resGreedyColouring p0 l0 q1 = r := ⟨_, rfl⟩
  have hrn : rm.length ≤ 1048576 := by have h := resGreedyColouring_len p0 l0 q1; rw [hres] at h; exact h
  have hrl : rm.length ≤ maxLen := by unfold maxLen; omega
  have Hres := Lib.hid hres
  clear hres
  go_enter Try.func4, Try.ntmps4
  go_wp2_with fail
  refine (szParty_any _ _ _ _ _ hl0 (by omega) (by omega) _).mono ?_
  rintro e w1 ⟨rfl, hb1⟩
  simp only [World.size_alloc] at hb1
  have g1 : Below W.heap.size W w1 := Below.trans (b := _) (by go_grown) (hb1.mono (by omega))
  have s1 := hb1.size
  simp only [World.size_alloc] at s1
  have f1_0 : w1.cell? ⟨W.heap.size, 0, none⟩ = some (.int .i64 p0) := carry hb1 (by simp) (by omega)
  have f1_1 : w1.cell? ⟨W.heap.size, 1, none⟩ = some (.slice A0 l0.length c0) := carry hb1 (by simp) (by omega)
  have k1 : Below W.heap.size W w1 := g1
  go_wp2_with fail
  refine (toParty_any p0 l0 A0 c0 _ hn0 ((hA0.below k1 (Nat.le_refl _)).more k1.size)).mono ?_
  rintro e w2 ⟨T2, d2, rfl, n2, hb2⟩
  have g2 : Below w1.heap.size w1 w2 := hb2
  have s2 := hb2.size
  have f2_0 := carry g2 f1_0 (by omega)
  have f2_1 := carry g2 f1_1 (by omega)
  have k2 := k1.trans (g2.mono k1.size)
  clear f1_0 f1_1
  have r2 : Lies (.slice T2 l0.length d2) (w1.heap.size) w2.heap.size := own_lies n2
  go_wp2_with fail
  refine (toIntS_got q1 A1 c1 _ hn1 ((hA1.below k2 (Nat.le_refl _)).more k2.size)).mono ?_
  rintro e w3 ⟨T3, d3, rfl, n3, hb3⟩
  have g3 : Below w2.heap.size w2 w3 := hb3
  have s3 := hb3.size
  have f3_0 := carry g3 f2_0 (by omega)
  have f3_1 := carry g3 f2_1 (by omega)
  have o3_0 := own_below n2 g3 (Nat.le_refl _)
  have k3 := k2.trans (g3.mono k2.size)
  clear f2_0 f2_1 n2
  have r3 : Lies (.slice T3 q1.length d3) (w2.heap.size) w3.heap.size := own_lies n3
  go_wp2_with fail
  refine (specGreedyColouring_any p0 l0 _ _ q1 _ _ _ hn0 (CRead.of_own o3_0) hn1 (CRead.of_own n3) (own_cap n3)).mono ?_
  rw [Hres.out]
  rintro e w4 ⟨T4, d4, rfl, n4, hb4⟩
  have g4 : Below w3.heap.size w3 w4 := hb4
  have s4 := hb4.size
  have f4_0 := carry g4 f3_0 (by omega)
  have f4_1 := carry g4 f3_1 (by omega)
  have o4_0 := own_below o3_0 g4 (Nat.le_refl _)
  have o4_1 := own_below n3 g4 (Nat.le_refl _)
  have k4 := k3.trans (g4.mono k3.size)
  clear f3_0 f3_1 o3_0 n3
  have r4 : Lies (.slice T4 rm.length d4) (w3.heap.size) w4.heap.size := own_lies n4
  clear o4_0 r2
  clear o4_1 r3
  go_wp2_with fail
  refine (toParty_any p0 l0 A0 c0 _ hn0 ((hA0.below k4 (Nat.le_refl _)).more k4.size)).mono ?_
  rintro e w5 ⟨T5, d5, rfl, n5, hb5⟩
  have g5 : Below w4.heap.size w4 w5 := hb5
  have s5 := hb5.size
  have f5_0 := carry g5 f4_0 (by omega)
  have f5_1 := carry g5 f4_1 (by omega)
  have o5_0 := own_below n4 g5 (Nat.le_refl _)
  have k5 := k4.trans (g5.mono k4.size)
  clear f4_0 f4_1 n4
  have r5 : Lies (.slice T5 l0.length d5) (w4.heap.size) w5.heap.size := own_lies n5
  have q6_0 : (w5.alloc (Obj.cells #[.int .i64 p0, .slice T5 l0.length d5] 31)).cell? ⟨W.heap.size, 0, none⟩ = some (.int .i64 p0) := (World.cell?_alloc_lt _ _ _ (show W.heap.size < w5.heap.size by omega)).trans f5_0
  have q6_1 : (w5.alloc (Obj.cells #[.int .i64 p0, .slice T5 l0.length d5] 31)).cell? ⟨W.heap.size, 1, none⟩ = some (.slice A0 l0.length c0) := (World.cell?_alloc_lt _ _ _ (show W.heap.size < w5.heap.size by omega)).trans f5_1
  go_wp2_with fail
  refine (toIntS_got q1 A1 c1 _ hn1 ((hA1.below (B' := W.heap.size) (Below.trans k5 (by go_grown)) (Nat.le_refl _)).more (by go_size))).mono ?_
  rintro e w7 ⟨T7, d7, rfl, n7, hb7⟩
  simp only [World.size_alloc] at n7
  simp only [World.size_alloc] at hb7
  have g7 : Below w5.heap.size w5 w7 := Below.trans (b := _) (by go_grown) (hb7.mono (by omega))
  have s7 := hb7.size
  simp only [World.size_alloc] at s7
  have f7_0 := carry g7 f5_0 (by omega)
  have f7_1 := carry g7 f5_1 (by omega)
  have f7_2 : w7.cell? ⟨w5.heap.size, 0, none⟩ = some (.int .i64 p0) := carry hb7 (by simp) (by omega)
  have f7_3 : w7.cell? ⟨w5.heap.size, 1, none⟩ = some (.slice T5 l0.length d5) := carry hb7 (by simp) (by omega)
  have o7_0 := own_below o5_0 g7 (Nat.le_refl _)
  have o7_1 := own_below n5 g7 (Nat.le_refl _)
  have k7 := k5.trans (g7.mono k5.size)
  clear f5_0 f5_1 o5_0 n5 q6_0 q6_1
  have r7 : Lies (.slice T7 q1.length d7) (w5.heap.size + 1) w7.heap.size := own_lies n7
  go_wp2_with fail
  refine (implGreedyColouring_any p0 l0 _ _ q1 _ _ _ hn0 (CRead.of_own o7_1) hn1 (CRead.of_own n7)).mono ?_
  rw [Hres.out]
  rintro e w8 ⟨T8, d8, rfl, n8, hb8⟩
  have g8 : Below w7.heap.size w7 w8 := hb8
  have s8 := hb8.size
  have f8_0 := carry g8 f7_0 (by omega)
  have f8_1 := carry g8 f7_1 (by omega)
  have f8_2 := carry g8 f7_2 (by omega)
  have f8_3 := carry g8 f7_3 (by omega)
  have o8_0 := own_below o7_0 g8 (Nat.le_refl _)
  have o8_1 := own_below o7_1 g8 (Nat.le_refl _)
  have o8_2 := own_below n7 g8 (Nat.le_refl _)
  have k8 := k7.trans (g8.mono k7.size)
  clear f7_0 f7_1 f7_2 f7_3 o7_0 o7_1 n7
  have r8 : Lies (.slice T8 rm.length d8) (w7.heap.size) w8.heap.size := own_lies n8
  go_wp2_with fail
  refine (eqIntS_any rm rm _ _ _ _ _ hrl hrl (CRead.of_own n8) (CRead.of_own o8_0)).mono ?_
  rw [decide_eq_true rfl]
  rintro e w9 ⟨rfl, hb9⟩
  have g9 : Below w8.heap.size w8 w9 := hb9
  have s9 := hb9.size
  have f9_0 := carry g9 f8_0 (by omega)
  have f9_1 := carry g9 f8_1 (by omega)
  have f9_2 := carry g9 f8_2 (by omega)
  have f9_3 := carry g9 f8_3 (by omega)
  have o9_0 := own_below o8_0 g9 (Nat.le_refl _)
  have o9_1 := own_below o8_1 g9 (Nat.le_refl _)
  have o9_2 := own_below o8_2 g9 (Nat.le_refl _)
  have o9_3 := own_below n8 g9 (Nat.le_refl _)
  have k9 := k8.trans (g9.mono k8.size)
  clear f8_0 f8_1 f8_2 f8_3 o8_0 o8_1 o8_2 n8
  go_wp2
  go_region_held3 (fun w' => w'.cell? ⟨W.heap.size, 0, none⟩ = some (.int .i64 p0) ∧ w'.cell? ⟨W.heap.size, 1, none⟩ = some (.slice A0 l0.length c0) ∧ w'.cell? ⟨w5.heap.size, 0, none⟩ = some (.int .i64 p0) ∧ w'.cell? ⟨w5.heap.size, 1, none⟩ = some (.slice T5 l0.length d5)) (first | exact ⟨f9_0, f9_1, f9_2, f9_3⟩ | exact ⟨f10_0, f10_1, f10_2, f10_3⟩ | exact ⟨f11_0, f11_1, f11_2, f11_3⟩) ((first | (go_at_call 14; refine (toParty_any p0 l0 A0 c0 _ hn0 ((hA0.below k9.drew (Nat.le_refl _)).more k9.size)).mono ?_; rintro e w10 ⟨T10, d10, rfl, n10, hb10⟩; have g10 : Below w9.heap.size w9 w10 := (Below.refl _ _).drew.trans hb10; have s10 := g10.size; have f10_0 := carry g10 f9_0 (by omega); have f10_1 := carry g10 f9_1 (by omega); have f10_2 := carry g10 f9_2 (by omega); have f10_3 := carry g10 f9_3 (by omega); have o10_0 := own_below o9_0 g10 (Nat.le_refl _); have o10_1 := own_below o9_1 g10 (Nat.le_refl _); have o10_2 := own_below o9_2 g10 (Nat.le_refl _); have o10_3 := own_below o9_3 g10 (Nat.le_refl _); have k10 := k9.trans (g10.mono k9.size)) | (go_at_call 17; refine (eqParty_any p0 p0 l0 l0 _ _ _ _ _ hl0 hl0 (CRead.of_own o10_1) (CRead.of_own n10)).mono ?_; rw [decide_eq_true ⟨rfl, rfl⟩]; rintro e w11 ⟨rfl, hb11⟩; have g11 : Below w10.heap.size w10 w11 := hb11; have s11 := g11.size; have f11_0 := carry g11 f10_0 (by omega); have f11_1 := carry g11 f10_1 (by omega); have f11_2 := carry g11 f10_2 (by omega); have f11_3 := carry g11 f10_3 (by omega); have o11_0 := own_below o10_0 g11 (Nat.le_refl _); have o11_1 := own_below o10_1 g11 (Nat.le_refl _); have o11_2 := own_below o10_2 g11 (Nat.le_refl _); have o11_3 := own_below o10_3 g11 (Nat.le_refl _); have k11 := k10.trans (g11.mono k10.size))))
  clear f9_0 f9_1 f9_2 f9_3 o9_0 o9_1 o9_2 o9_3 f10_0 f10_1 f10_2 f10_3 o10_0 o10_1 o10_2 o10_3 n10
  go_wp2_with fail
  refine (toIntS_got q1 A1 c1 _ hn1 ((hA1.below k11 (Nat.le_refl _)).more k11.size)).mono ?_
  rintro e w12 ⟨T12, d12, rfl, n12, hb12⟩
  have g12 : Below w11.heap.size w11 w12 := hb12
  have s12 := hb12.size
  have f12_0 := carry g12 f11_0 (by omega)
  have f12_1 := carry g12 f11_1 (by omega)
  have f12_2 := carry g12 f11_2 (by omega)
  have f12_3 := carry g12 f11_3 (by omega)
  have o12_0 := own_below o11_0 g12 (Nat.le_refl _)
  have o12_1 := own_below o11_1 g12 (Nat.le_refl _)
  have o12_2 := own_below o11_2 g12 (Nat.le_refl _)
  have o12_3 := own_below o11_3 g12 (Nat.le_refl _)
  have k12 := k11.trans (g12.mono k11.size)
  clear f11_0 f11_1 f11_2 f11_3 o11_0 o11_1 o11_2 o11_3
  have r12 : Lies (.slice T12 q1.length d12) (w11.heap.size) w12.heap.size := own_lies n12
  go_wp2_with fail
  refine (eqIntS_any q1 q1 _ _ _ _ _ hl1 hl1 (CRead.of_own o12_2) (CRead.of_own n12)).mono ?_
  rw [decide_eq_true rfl]
  rintro e w13 ⟨rfl, hb13⟩
  have g13 : Below w12.heap.size w12 w13 := hb13
  have s13 := hb13.size
  have f13_0 := carry g13 f12_0 (by omega)
  have f13_1 := carry g13 f12_1 (by omega)
  have f13_2 := carry g13 f12_2 (by omega)
  have f13_3 := carry g13 f12_3 (by omega)
  have o13_0 := own_below o12_0 g13 (Nat.le_refl _)
  have o13_1 := own_below o12_1 g13 (Nat.le_refl _)
  have o13_2 := own_below o12_2 g13 (Nat.le_refl _)
  have o13_3 := own_below o12_3 g13 (Nat.le_refl _)
  have o13_4 := own_below n12 g13 (Nat.le_refl _)
  have k13 := k12.trans (g13.mono k12.size)
  clear f12_0 f12_1 f12_2 f12_3 o12_0 o12_1 o12_2 o12_3 n12
  clear o13_4 r12
  go_wp2_with fail
  refine (markParty_any p0 l0 _ _ _ (1) _ _ rfl hn0 (by omega) o13_1).mono ?_
  rintro e w14 ⟨rfl, n14, hg14⟩
  have s14 := hg14.size
  have f14_0 := carryG hg14 r5 f13_0 (by omega)
  have f14_1 := carryG hg14 r5 f13_1 (by omega)
  have f14_2 := carryG hg14 r5 f13_2 (by omega)
  have f14_3 := carryG hg14 r5 f13_3 (by omega)
  have o14_0 := keptG hg14 r5 o13_0 r4 (by omega)
  have o14_2 := keptG hg14 r5 o13_2 r7 (by omega)
  have o14_3 := keptG hg14 r5 o13_3 r8 (by omega)
  have k14 := belowG k13 hg14 r5 k13.size (by omega)
  clear f13_0 f13_1 f13_2 f13_3 o13_0 o13_1 o13_2 o13_3
  go_wp2_with fail
  refine (markIntS_any q1 _ _ _ (1 + 2 * (l0.length : Int)) _ _ rfl hn1 (by omega) o14_2).mono ?_
  rintro e w15 ⟨rfl, n15, hg15⟩
  have s15 := hg15.size
  have f15_0 := carryG hg15 r7 f14_0 (by omega)
  have f15_1 := carryG hg15 r7 f14_1 (by omega)
  have f15_2 := carryG hg15 r7 f14_2 (by omega)
  have f15_3 := carryG hg15 r7 f14_3 (by omega)
  have o15_0 := keptG hg15 r7 o14_0 r4 (by omega)
  have o15_1 := keptG hg15 r7 n14 r5 (by omega)
  have o15_3 := keptG hg15 r7 o14_3 r8 (by omega)
  have k15 := belowG k14 hg15 r7 k14.size (by omega)
  clear f14_0 f14_1 f14_2 f14_3 o14_0 n14 o14_2 o14_3
  have hmk : ¬ (1 + 2 * (l0.length : Int) + (q1.length : Int) < 0) := by omega
  go_wp2_with fail
  refine (eqIntS_any rm rm _ _ _ _ _ hrl hrl (CRead.of_own o15_3) (CRead.of_own o15_0)).mono ?_
  rw [decide_eq_true rfl]
  rintro e w16 ⟨rfl, hb16⟩
  have g16 : Below w15.heap.size w15 w16 := hb16
  have s16 := hb16.size
  have f16_0 := carry g16 f15_0 (by omega)
  have f16_1 := carry g16 f15_1 (by omega)
  have f16_2 := carry g16 f15_2 (by omega)
  have f16_3 := carry g16 f15_3 (by omega)
  have o16_0 := own_below o15_0 g16 (Nat.le_refl _)
  have o16_1 := own_below o15_1 g16 (Nat.le_refl _)
  have o16_2 := own_below n15 g16 (Nat.le_refl _)
  have o16_3 := own_below o15_3 g16 (Nat.le_refl _)
  have k16 := k15.trans (g16.mono k15.size)
  clear f15_0 f15_1 f15_2 f15_3 o15_0 o15_1 n15 o15_3
  clear o16_1 r5
  clear o16_2 r7
  go_wp2_with fail
  refine (markIntS_any rm _ _ _ 1 _ _ rfl hrn hone o16_3).mono ?_
  rintro e w17 ⟨rfl, n17, hg17⟩
  have s17 := hg17.size
  have f17_0 := carryG hg17 r8 f16_0 (by omega)
  have f17_1 := carryG hg17 r8 f16_1 (by omega)
  have f17_2 := carryG hg17 r8 f16_2 (by omega)
  have f17_3 := carryG hg17 r8 f16_3 (by omega)
  have o17_0 := keptG hg17 r8 o16_0 r4 (by omega)
  have k17 := belowG k16 hg17 r8 k16.size (by omega)
  clear f16_0 f16_1 f16_2 f16_3 o16_0 o16_3
  have hmr : ¬ (1 + (rm.length : Int) < 0) := by omega
  go_wp2_with fail
  refine (heldIntS_any _ _ _ 1 _ hrn hone (CRead.of_own n17)).mono ?_
  rintro e w18 ⟨rfl, h18⟩
  subst h18
  go_wp2_with fail
  refine (toParty_any p0 l0 A0 c0 _ hn0 ((hA0.below k17 (Nat.le_refl _)).more k17.size)).mono ?_
  rintro e w19 ⟨T19, d19, rfl, n19, hb19⟩
  have g19 : Below w17.heap.size w17 w19 := hb19
  have s19 := hb19.size
  have f19_0 := carry g19 f17_0 (by omega)
  have f19_1 := carry g19 f17_1 (by omega)
  have f19_2 := carry g19 f17_2 (by omega)
  have f19_3 := carry g19 f17_3 (by omega)
  have o19_0 := own_below o17_0 g19 (Nat.le_refl _)
  have o19_1 := own_below n17 g19 (Nat.le_refl _)
  have k19 := k17.trans (g19.mono k17.size)
  clear f17_0 f17_1 f17_2 f17_3 o17_0 n17
  have r19 : Lies (.slice T19 l0.length d19) (w17.heap.size) w19.heap.size := own_lies n19
  go_wp2_with fail
  refine (toIntS_got q1 A1 c1 _ hn1 ((hA1.below k19 (Nat.le_refl _)).more k19.size)).mono ?_
  rintro e w20 ⟨T20, d20, rfl, n20, hb20⟩
  have g20 : Below w19.heap.size w19 w20 := hb20
  have s20 := hb20.size
  have f20_0 := carry g20 f19_0 (by omega)
  have f20_1 := carry g20 f19_1 (by omega)
  have f20_2 := carry g20 f19_2 (by omega)
  have f20_3 := carry g20 f19_3 (by omega)
  have o20_0 := own_below o19_0 g20 (Nat.le_refl _)
  have o20_1 := own_below o19_1 g20 (Nat.le_refl _)
  have o20_2 := own_below n19 g20 (Nat.le_refl _)
  have k20 := k19.trans (g20.mono k19.size)
  clear f19_0 f19_1 f19_2 f19_3 o19_0 o19_1 n19
  have r20 : Lies (.slice T20 q1.length d20) (w19.heap.size) w20.heap.size := own_lies n20
  go_wp2_with fail
  refine (implGreedyColouring_any p0 l0 _ _ q1 _ _ _ hn0 (CRead.of_own o20_2) hn1 (CRead.of_own n20)).mono ?_
  rw [Hres.out]
  rintro e w21 ⟨T21, d21, rfl, n21, hb21⟩
  have g21 : Below w20.heap.size w20 w21 := hb21
  have s21 := hb21.size
  have f21_0 := carry g21 f20_0 (by omega)
  have f21_1 := carry g21 f20_1 (by omega)
  have f21_2 := carry g21 f20_2 (by omega)
  have f21_3 := carry g21 f20_3 (by omega)
  have o21_0 := own_below o20_0 g21 (Nat.le_refl _)
  have o21_1 := own_below o20_1 g21 (Nat.le_refl _)
  have o21_2 := own_below o20_2 g21 (Nat.le_refl _)
  have o21_3 := own_below n20 g21 (Nat.le_refl _)
  have k21 := k20.trans (g21.mono k20.size)
  clear f20_0 f20_1 f20_2 f20_3 o20_0 o20_1 o20_2 n20
  have r21 : Lies (.slice T21 rm.length d21) (w20.heap.size) w21.heap.size := own_lies n21
  clear o21_2 r19
  clear o21_3 r20
  go_wp2_with fail
  refine (eqIntS_any rm rm _ _ _ _ _ hrl hrl (CRead.of_own n21) (CRead.of_own o21_0)).mono ?_
  rw [decide_eq_true rfl]
  rintro e w22 ⟨rfl, hb22⟩
  have g22 : Below w21.heap.size w21 w22 := hb22
  have s22 := hb22.size
  have f22_0 := carry g22 f21_0 (by omega)
  have f22_1 := carry g22 f21_1 (by omega)
  have f22_2 := carry g22 f21_2 (by omega)
  have f22_3 := carry g22 f21_3 (by omega)
  have o22_0 := own_below o21_0 g22 (Nat.le_refl _)
  have o22_1 := own_below o21_1 g22 (Nat.le_refl _)
  have o22_2 := own_below n21 g22 (Nat.le_refl _)
  have k22 := k21.trans (g22.mono k21.size)
  clear f21_0 f21_1 f21_2 f21_3 o21_0 o21_1 n21
  go_wp2_with fail
  refine (heldIntS_any _ _ _ 1 _ hrn hone (CRead.of_own o22_1)).mono ?_
  rintro e w23 ⟨rfl, h23⟩
  subst h23
  go_wp2
  go_ret
  exact ⟨rfl, k22⟩
end Go.Proofs.Ytnpljmipicjacaa
/-
  THE PROGRAM's HEAD, LOOKED AT ONCE: which make it is, and that a call may enter it. (The head's text is long: the kernel must not read it twice.)
-/
namespace Go.Proofs.Ytnpljmipicjacaa

theorem make_of {P : Program} {rest : List (List Char)} (h : behindMainWord (wordsSigns P.initOrder.toList) = "cut".toList :: rest) : P.make = some .cut := by
  unfold Program.make
  rw [h]
  rfl
theorem strip_cut (rest : List (List Char)) : stripLifts liftWords ("cut".toList :: rest) = ([], "cut".toList :: rest) := rfl
theorem lifts_of {P : Program} {rest : List (List Char)} (h : behindMainWord (wordsSigns P.initOrder.toList) = "cut".toList :: rest) : P.headLifts = [] := by
  unfold Program.headLifts
  rw [h, strip_cut]
  rfl
theorem final_of {P : Program} {rest : List (List Char)} (h : behindMainWord (wordsSigns P.initOrder.toList) = "cut".toList :: rest) : P.liftsFinal = false := by
  unfold Program.liftsFinal
  rw [lifts_of h, h]
  rfl
theorem enter_of {P : Program} {rest : List (List Char)} (h : behindMainWord (wordsSigns P.initOrder.toList) = "cut".toList :: rest) (h1 : P.laysLater = false) (h2 : P.bearsReflect = false) (h3 : P.doorFits [] = true) : P.mayEnter = true := by
  unfold Program.mayEnter
  rw [h]
  show (_ || _ || _) = true
  rw [strip_cut, h1, h2, h3]
  rfl
end Go.Proofs.Ytnpljmipicjacaa
/-
  THE PROGRAM's CLOSED FACTS, EACH ONCE; and how a row's facts are put together out of them.
-/
namespace Go.Proofs.Ytnpljmipicjacaa
open Go.ChangeShapes Go.WideShapes Go.ChangeAt Go.RowKit

def headSigns : List Char := ([104, 97, 114, 110, 101, 115, 115, 32, 48, 57, 52, 98, 55, 49, 101, 100, 102, 102, 56, 48, 55, 52, 99, 52, 54, 54, 99, 100, 52, 51, 48, 98, 56, 56, 101, 56, 52, 50, 98, 101, 56, 52, 100, 50, 101, 97, 98, 102, 98, 54, 49, 52, 49, 50, 101, 49, 48, 101, 51, 57, 51, 99, 101, 50, 57, 57, 100, 57, 50, 49, 49, 51, 32, 99, 117, 116, 32, 97, 116, 32, 108, 111, 111, 112, 46, 101, 120, 97, 109, 112, 108, 101, 47, 103, 48, 49, 50, 53, 55, 47, 108, 97, 119, 115, 46, 70, 110, 69, 120, 97, 99, 116, 73, 115, 67, 111, 108, 111, 117, 114, 105, 110, 103, 32, 108, 111, 111, 112, 46, 101, 120, 97, 109, 112, 108, 101, 47, 103, 48, 49, 50, 53, 55, 47, 108, 97, 119, 115, 46, 70, 110, 69, 120, 97, 99, 116, 71, 114, 101, 101, 100, 121, 67, 111, 108, 111, 117, 114, 105, 110, 103, 32, 108, 111, 111, 112, 46, 101, 120, 97, 109, 112, 108, 101, 47, 103, 48, 49, 50, 53, 55, 47, 108, 97, 119, 115, 46, 70, 110, 69, 120, 97, 99, 116, 80, 97, 114, 116, 115, 79, 102, 80, 97, 114, 116, 121, 32, 108, 111, 111, 112, 46, 101, 120, 97, 109, 112, 108, 101, 47, 103, 48, 49, 50, 53, 55, 47, 108, 97, 119, 115, 46, 70, 110, 69, 120, 97, 99, 116, 80, 97, 114, 116, 121, 79, 102, 78, 117, 109, 98, 101, 114, 115, 32, 108, 111, 111, 112, 46, 101, 120, 97, 109, 112, 108, 101, 47, 103, 48, 49, 50, 53, 55, 47, 108, 97, 119, 115, 46, 70, 110, 69, 120, 97, 99, 116, 70, 101, 119, 101, 115, 116, 67, 111, 108, 111, 117, 114, 115, 32, 108, 111, 111, 112, 46, 101, 120, 97, 109, 112, 108, 101, 47, 103, 48, 49, 50, 53, 55, 47, 108, 97, 119, 115, 46, 70, 110, 69, 120, 97, 99, 116, 70, 105, 114, 115, 116, 67, 111, 108, 111, 117, 114, 105, 110, 103, 32, 108, 111, 111, 112, 46, 101, 120, 97, 109, 112, 108, 101, 47, 103, 48, 49, 50, 53, 55, 47, 108, 97, 119, 115, 46, 70, 110, 69, 120, 97, 99, 116, 70, 101, 119, 101, 115, 116, 71, 114, 111, 117, 112, 115, 32, 108, 111, 111, 112, 46, 101, 120, 97, 109, 112, 108, 101, 47, 103, 48, 49, 50, 53, 55, 47, 108, 97, 119, 115, 46, 70, 110, 69, 120, 97, 99, 116, 71, 114, 111, 117, 112, 115, 79, 102, 80, 97, 114, 116, 121, 32, 108, 111, 111, 112, 46, 101, 120, 97, 109, 112, 108, 101, 47, 103, 48, 49, 50, 53, 55, 47, 108, 97, 119, 115, 46, 70, 110, 69, 120, 97, 99, 116, 67, 111, 117, 110, 116, 67, 111, 108, 111, 117, 114, 105, 110, 103, 115] : List Nat).map Char.ofNat
set_option maxRecDepth 100000 in
theorem Try.initOrder_is : Try.prog.initOrder = String.ofList headSigns := by kernel_rfl
theorem Try.initOrder_signs : Try.prog.initOrder.toList = headSigns := by rw [Try.initOrder_is]; exact String.toList_ofList
set_option maxRecDepth 100000 in
theorem head_words : (behindMainWord (wordsSigns headSigns)).take 1 = ["cut".toList] := by kernel_rfl
theorem Try.words : ∃ rest, behindMainWord (wordsSigns Try.prog.initOrder.toList) = "cut".toList :: rest := by
  rw [Try.initOrder_signs]
  have h := List.take_append_drop 1 (behindMainWord (wordsSigns headSigns))
  rw [head_words] at h
  exact ⟨_, h.symm⟩
theorem Try.make : Try.prog.make = some .cut := by obtain ⟨_, h⟩ := Try.words; exact make_of h
theorem Try.liftsFinal : Try.prog.liftsFinal = false := by obtain ⟨_, h⟩ := Try.words; exact final_of h
theorem Try.laysLater : Try.prog.laysLater = false := by kernel_rfl
theorem Try.bearsReflect : Try.prog.bearsReflect = false := by kernel_rfl
theorem Try.doorFits : Try.prog.doorFits [] = true := by kernel_rfl
theorem Try.mayEnter : Try.prog.mayEnter = true := by obtain ⟨_, h⟩ := Try.words; exact enter_of h Try.laysLater Try.bearsReflect Try.doorFits
theorem Try.mapsRowed : mapsRowed Try.prog = true := by kernel_rfl
theorem Try.stops : (Try.prog.stops == []) = true := by kernel_rfl
theorem Try.stopKnobs : (Try.prog.stopKnobs == []) = true := by kernel_rfl
theorem Try.plainKeys : Try.prog.plainKeys = true := by kernel_rfl
theorem Try.stopsHeard : Try.prog.stopsHeard = true := by kernel_rfl

/-- What the types of one law give: closed facts on its parameters and its result. -/
def typeFacts (P : Program) (fn : Func) (s : ChangeSpec) (c : OpenClaim) : Bool :=
  fn.params.all (P.readableRec ·) && namedTie P c.named s.vars && (c.stops == []) && (c.knobs == []) &&
  (c.maps == (fn.params.toList ++ s.plain.varTypes P).any (P.mapsRec ·)) && (c.ifaces == (fn.params.toList ++ s.plain.varTypes P).any (P.ifacesRec ·)) && (c.mapsOut == P.mapsAmong fn.resultTypes.toList) &&
  (c.loops == (fn.params.toList ++ s.plain.varTypes P).any (P.loopsFrom ·)) && (c.wideKeys == (fn.params.toList ++ s.plain.varTypes P ++ fn.resultTypes.toList).any (P.wideKeysFrom ·)) &&
  s.vars.all (P.varReadable ·) && fn.resultTypes.all (fun t => P.readableRec t && decide (t < P.types.size)) && (c.ifacesOut == fn.resultTypes.toList.any (P.ifacesRec ·)) && (c.loopsOut == fn.resultTypes.toList.any (P.loopsFrom ·)) && c.shortTexts.isNone &&
  (c.kinds == (if c.domain.isEmpty then [] else fn.params.toList.map fun t => match P.underlying t with | some (.int k) => some k | _ => none)) && (c.pinned == c.pinnedBy) &&
  (c.veiled == (fn.params.toList ++ s.plain.varTypes P ++ fn.resultTypes.toList).any (P.veiledRec ·)) && c.veiledFits P fn.params.toList (fn.params.toList ++ s.plain.varTypes P ++ fn.resultTypes.toList)
theorem joined_all {P : Program} {f : FuncId} {fn : Func} {s : ChangeSpec} {c : OpenClaim} (k1 : c.wf (OpenSpec.ofChange s) = true) (kt : typeFacts P fn s c = true)
    (k10 : (c.inPlace == P.inPlace f) = true) (k11 : (c.unfollowed == P.unfollowed f) = true) (k12 : (c.recurses == P.recurses f) = true) (k13 : (c.named == P.varsNamed f) = true)
    (e2 : laidOutB P = true) (e3 : mapsRowed P = true) (e7 : (P.stops == []) = true) (e9 : (P.stopKnobs == []) = true) (e22 : (c.plainKeys == P.plainKeys) = true) (e23 : P.stopsHeard = true) (e24 : P.mayEnter = true)
    (e24b : (c.lifted == P.liftsFinal) = true) (e24c : (P.make == some c.make) = true) : joinedFacts P f fn s c = true := by
  unfold typeFacts at kt
  unfold joinedFacts
  simp only [Bool.and_eq_true] at kt ⊢
  obtain ⟨⟨⟨⟨⟨⟨⟨⟨⟨⟨⟨⟨⟨⟨⟨⟨⟨t1, t2⟩, t3⟩, t4⟩, t5⟩, t6⟩, t7⟩, t8⟩, t9⟩, t10⟩, t11⟩, t12⟩, t13⟩, t14⟩, t15⟩, t16⟩, t17⟩, t18⟩ := kt
  exact ⟨⟨⟨⟨⟨⟨⟨⟨⟨⟨⟨⟨⟨⟨⟨⟨⟨⟨⟨⟨⟨⟨⟨⟨⟨⟨⟨⟨⟨⟨⟨k1, e2⟩, e3⟩, t1⟩, t2⟩, t3⟩, e7⟩, t4⟩, e9⟩, k10⟩, k11⟩, k12⟩, k13⟩, t5⟩, t6⟩, t7⟩, t8⟩, t9⟩, t10⟩, t11⟩, t12⟩, t13⟩, e22⟩, t14⟩, e23⟩, e24⟩, e24b⟩, e24c⟩, t15⟩, t16⟩, t17⟩, t18⟩
theorem joined_of {f : FuncId} {fn : Func} {s : ChangeSpec} {c : OpenClaim} (k1 : c.wf (OpenSpec.ofChange s) = true) (kt : typeFacts Try.prog fn s c = true)
    (k10 : (c.inPlace == Try.prog.inPlace f) = true) (k11 : (c.unfollowed == Try.prog.unfollowed f) = true) (k12 : (c.recurses == Try.prog.recurses f) = true) (k13 : (c.named == Try.prog.varsNamed f) = true)
    (k22 : c.plainKeys = true) (k24b : c.lifted = false) (k24c : c.make = .cut) : joinedFacts Try.prog f fn s c = true :=
  joined_all k1 kt k10 k11 k12 k13 Try.laidOut Try.mapsRowed Try.stops Try.stopKnobs (by rw [k22, Try.plainKeys]; rfl) Try.stopsHeard Try.mayEnter (by rw [k24b, Try.liftsFinal]; rfl) (by rw [k24c, Try.make]; rfl)
end Go.Proofs.Ytnpljmipicjacaa
