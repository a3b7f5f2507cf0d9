/-
  Texts put together for the claim of 'IsWindmill' (pack 5): ChooseP, Ways, GroupP, GroupS, TrG, CountG, Threes, ThreesAt, Mill, LawIsWindmill, Head, Facts.
-/
import Derived.Test.YthpapkfpcijpoaaIsWindmillP1
import Derived.Test.YthpapkfpcijpoaaIsWindmillP2
import Derived.Test.YthpapkfpcijpoaaIsWindmillP3
import Derived.Test.YthpapkfpcijpoaaIsWindmillP4
import Derived.BigQuiet
import Derived.Deep.RegionHeld3
import Derived.Test.YthpapkfpcijpoaaRows
/-
  PEOPLE CHOSEN AND RENAMED, as plain lists and as tables. Nothing here speaks of the program.
-/
namespace Go.Proofs.Ythpapkfpcijpoaa
open Go.RowKit

def choiceAt (p : Int) (q : List Int) (i : Nat) : Bool :=
  match q[i]? with
  | none => true
  | some x => decide (0 ≤ x ∧ x < p) && (i == 0 || match q[i - 1]? with | none => true | some y => decide (y < x))
/-- an increasing list of some of p people -/
def isChoiceI (p : Int) (q : List Int) : Bool := (List.range q.length).all (choiceAt p q)
theorem isChoiceI_of {p : Int} {q : List Int} (h : ∀ i, i < q.length → choiceAt p q i = true) : isChoiceI p q = true := by
  simp only [isChoiceI, List.all_eq_true, List.mem_range]
  exact h
theorem isChoiceI_no {p : Int} {q : List Int} {i : Nat} (hi : i < q.length) (h : choiceAt p q i = false) : isChoiceI p q = false := by
  cases he : isChoiceI p q with
  | false => rfl
  | true =>
    simp only [isChoiceI, List.all_eq_true, List.mem_range] at he
    rw [he i hi] at h
    cases h
theorem isChoiceI_good {p : Int} {q : List Int} (h : isChoiceI p q = true) {i : Nat} (hi : i < q.length) : choiceAt p q i = true := by
  simp only [isChoiceI, List.all_eq_true, List.mem_range] at h
  exact h i hi
theorem choiceAt_man {p : Int} {q : List Int} {i : Nat} {x : Int} (h : choiceAt p q i = true) (hx : q[i]? = some x) : 0 ≤ x ∧ x < p := by
  simp only [choiceAt, hx, Bool.and_eq_true, decide_eq_true_eq] at h
  exact h.1
theorem choiceAt_less {p : Int} {q : List Int} {i : Nat} {x y : Int} (h : choiceAt p q (i + 1) = true) (hx : q[i]? = some x) (hy : q[i + 1]? = some y) : x < y := by
  simp only [choiceAt, hy, Nat.add_sub_cancel, hx, Bool.and_eq_true, Bool.or_eq_true, decide_eq_true_eq] at h
  rcases h.2 with h | h
  · simp at h
  · exact h
theorem choiceAt_zero {p : Int} {q : List Int} {k : Nat} {x : Int} (hk : k = 0) (hx : q[k]? = some x) (h : 0 ≤ x ∧ x < p) : choiceAt p q k = true := by
  subst hk
  simp [choiceAt, hx, h.1, h.2]
theorem choiceAt_later {p : Int} {q : List Int} {k : Nat} {x y : Int} (_hk : 0 < k) (hx : q[k - 1]? = some x) (hy : q[k]? = some y) (h : 0 ≤ y ∧ y < p) (hl : x < y) : choiceAt p q k = true := by
  simp [choiceAt, hx, hy, h.1, h.2, hl]
theorem choiceAt_bad {p : Int} {q : List Int} {k : Nat} {x : Int} (hx : q[k]? = some x) (h : ¬ (0 ≤ x ∧ x < p)) : choiceAt p q k = false := by
  simp only [choiceAt, hx, Bool.and_eq_false_iff, decide_eq_false_iff_not]
  exact .inl h
theorem choiceAt_stale {p : Int} {q : List Int} {k : Nat} {x y : Int} (hk : 0 < k) (hx : q[k - 1]? = some x) (hy : q[k]? = some y) (hl : ¬ x < y) : choiceAt p q k = false := by
  cases h : choiceAt p q k with
  | false => rfl
  | true =>
    obtain ⟨j, rfl⟩ : ∃ j, k = j + 1 := ⟨k - 1, by omega⟩
    exact absurd (choiceAt_less h hx hy) hl
theorem isChoiceI_sorted {p : Int} {q : List Int} (h : isChoiceI p q = true) : q.Pairwise (· < ·) := by
  rw [List.pairwise_iff_getElem]
  have step : ∀ (d i : Nat) (hi : i < q.length) (hj : i + d + 1 < q.length), q[i] < q[i + d + 1] := by
    intro d
    induction d with
    | zero => intro i hi hj; exact choiceAt_less (isChoiceI_good h hj) (List.getElem?_eq_getElem (by omega)) (List.getElem?_eq_getElem hj)
    | succ d ih =>
      intro i hi hj
      have h1 := ih i hi (by omega)
      have h2 := choiceAt_less (p := p) (q := q) (i := i + d + 1) (isChoiceI_good h (by omega)) (List.getElem?_eq_getElem (by omega)) (List.getElem?_eq_getElem (by omega))
      exact Int.lt_trans h1 h2
  intro i j hi hj hij
  have e : j = i + (j - i - 1) + 1 := by omega
  have := step (j - i - 1) i hi (by omega)
  simpa only [← e] using this
theorem isChoiceI_mem {p : Int} {q : List Int} (h : isChoiceI p q = true) : ∀ x ∈ q, 0 ≤ x ∧ x < p := by
  intro x hx
  obtain ⟨i, hi, rfl⟩ := List.getElem_of_mem hx
  exact choiceAt_man (isChoiceI_good h hi) (List.getElem?_eq_getElem hi)
theorem isChoiceI_long {p : Int} {q : List Int} (h : isChoiceI p q = true) : (q.length : Int) ≤ p ∨ q = [] := by
  have hs := isChoiceI_sorted h
  have low : ∀ (i : Nat) (x : Int), q[i]? = some x → (i : Int) ≤ x := by
    intro i
    induction i with
    | zero => intro x hx; exact (isChoiceI_mem h x (List.mem_of_getElem? hx)).1
    | succ i ih =>
      intro x hx
      have hl : i + 1 < q.length := (List.getElem?_eq_some_iff.1 hx).1
      obtain ⟨y, hy⟩ := getSome q i (by omega)
      have h1 := ih y hy
      have h2 := choiceAt_less (isChoiceI_good h hl) hy hx
      omega
  by_cases hl : q.length = 0
  · exact .inr (List.eq_nil_of_length_eq_zero hl)
  · obtain ⟨x, hx⟩ := getSome q (q.length - 1) (by omega)
    have h1 := low _ _ hx
    have h2 := (isChoiceI_mem h x (List.mem_of_getElem? hx)).2
    left
    omega

theorem countP_at : ∀ (q : List Int), q.Pairwise (· < ·) → ∀ (i : Nat) (x : Int), q[i]? = some x → q.countP (fun y => decide (y < x)) = i
  | [], _, i, x, h => by simp at h
  | a :: q, hs, 0, x, h => by
    simp only [List.getElem?_cons_zero, Option.some.injEq] at h
    subst h
    rw [List.pairwise_cons] at hs
    rw [List.countP_eq_zero]
    intro b hb
    rcases List.mem_cons.1 hb with rfl | hb
    · simp
    · have := hs.1 b hb
      simp only [decide_eq_true_eq]
      omega
  | a :: q, hs, i + 1, x, h => by
    rw [List.pairwise_cons] at hs
    have hx : q[i]? = some x := by simpa using h
    have := hs.1 x (List.mem_of_getElem? hx)
    rw [List.countP_cons_of_pos (by simpa using this), countP_at q hs.2 i x hx]

/-- how many of a list are less -/
def ltI (q : List Int) (x : Int) : Int := ((q.countP (· < x) : Nat) : Int)
theorem ltI_at {q : List Int} (hs : q.Pairwise (· < ·)) {i : Nat} {x : Int} (hx : q[i]? = some x) : ltI q x = i := by
  unfold ltI
  rw [countP_at q hs i x hx]
theorem ltI_mem {q : List Int} (hs : q.Pairwise (· < ·)) {x : Int} (hx : x ∈ q) : ∃ i : Nat, ltI q x = i ∧ q[i]? = some x := by
  obtain ⟨i, hi, rfl⟩ := List.getElem_of_mem hx
  exact ⟨i, ltI_at hs (List.getElem?_eq_getElem hi), List.getElem?_eq_getElem hi⟩
theorem ltI_le (q : List Int) (x : Int) : 0 ≤ ltI q x ∧ ltI q x ≤ q.length := by
  unfold ltI
  have := List.countP_le_length (p := fun y => decide (y < x)) (l := q)
  omega
/-- the pairs of the people chosen -/
def chooseP (l : PL) (q : List Int) : PL := l.filterMap fun r => if q.contains r.1 = true ∧ q.contains r.2 = true then some (ltI q r.1, ltI q r.2) else none
theorem chooseP_snoc (l : PL) (q : List Int) (x y : Int) : chooseP (l ++ [(x, y)]) q = chooseP l q ++ if q.contains x = true ∧ q.contains y = true then [(ltI q x, ltI q y)] else [] := by
  unfold chooseP
  rw [List.filterMap_append]
  congr 1
  by_cases h : q.contains x = true ∧ q.contains y = true
  · rw [if_pos h, List.filterMap_cons_some (by rw [if_pos h]), List.filterMap_nil]
  · rw [if_neg h, List.filterMap_cons_none (by rw [if_neg h]), List.filterMap_nil]
theorem chooseP_le (l : PL) (q : List Int) : (chooseP l q).length ≤ l.length := List.length_filterMap_le _ _
def gI (q : List Int) (i : Nat) : Nat := (q.getD i 0).toNat
def chosenT (l : PL) (q : List Int) (i j : Nat) : Bool := adj l (gI q i) (gI q j)
theorem gI_at {q : List Int} {i : Nat} {x : Int} (hx : q[i]? = some x) (h0 : 0 ≤ x) : ((gI q i : Nat) : Int) = x := by
  unfold gI
  rw [List.getD_eq_getElem?_getD, hx]
  simp only [Option.getD_some]
  omega
theorem mem_chooseP {l : PL} {q : List Int} {r : Int × Int} : r ∈ chooseP l q ↔ ∃ s ∈ l, s.1 ∈ q ∧ s.2 ∈ q ∧ r = (ltI q s.1, ltI q s.2) := by
  unfold chooseP
  rw [List.mem_filterMap]
  constructor
  · rintro ⟨s, hs, h⟩
    split at h
    · rename_i hc
      rw [List.contains_iff_mem, List.contains_iff_mem] at hc
      exact ⟨s, hs, hc.1, hc.2, by simpa using h.symm⟩
    · cases h
  · rintro ⟨s, hs, h1, h2, rfl⟩
    refine ⟨s, hs, ?_⟩
    rw [if_pos (by rw [List.contains_iff_mem, List.contains_iff_mem]; exact ⟨h1, h2⟩)]
theorem chooseP_list {p : Int} {l : PL} {q : List Int} (hp : isP p l = true) (hq : isChoiceI p q = true) : IsList q.length (chooseP l q) := by
  have hr := isP_range hp
  obtain ⟨_, _, hm, hs⟩ := isP_list hp
  have hqs := isChoiceI_sorted hq
  have hmono : ∀ x y, x ∈ q → y ∈ q → x < y → ltI q x < ltI q y := by
    intro x y hx hy hxy
    obtain ⟨i, ei, hi⟩ := ltI_mem hqs hx
    obtain ⟨j, ej, hj⟩ := ltI_mem hqs hy
    rw [ei, ej]
    have hil : i < q.length := (List.getElem?_eq_some_iff.1 hi).1
    have hjl : j < q.length := (List.getElem?_eq_some_iff.1 hj).1
    have e1 : q[i] = x := by rw [List.getElem?_eq_getElem hil] at hi; simpa using hi
    have e2 : q[j] = y := by rw [List.getElem?_eq_getElem hjl] at hj; simpa using hj
    rcases Nat.lt_trichotomy i j with h | h | h
    · omega
    · subst h; omega
    · have := (List.pairwise_iff_getElem.1 hqs) j i hjl hil h
      omega
  have hlen : (q.length : Int) ≤ 12 := by
    rcases isChoiceI_long hq with h | h
    · omega
    · simp [h]
  refine ⟨by omega, hlen, fun r hr => ?_, ?_⟩
  · obtain ⟨s, hsl, h1, h2, rfl⟩ := mem_chooseP.1 hr
    have h3 := hmono _ _ h1 h2 (hm s hsl).2.1
    obtain ⟨j, ej, hj⟩ := ltI_mem hqs h2
    have hjl : j < q.length := (List.getElem?_eq_some_iff.1 hj).1
    have := ltI_le q s.1
    simp only
    omega
  · unfold chooseP
    rw [List.pairwise_filterMap]
    refine List.Pairwise.imp (fun {a b} hlt u hu v hv => ?_) hs
    split at hu
    · split at hv
      · rename_i h1 h2
        rw [List.contains_iff_mem, List.contains_iff_mem] at h1 h2
        simp only [Option.some.injEq] at hu hv
        subst hu
        subst hv
        unfold plt at hlt ⊢
        rcases hlt with hlt | ⟨e, hlt⟩
        · exact .inl (hmono _ _ h1.1 h2.1 hlt)
        · exact .inr ⟨by simp only; rw [e], hmono _ _ h1.2 h2.2 hlt⟩
      · cases hv
    · cases hu
theorem tabP_choose {p : Int} {l : PL} {q : List Int} (hp : isP p l = true) (hq : isChoiceI p q = true) : tabP q.length (chosenT l q) = chooseP l q := by
  have hc := chooseP_list hp hq
  have hqs := isChoiceI_sorted hq
  obtain ⟨_, _, hm, hs⟩ := isP_list hp
  have hlen : q.length ≤ 12 := by have := hc.2.1; omega
  refine sorted_ext (filter_list hlen _).2.2.2 hc.2.2.2 fun r => ?_
  unfold tabP
  rw [List.mem_filter, mem_allP, mem_chooseP]
  constructor
  · rintro ⟨⟨h0, h1, h2⟩, ht⟩
    obtain ⟨x, hx⟩ := getSome q r.1.toNat (by omega)
    obtain ⟨y, hy⟩ := getSome q r.2.toNat (by omega)
    have hx0 := isChoiceI_mem hq x (List.mem_of_getElem? hx)
    have hy0 := isChoiceI_mem hq y (List.mem_of_getElem? hy)
    have ex := gI_at hx hx0.1
    have ey := gI_at hy hy0.1
    have hxy : x < y := by
      have hil : r.1.toNat < q.length := (List.getElem?_eq_some_iff.1 hx).1
      have hjl : r.2.toNat < q.length := (List.getElem?_eq_some_iff.1 hy).1
      have := (List.pairwise_iff_getElem.1 hqs) _ _ hil hjl (by omega)
      rw [List.getElem?_eq_getElem hil] at hx
      rw [List.getElem?_eq_getElem hjl] at hy
      simp only [Option.some.injEq] at hx hy
      rwa [hx, hy] at this
    have hmem : (x, y) ∈ l := by
      unfold chosenT adj at ht
      rw [ex, ey, Bool.or_eq_true, List.contains_iff_mem, List.contains_iff_mem] at ht
      rcases ht with ht | ht
      · exact ht
      · have := hm _ ht
        simp only at this
        omega
    refine ⟨(x, y), hmem, List.mem_of_getElem? hx, List.mem_of_getElem? hy, ?_⟩
    rw [ltI_at hqs hx, ltI_at hqs hy]
    exact Prod.ext (by simp; omega) (by simp; omega)
  · rintro ⟨s, hsl, h1, h2, rfl⟩
    have hin := hc.2.2.1 _ (mem_chooseP.2 ⟨s, hsl, h1, h2, rfl⟩)
    refine ⟨hin, ?_⟩
    obtain ⟨i, ei, hi⟩ := ltI_mem hqs h1
    obtain ⟨j, ej, hj⟩ := ltI_mem hqs h2
    have hs0 := hm s hsl
    simp only [ei, ej, Int.toNat_natCast]
    unfold chosenT adj
    rw [gI_at hi (by omega), gI_at hj (by omega), Bool.or_eq_true, List.contains_iff_mem]
    left
    exact hsl
end Go.Proofs.Ythpapkfpcijpoaa
/-
  WAYS TO CHOOSE: the program's 'waysToChoose' and the model's 'trChoose', by their contracts; 'GroupBound', 'LeastMustHave', 'LeastOneKind'.
-/
namespace Go.Proofs.Ythpapkfpcijpoaa
open Go.RowKit

/-- the product of the first steps, as the program takes them -/
def waysI (n : Int) : Nat → Int
  | 0 => 1
  | i + 1 => (waysI n i * (n - i)).tdiv (i + 1)
/-- as the model takes them -/
def stepsI (n k : Int) : Nat → Int
  | 0 => 1
  | i + 1 => (stepsI n k i * (n - k + (i + 1))).tdiv (i + 1)
def InWays (n : Int) (k : Nat) : Prop := (0 ≤ n ∧ n ≤ 12 ∧ k ≤ 12) ∨ (0 ≤ n ∧ n ≤ 132 ∧ k ≤ 2)
theorem waysI_all : (∀ n : Fin 13, ∀ k : Fin 13, 0 ≤ waysI (n.val : Int) k.val ∧ waysI (n.val : Int) k.val ≤ 10000) ∧ (∀ n : Fin 133, ∀ k : Fin 3, 0 ≤ waysI (n.val : Int) k.val ∧ waysI (n.val : Int) k.val ≤ 10000) := by
  constructor <;> decide +kernel
theorem waysI_bound {n : Int} {k : Nat} (h : InWays n k) : 0 ≤ waysI n k ∧ waysI n k ≤ 10000 := by
  rcases h with ⟨h0, h1, h2⟩ | ⟨h0, h1, h2⟩
  · have := waysI_all.1 ⟨n.toNat, by omega⟩ ⟨k, by omega⟩
    rwa [show ((n.toNat : Nat) : Int) = n from by omega] at this
  · have := waysI_all.2 ⟨n.toNat, by omega⟩ ⟨k, by omega⟩
    rwa [show ((n.toNat : Nat) : Int) = n from by omega] at this
theorem InWays.less {n : Int} {k i : Nat} (h : InWays n k) (hi : i ≤ k) : InWays n i := by unfold InWays at *; omega
theorem stepsI_all : (∀ n : Fin 13, ∀ k : Fin 13, k.val ≤ n.val → ∀ i : Fin 13, i.val ≤ k.val → 0 ≤ stepsI (n.val : Int) (k.val : Int) i.val ∧ stepsI (n.val : Int) (k.val : Int) i.val ≤ 10000) ∧ (∀ n : Fin 133, ∀ k : Fin 3, k.val ≤ n.val → ∀ i : Fin 3, i.val ≤ k.val → 0 ≤ stepsI (n.val : Int) (k.val : Int) i.val ∧ stepsI (n.val : Int) (k.val : Int) i.val ≤ 10000) := by
  constructor <;> decide +kernel
theorem stepsI_bound {n : Int} {k i : Nat} (h : InWays n k) (hk : (k : Int) ≤ n) (hi : i ≤ k) : 0 ≤ stepsI n k i ∧ stepsI n k i ≤ 10000 := by
  rcases h with ⟨h0, h1, h2⟩ | ⟨h0, h1, h2⟩
  · have := stepsI_all.1 ⟨n.toNat, by omega⟩ ⟨k, by omega⟩ (by show k ≤ n.toNat; omega) ⟨i, by omega⟩ hi
    rwa [show ((n.toNat : Nat) : Int) = n from by omega] at this
  · have := stepsI_all.2 ⟨n.toNat, by omega⟩ ⟨k, by omega⟩ (by show k ≤ n.toNat; omega) ⟨i, by omega⟩ hi
    rwa [show ((n.toNat : Nat) : Int) = n from by omega] at this
theorem ways_steps_all : (∀ n : Fin 13, ∀ k : Fin 13, waysI (n.val : Int) k.val = if k.val > n.val then 0 else stepsI (n.val : Int) (k.val : Int) k.val) ∧ (∀ n : Fin 133, ∀ k : Fin 3, waysI (n.val : Int) k.val = if k.val > n.val then 0 else stepsI (n.val : Int) (k.val : Int) k.val) := by
  constructor <;> decide +kernel
theorem ways_steps {n : Int} {k : Nat} (h : InWays n k) : waysI n k = if (k : Int) > n then 0 else stepsI n k k := by
  rcases h with ⟨h0, h1, h2⟩ | ⟨h0, h1, h2⟩
  · have := ways_steps_all.1 ⟨n.toNat, by omega⟩ ⟨k, by omega⟩
    rw [show ((n.toNat : Nat) : Int) = n from by omega] at this
    rw [this]
    by_cases hk : k > n.toNat
    · rw [if_pos hk, if_pos (by omega)]
    · rw [if_neg hk, if_neg (by omega)]
  · have := ways_steps_all.2 ⟨n.toNat, by omega⟩ ⟨k, by omega⟩
    rw [show ((n.toNat : Nat) : Int) = n from by omega] at this
    rw [this]
    by_cases hk : k > n.toNat
    · rw [if_pos hk, if_pos (by omega)]
    · rw [if_neg hk, if_neg (by omega)]
/-- what a step's product is within -/
theorem mul_within {a b : Int} (ha : 0 ≤ a ∧ a ≤ 10000) (hb : -200 ≤ b ∧ b ≤ 200) : -2000000 ≤ a * b ∧ a * b ≤ 2000000 := by
  constructor
  · have h1 : a * (-200) ≤ a * b := Int.mul_le_mul_of_nonneg_left hb.1 ha.1
    omega
  · have h1 : a * b ≤ a * 200 := Int.mul_le_mul_of_nonneg_left hb.2 ha.1
    omega
theorem wrap_small {x : Int} (h : -9223372036854775808 ≤ x ∧ x ≤ 9223372036854775807) : IntKind.i64.wrap x = x := by simp [IntKind.wrap, IntKind.bits, IntKind.signed]; omega

end Go.Proofs.Ythpapkfpcijpoaa
/-
  GROUPS AS PLAIN LISTS: a list is a group just if all of its pairs are chosen. Nothing here speaks of the program.
-/
namespace Go.Proofs.Ythpapkfpcijpoaa
open Go.RowKit

/-- a person who is a friend of all of a list -/
def knowsI (l : PL) (q : List Int) (x : Int) : Bool := q.all fun y => adj l x.toNat y.toNat
def groupAt (p : Int) (l : PL) (q : List Int) (k : Nat) : Bool := choiceAt p q k && knowsI l (q.take k) (q.getD k 0)
def isGroupI (p : Int) (l : PL) (q : List Int) : Bool := (List.range q.length).all (groupAt p l q)
theorem isGroupI_of {p : Int} {l : PL} {q : List Int} (h : ∀ i, i < q.length → groupAt p l q i = true) : isGroupI p l q = true := by
  simp only [isGroupI, List.all_eq_true, List.mem_range]
  exact h
theorem isGroupI_no {p : Int} {l : PL} {q : List Int} {i : Nat} (hi : i < q.length) (h : groupAt p l q i = false) : isGroupI p l q = false := by
  cases he : isGroupI p l q with
  | false => rfl
  | true =>
    simp only [isGroupI, List.all_eq_true, List.mem_range] at he
    rw [he i hi] at h
    cases h
theorem allP_length : ∀ n : Fin 13, ((allP n.val).length : Int) = waysI n.val 2 := by decide +kernel
theorem allP_ways {n : Nat} (hn : n ≤ 12) : ((allP n).length : Int) = waysI n 2 := allP_length ⟨n, by omega⟩
theorem groups_all {p : Int} {l : PL} {q : List Int} (hp : isP p l = true) (hq : isChoiceI p q = true) : isGroupI p l q = decide (((chooseP l q).length : Int) = waysI q.length 2) := by
  have hlen : q.length ≤ 12 := by have := isP_range hp; rcases isChoiceI_long hq with h | h; (· omega); (· simp [h])
  have hall : ((chooseP l q).length : Int) = waysI q.length 2 ↔ ∀ i j, i < j → j < q.length → chosenT l q i j = true := by
    rw [← tabP_choose hp hq, ← allP_ways hlen]
    unfold tabP
    constructor
    · intro h
      have h2 := List.length_filter_eq_length_iff.1 (Int.ofNat_inj.1 h)
      intro i j hij hj
      have := h2 ((i : Int), (j : Int)) (mem_allP.2 ⟨by simp, by simp; omega, by simp; omega⟩)
      simpa using this
    · intro h
      congr 1
      rw [List.length_filter_eq_length_iff]
      intro r hr
      have h3 := mem_allP.1 hr
      exact h r.1.toNat r.2.toNat (by omega) (by omega)
  have hat : ∀ k, k < q.length → (groupAt p l q k = true ↔ ∀ i, i < k → chosenT l q i k = true) := by
    intro k hk
    unfold groupAt knowsI
    rw [isChoiceI_good hq hk, Bool.true_and, List.all_eq_true]
    constructor
    · intro h i hi
      obtain ⟨y, hy⟩ := getSome q i (by omega)
      have := h y (List.mem_of_getElem? (l := q.take k) (i := i) (by rw [List.getElem?_take, if_pos hi]; exact hy))
      unfold chosenT gI
      rw [adj_comm, show q.getD i 0 = y by rw [List.getD_eq_getElem?_getD, hy]; rfl]
      exact this
    · intro h y hy
      obtain ⟨i, hi, e⟩ := List.getElem_of_mem hy
      rw [List.length_take] at hi
      rw [List.getElem_take] at e
      have := h i (by omega)
      unfold chosenT gI at this
      rw [adj_comm, show q.getD i 0 = y by rw [List.getD_eq_getElem?_getD, List.getElem?_eq_getElem (by omega), e]; rfl] at this
      exact this
  by_cases h : ((chooseP l q).length : Int) = waysI q.length 2
  · rw [decide_eq_true h]
    exact isGroupI_of fun k hk => (hat k hk).2 fun i hi => hall.1 h i k hi hk
  · rw [decide_eq_false h]
    cases he : isGroupI p l q with
    | false => rfl
    | true =>
      refine absurd (hall.2 fun i j hij hj => ?_) h
      simp only [isGroupI, List.all_eq_true, List.mem_range] at he
      exact (hat j hj).1 (he j hj) i hij
theorem groups_not {p : Int} {l : PL} {q : List Int} (hq : isChoiceI p q = false) : isGroupI p l q = false := by
  simp only [isChoiceI, List.all_eq_false, List.mem_range] at hq
  obtain ⟨k, hk, h⟩ := hq
  exact isGroupI_no hk (by unfold groupAt; simp only [Bool.not_eq_true] at h; rw [h, Bool.false_and])
def resIsGroup (p : Int) (l : PL) (q : List Int) : Bool × Bool := if isP p l then (isGroupI p l q, true) else (false, false)
end Go.Proofs.Ythpapkfpcijpoaa
/-
  'IsGroup' of the model, by its contract.
-/
namespace Go.Proofs.Ythpapkfpcijpoaa
open Go.RowKit

theorem getD_is {q : List Int} {k : Nat} {x : Int} (h : q[k]? = some x) : q.getD k 0 = x := by rw [List.getD_eq_getElem?_getD, h]; rfl

end Go.Proofs.Ythpapkfpcijpoaa
/-
  THE MODEL's GROUPS OF A SIZE ('spec.trGroups'), by its contract: induction on how many are still to come.
-/
namespace Go.Proofs.Ythpapkfpcijpoaa
open Go.RowKit

theorem candR_set {t : Nat → Nat → Bool} {n : Nat} (hn : n ≤ 12) (q : List Int) (a : Nat) : (candR t n q a).length ≤ 12 := by
  unfold candR
  refine Nat.le_trans (List.length_filter_le _ _) ?_
  simp only [List.length_range']
  omega
theorem lists_candR {t : Nat → Nat → Bool} {n k : Nat} (hn : n ≤ 12) (q : List Int) (a : Nat) : (listsC t k q (candR t n q a)).length ≤ 4096 := by
  have h1 := listsC_length_le t k q (candR t n q a)
  have h2 : 2 ^ (candR t n q a).length ≤ 2 ^ 12 := Nat.pow_le_pow_right (by omega) (candR_set hn q a)
  omega
theorem Try.infoIntsG : (Try.prog.info? 45).map (fun i => (i.zero, i.size, i.bytes)) = some (some (.slice none 0 0), 1, 24) := by kernel_rfl

end Go.Proofs.Ythpapkfpcijpoaa
/-
  'CountGroups': the model's and the program's, by their contracts.
-/
namespace Go.Proofs.Ythpapkfpcijpoaa
open Go.RowKit

theorem friendsT_of {n : Int} {l : PL} (h : isP n l = true) : TiesOf (friendsT l) (adj l) := by
  have hn := isP_range h
  have hl := (isP_list h).2.2.1
  have key : ∀ m, m ≤ l.length → TiesOf (friendsT (l.take m)) (adj (l.take m)) := by
    intro m
    induction m with
    | zero => intro _; exact TiesOf.none
    | succ m ih =>
      intro hm
      obtain ⟨⟨x, y⟩, hx⟩ := getSome l m (by omega)
      have h0 := hl _ (List.mem_of_getElem? hx)
      simp only at h0
      obtain ⟨a, rfl⟩ : ∃ a : Nat, x = a := ⟨x.toNat, by omega⟩
      obtain ⟨b, rfl⟩ : ∃ b : Nat, y = b := ⟨y.toNat, by omega⟩
      rw [List.take_add_one, hx, Option.toList_some, friendsT_snoc, adj_snoc]
      exact (ih (by omega)).with (by omega) (by omega) (by omega)
  have := key l.length (Nat.le_refl _)
  rwa [List.take_length] at this
theorem candR_all (t : Nat → Nat → Bool) (n : Nat) : candR t n [] 0 = List.range n := by
  unfold candR
  rw [List.filter_eq_self.2 (by simp), Nat.sub_zero, List.range_eq_range']
/-- the groups of a size -/
def groupsL (n : Nat) (l : PL) (k : Nat) : List (List Int) := listsC (adj l) k [] (List.range n)
theorem groupsL_few {n : Nat} (hn : n ≤ 12) (l : PL) (k : Nat) : (groupsL n l k).length ≤ 4096 := lists_few (IsSet.people (n := n) (by omega)) (fun b hb => by have := List.mem_range.1 hb; omega)
def resCountGroups (p : Int) (l : PL) (k : Int) : Int × Bool := if isP p l && decide (0 ≤ k ∧ k ≤ 12) then ((groupsL p.toNat l k.toNat).length, true) else (0, false)

end Go.Proofs.Ythpapkfpcijpoaa
/-
  HOW MANY LISTS OF TIED PEOPLE HAVE A PERSON. Nothing here speaks of the program.
-/
namespace Go.Proofs.Ythpapkfpcijpoaa
open Go.RowKit

theorem listsC_told (t : Nat → Nat → Bool) : ∀ (k : Nat) (told : List Int) (cs : List Nat), listsC t k told cs = (listsC t k [] cs).map (told ++ ·) := by
  intro k told cs
  induction h : k + cs.length using Nat.strongRecOn generalizing k told cs with
  | _ n ih =>
    match k, cs with
    | 0, cs => rw [listsC_zero, listsC_zero]; simp
    | k + 1, [] => rw [listsC_nil, listsC_nil]; rfl
    | k + 1, a :: cs =>
      simp only [List.length_cons] at h
      have h0 : (cs.filter (t a)).length ≤ cs.length := List.length_filter_le _ _
      rw [listsC_cons, listsC_cons, List.map_append, ih (k + (cs.filter (t a)).length) (by omega) k (told ++ [(a : Int)]) _ rfl, ih (k + 1 + cs.length) (by omega) (k + 1) told cs rfl,
        ih (k + (cs.filter (t a)).length) (by omega) k ([] ++ [(a : Int)]) _ rfl, List.map_map]
      congr 1
      refine List.map_congr_left fun x _ => ?_
      simp
theorem listsC_len (t : Nat → Nat → Bool) (k : Nat) (told : List Int) (cs : List Nat) : (listsC t k told cs).length = (listsC t k [] cs).length := by rw [listsC_told, List.length_map]
theorem listsC_size (t : Nat → Nat → Bool) : ∀ (k : Nat) (told : List Int) (cs : List Nat), ∀ l ∈ listsC t k told cs, l.length = told.length + k := by
  intro k told cs
  induction h : k + cs.length using Nat.strongRecOn generalizing k told cs with
  | _ n ih =>
    match k, cs with
    | 0, cs => rw [listsC_zero]; simp
    | k + 1, [] => rw [listsC_nil]; simp
    | k + 1, a :: cs =>
      simp only [List.length_cons] at h
      have h0 : (cs.filter (t a)).length ≤ cs.length := List.length_filter_le _ _
      rw [listsC_cons]
      intro l hl
      rcases List.mem_append.1 hl with hl | hl
      · have := ih (k + (cs.filter (t a)).length) (by omega) k _ _ rfl l hl
        simp at this
        omega
      · have := ih (k + 1 + cs.length) (by omega) (k + 1) _ _ rfl l hl
        omega
/-- whom a list has -/
theorem listsC_mem (t : Nat → Nat → Bool) : ∀ (k : Nat) (told : List Int) (cs : List Nat), ∀ l ∈ listsC t k told cs, ∀ x ∈ l, x ∈ told ∨ ∃ b ∈ cs, x = ((b : Nat) : Int) := by
  intro k told cs
  induction h : k + cs.length using Nat.strongRecOn generalizing k told cs with
  | _ n ih =>
    match k, cs with
    | 0, cs => rw [listsC_zero]; intro l hl x hx; simp at hl; subst hl; exact .inl hx
    | k + 1, [] => rw [listsC_nil]; simp
    | k + 1, a :: cs =>
      simp only [List.length_cons] at h
      have h0 : (cs.filter (t a)).length ≤ cs.length := List.length_filter_le _ _
      rw [listsC_cons]
      intro l hl x hx
      rcases List.mem_append.1 hl with hl | hl
      · rcases ih (k + (cs.filter (t a)).length) (by omega) k _ _ rfl l hl x hx with h1 | ⟨b, hb, h1⟩
        · rcases List.mem_append.1 h1 with h1 | h1
          · exact .inl h1
          · simp at h1
            exact .inr ⟨a, by simp, h1⟩
        · exact .inr ⟨b, by simp [(List.mem_filter.1 hb).1], h1⟩
      · rcases ih (k + 1 + cs.length) (by omega) (k + 1) _ _ rfl l hl x hx with h1 | ⟨b, hb, h1⟩
        · exact .inl h1
        · exact .inr ⟨b, by simp [hb], h1⟩
/-- how many lists have a person -/
def hasN (L : List (List Int)) (a : Nat) : Nat := L.countP (hasI · a)
theorem hasN_append (L M : List (List Int)) (a : Nat) : hasN (L ++ M) a = hasN L a + hasN M a := List.countP_append
theorem hasN_none {t : Nat → Nat → Bool} {k : Nat} {told : List Int} {cs : List Nat} {a : Nat} (h0 : (a : Int) ∉ told) (h : a ∉ cs) : hasN (listsC t k told cs) a = 0 := by
  refine List.countP_eq_zero.2 fun l hl hc => ?_
  rcases listsC_mem t k told cs l hl _ (hasI_mem.1 hc) with h1 | ⟨b, hb, h1⟩
  · exact h0 h1
  · have : a = b := by omega
    exact h (this ▸ hb)
theorem hasN_all {t : Nat → Nat → Bool} {k : Nat} {told : List Int} {cs : List Nat} {a : Nat} (h0 : (a : Int) ∈ told) : hasN (listsC t k told cs) a = (listsC t k told cs).length := by
  refine List.countP_eq_length.2 fun l hl => ?_
  rw [listsC_told] at hl
  obtain ⟨m, _, rfl⟩ := List.mem_map.1 hl
  exact hasI_mem.2 (List.mem_append_left _ h0)
theorem hasN_listsC {t : Nat → Nat → Bool} (hsym : ∀ i j, t i j = t j i) {a : Nat} (hirr : t a a = false) : ∀ (k : Nat) (told : List Int) (cs : List Nat),
    cs.Pairwise (· < ·) → a ∈ cs → (a : Int) ∉ told → hasN (listsC t (k + 1) told cs) a = (listsC t k [] (cs.filter (t a))).length := by
  intro k told cs
  induction h : k + cs.length using Nat.strongRecOn generalizing k told cs with
  | _ n ih =>
    intro hs ha h0
    match cs with
    | [] => simp at ha
    | x :: cs =>
      simp only [List.length_cons] at h
      obtain ⟨hx, hs'⟩ := List.pairwise_cons.1 hs
      have hl0 : (cs.filter (t x)).length ≤ cs.length := List.length_filter_le _ _
      rw [listsC_cons, hasN_append]
      by_cases e : x = a
      · subst e
        have hn : x ∉ cs := fun hc => by have := hx x hc; omega
        rw [hasN_all (by simp), hasN_none h0 hn, listsC_len, List.filter_cons_of_neg (by simp [hirr])]
        omega
      · have ha' : a ∈ cs := by rcases List.mem_cons.1 ha with h | h; exact absurd h.symm e; exact h
        have h1 : (a : Int) ∉ told ++ [(x : Int)] := by simp [h0]; omega
        rw [ih (k + cs.length) (by omega) k told cs rfl hs' ha' h0]
        match k with
        | 0 =>
          rw [listsC_zero, listsC_zero, listsC_zero]
          have : hasN [told ++ [(x : Int)]] a = 0 := List.countP_eq_zero.2 fun l hl hc => by
            simp only [List.mem_singleton] at hl
            subst hl
            exact h1 (hasI_mem.1 hc)
          rw [this]
          simp
        | k + 1 =>
          cases hxa : t x a with
          | true =>
            have hax : t a x = true := by rw [hsym, hxa]
            rw [ih (k + (cs.filter (t x)).length) (by omega) k _ _ rfl (hs'.filter _) (List.mem_filter.2 ⟨ha', hxa⟩) h1, List.filter_cons_of_pos hax, listsC_cons, List.length_append, listsC_len t k ([] ++ [(x : Int)])]
            congr 2
            rw [List.filter_filter, List.filter_filter]
            congr 1
            exact List.filter_congr fun b _ => Bool.and_comm _ _
          | false =>
            have hax : ¬ t a x = true := by rw [hsym, hxa]; simp
            rw [hasN_none h1 (fun hc => by have := (List.mem_filter.1 hc).2; simp [hxa] at this), List.filter_cons_of_neg hax]
            omega
end Go.Proofs.Ythpapkfpcijpoaa
/-
  'ThreesAt': the model's and the program's, by their contracts.
-/
namespace Go.Proofs.Ythpapkfpcijpoaa
open Go.RowKit

theorem adj_of {n : Nat} {l : PL} (h : isP n l = true) {a b : Nat} (hab : adj l a b = true) : a < n ∧ b < n ∧ a ≠ b := by
  have hl := (isP_list h).2.2.1
  unfold adj at hab
  simp only [Bool.or_eq_true, List.contains_iff_mem] at hab
  rcases hab with hab | hab
  · have := hl _ hab; simp only at this; omega
  · have := hl _ hab; simp only at this; omega
theorem adj_self {n : Nat} {l : PL} (h : isP n l = true) (a : Nat) : adj l a a = false := by
  cases e : adj l a a with
  | false => rfl
  | true => exact absurd rfl (adj_of h e).2.2
theorem friends_set {n : Nat} {l : PL} (h : isP n l = true) {T : Nat → Nat} (hT : TiesOf T (adj l)) {a : Nat} (ha : a < n) : IsSet (T a) ((List.range n).filter (adj l a)) := by
  have hn := isP_range h
  refine ⟨List.pairwise_lt_range.filter _, fun b hb => by have := List.mem_range.1 (List.mem_filter.1 hb).1; omega, fun b => ?_⟩
  rw [List.mem_filter, List.mem_range]
  by_cases hb : b < 16
  · rw [hT.bit a b (by omega) hb]
    exact ⟨fun e => ⟨(adj_of h e).2.1, e⟩, fun e => e.2⟩
  · have : (T a).testBit b = false := Nat.testBit_lt_two_pow (Nat.lt_of_lt_of_le (hT.lt a (by omega)) (Nat.pow_le_pow_right (n := 2) (i := 16) (by omega) (by omega)))
    rw [this]
    simp
    omega
def threesAtN (n : Nat) (l : PL) (a : Nat) : Nat := hasN (groupsL n l 3) a
theorem threesAt_eq {n : Nat} {l : PL} (h : isP n l = true) {a : Nat} (ha : a < n) : (listsC (adj l) 2 [] ((List.range n).filter (adj l a))).length = threesAtN n l a := by
  unfold threesAtN groupsL
  rw [hasN_listsC (adj_comm l) (adj_self h a) 2 [] _ List.pairwise_lt_range (List.mem_range.2 ha) (by simp)]
def resThreesAt (p : Int) (l : PL) (a : Int) : Int × Bool := if isP p l && isMan p a then (threesAtN p.toNat l a.toNat, true) else (0, false)

end Go.Proofs.Ythpapkfpcijpoaa
/-
  'IsWindmill': the model's and the program's, by their contracts.
-/
namespace Go.Proofs.Ythpapkfpcijpoaa
open Go.RowKit

theorem wrap_of_lt' (n : Nat) (h : n ≤ 12) : IntKind.i64.wrap ((n : Int) - 1) = (n : Int) - 1 := by
  have hc : n = 0 ∨ n = 1 ∨ n = 2 ∨ n = 3 ∨ n = 4 ∨ n = 5 ∨ n = 6 ∨ n = 7 ∨ n = 8 ∨ n = 9 ∨ n = 10 ∨ n = 11 ∨ n = 12 := by omega
  rcases hc with rfl | rfl | rfl | rfl | rfl | rfl | rfl | rfl | rfl | rfl | rfl | rfl | rfl <;> decide
def notTwo (x : Int) : Bool := decide (x ≠ 2)
theorem bump_get {acc : List Int} {x a : Nat} (hx : x < acc.length) : (bump acc (x : Int)).getD a 0 = acc.getD a 0 + (if a = x then 1 else 0) := by
  obtain ⟨u, hu⟩ := getSome acc x hx
  rw [bump_at hu, List.getD_eq_getElem?_getD, List.getD_eq_getElem?_getD, List.getElem?_set]
  by_cases h : x = a
  · subst h
    rw [if_pos rfl, if_pos hx, if_pos rfl, hu]
    rfl
  · rw [if_neg h, if_neg (fun e => h e.symm), Int.add_zero]
theorem numsOf_friends {n : Nat} {l : PL} (h : isP n l = true) {a : Nat} (_ha : a < n) : (numsOf n l).getD a 0 = ((friendsI l (a : Int)).length : Int) := by
  have hl := (isP_list h).2.2.1
  have key : ∀ m, m ≤ l.length → (numsOf n (l.take m)).getD a 0 = ((friendsI (l.take m) (a : Int)).length : Int) := by
    intro m
    induction m with
    | zero =>
      intro _
      have : (List.replicate n (0 : Int)).getD a 0 = 0 := by
        rw [List.getD_eq_getElem?_getD, List.getElem?_replicate]
        split <;> rfl
      simpa [numsOf, friendsI] using this
    | succ m ih =>
      intro hm
      obtain ⟨⟨x, y⟩, hx⟩ := getSome l m (by omega)
      have h0 := hl _ (List.mem_of_getElem? hx)
      simp only at h0
      obtain ⟨u, rfl⟩ : ∃ a : Nat, x = a := ⟨x.toNat, by omega⟩
      obtain ⟨v, rfl⟩ : ∃ b : Nat, y = b := ⟨y.toNat, by omega⟩
      rw [List.take_add_one, hx, Option.toList_some, numsOf_snoc]
      simp only
      rw [bump_get (by rw [bump_length, numsOf_length]; omega), bump_get (by rw [numsOf_length]; omega), ih (by omega)]
      unfold friendsI
      rw [List.filterMap_append, List.length_append]
      simp only [List.filterMap_cons, List.filterMap_nil]
      by_cases h1 : a = u
      · subst h1
        rw [if_pos rfl, if_pos rfl, if_neg (by omega)]
        simp
      · by_cases h2 : a = v
        · subst h2
          rw [if_neg h1, if_pos rfl, if_neg (by omega), if_pos rfl]
          simp
        · rw [if_neg h1, if_neg h2, if_neg (by omega), if_neg (by omega)]
          simp
  have := key l.length (Nat.le_refl _)
  rwa [List.take_length] at this
theorem numsOf_le {n : Nat} {l : PL} (h : isP n l = true) : ∀ x ∈ numsOf n l, x ≤ (n : Int) - 1 := by
  intro x hx
  obtain ⟨a, ha⟩ := List.getElem?_of_mem hx
  have han : a < n := by have := (List.getElem?_eq_some_iff.1 ha).1; rwa [numsOf_length] at this
  have e := numsOf_friends h han
  rw [List.getD_eq_getElem?_getD, ha, Option.getD_some, ← friends_same h] at e
  have hlen : (friendR n (adj l a)).length = ((List.range n).filter (adj l a)).length := by simp [friendR]
  rw [hlen] at e
  have hself := adj_self h a
  have hlt : ((List.range n).filter (adj l a)).length < (List.range n).length := by
    rw [List.length_filter_lt_length_iff_exists]
    exact ⟨a, List.mem_range.2 han, by rw [hself]; simp⟩
  rw [List.length_range] at hlt
  omega
set_option maxHeartbeats 400000 in
theorem notTwo_any (x : Int) (w : World) : Calls Try.prog 71 #[.int .i64 x] w fun e w' => e = .returned (.bool (notTwo x)) ∧ w = w' := by
  by_cases h : x = 2
  · subst h
    go_enter Try.func71, Try.ntmps71
    go_wp2
    go_ret
    exact ⟨rfl, rfl⟩
  · have hne : (x == 2) = false := by simp only [beq_eq_false_iff_ne, ne_eq]; exact h
    rw [show notTwo x = true from decide_eq_true h]
    go_enter Try.func71, Try.ntmps71
    go_wp2
    go_ret
    exact ⟨by simp; exact h, rfl⟩
theorem any_noI {q : List Int} {f : Int → Bool} (h : ∀ (j : Nat) (x : Int), j < q.length → q[j]? = some x → f x = false) : q.any f = false := by
  rw [List.any_eq_false]
  intro x hx
  obtain ⟨j, hj⟩ := List.getElem?_of_mem hx
  rw [h j x (List.getElem?_eq_some_iff.1 hj).1 hj]
  simp
set_option maxHeartbeats 2000000 in
set_option maxRecDepth 100000 in
theorem indexNotTwo_any (q : List Int) (A : Option Addr) (c : Nat) (w : World) (hl : q.length ≤ 1048576) (hA : CRead w w.heap.size A (icells q)) :
    Calls Try.prog 100 #[.slice A q.length c, .func (.func 71) #[] #[]] w fun e w' => ∃ i : Int, e = .returned (.int .i64 i) ∧ decide (0 ≤ i) = q.any notTwo ∧ w = w' := by
  go_enter Try.func100, Try.ntmps100
  go_wp2
  go_loop [8] (fun i => ∃ k : Nat, k ≤ q.length ∧ i = .int .i64 k ∧ ∀ (j : Nat) (x : Int), j < k → q[j]? = some x → notTwo x = false) (fun i => q.length - (intOf i).toNat)
  case atStart => exact ⟨0, Nat.zero_le _, rfl, fun j x hj => by omega⟩
  case round =>
    obtain ⟨k, hk, rfl, hall⟩ := hrel
    have Hall := Lib.hid hall
    clear hall
    by_cases hlt : k < q.length
    · obtain ⟨x, hx⟩ := getSome q k hlt
      obtain ⟨bb, off, rfl, hbb, c0⟩ := hA.int hx
      obtain ⟨r, hr⟩ : ∃ r, notTwo x = r := ⟨_, rfl⟩
      have hki : (k : Int) < (q.length : Int) := by omega
      have Hx := Lib.hid hx
      have Hr := Lib.hid hr
      clear hx hr
      go_wp2_with fail
      refine (notTwo_any x _).mono ?_
      rw [Hr.out]
      rintro e w2 ⟨rfl, rfl⟩
      cases r with
      | true =>
        have Hf := Lib.hid (show q.any notTwo = true from List.any_eq_true.2 ⟨_, List.mem_of_getElem? Hx.out, Hr.out⟩)
        go_wp2
        go_ret
        exact ⟨k, rfl, by rw [Hf.out]; exact decide_eq_true (by omega), rfl⟩
      | false =>
        go_wp2
        go_round
        case rel => exact ⟨k + 1, by omega, by go_num, fun j x hj hxj => by
                      by_cases hjk : j = k
                      · subst hjk
                        rw [Hx.out] at hxj
                        rw [← Option.some.inj hxj]
                        exact Hr.out
                      · exact Hall.out j x (by omega) hxj⟩
        case measure => simp [intOf]; omega
    · have hkl : k = q.length := by omega
      have hge : ¬ ((k : Int) < (q.length : Int)) := by omega
      have He := Lib.hid (show q.any notTwo = false from any_noI fun j x hj hx => Hall.out j x (by omega) hx)
      go_wp2
      go_ret
      exact ⟨-1, rfl, by rw [He.out]; rfl, rfl⟩
set_option maxHeartbeats 1000000 in
set_option maxRecDepth 100000 in
theorem containsNotTwo_any (q : List Int) (A : Option Addr) (c : Nat) (w : World) (hl : q.length ≤ 1048576) (hA : CRead w w.heap.size A (icells q)) :
    Calls Try.prog 72 #[.slice A q.length c, .func (.func 71) #[] #[]] w fun e w' => e = .returned (.bool (q.any notTwo)) ∧ w = w' := by
  have call := indexNotTwo_any q A c w hl hA
  have Call := Lib.hid call
  clear call
  go_enter Try.func72, Try.ntmps72
  go_wp2_with fail
  refine Call.out.mono ?_
  rintro e w2 ⟨i, rfl, hi, rfl⟩
  have Hi := Lib.hid hi
  clear hi
  go_wp2
  go_ret
  exact ⟨by rw [← Hi.out]; rfl, rfl⟩
set_option maxHeartbeats 1000000 in
set_option maxRecDepth 100000 in
theorem implIsWindmill_any (p : Int) (l : PL) (A : Option Addr) (c : Nat) (w : World) (hl : l.length ≤ 1048576) (hA : CRead w w.heap.size A (pcells l)) :
    Calls Try.prog 29 #[.agg #[.int .i64 p, .slice A l.length c]] w fun e w' => e = .returned (.tuple #[.bool (resIsWindmill p l).1, .bool (resIsWindmill p l).2]) ∧ Below w.heap.size w w' := by
  have hr : CRead (w.alloc (Obj.cells #[.int .i64 p, .slice A l.length c] 31)) (w.alloc (Obj.cells #[.int .i64 p, .slice A l.length c] 31)).heap.size A (pcells l) := (hA.below (B' := w.heap.size) (by go_grown) (Nat.le_refl _)).more (by go_size)
  obtain ⟨⟨rv, rok⟩, hres⟩ : ∃ x, resIsWindmill p l = x := ⟨_, rfl⟩
  rw [hres]
  cases hp : isP p l with
  | false =>
    have e : (rv, rok) = (false, false) := by rw [← hres]; unfold resIsWindmill; rw [hp]; rfl
    simp only [Prod.mk.injEq] at e
    obtain ⟨rfl, rfl⟩ := e
    have Hp := Lib.hid hp
    clear hp hres
    go_enter Try.func29, Try.ntmps29
    go_wp2_with fail
    refine (isParty_any _ _ _ _ _ hl hr).mono ?_
    rw [Hp.out]
    rintro e w2 ⟨rfl, hb2⟩
    simp only [World.size_alloc] at hb2
    go_wp2
    go_ret2
    exact ⟨rfl, Below.trans (b := _) (by go_grown) (hb2.mono (by omega))⟩
  | true =>
    obtain ⟨n, rfl⟩ : ∃ n : Nat, p = n := ⟨p.toNat, by have := isP_range hp; omega⟩
    have hn := isP_range hp
    have hn12 : n ≤ 12 := by omega
    by_cases h0 : n = 0
    · have e : (rv, rok) = (false, false) := by rw [← hres]; unfold resIsWindmill; rw [decide_eq_false (show ¬ ((0 : Int) < (n : Int)) by omega)]; simp
      simp only [Prod.mk.injEq] at e
      obtain ⟨rfl, rfl⟩ := e
      have Hp := Lib.hid hp
      have Hz := Lib.hid h0
      clear hp hres h0
      go_enter Try.func29, Try.ntmps29
      go_wp2_with fail
      refine (isParty_any _ _ _ _ _ hl hr).mono ?_
      rw [Hp.out]
      rintro e w2 ⟨rfl, hb2⟩
      have c0 : w2.cell? ⟨w.heap.size, 0, none⟩ = some (.int .i64 n) := carry hb2 (by simp) (by simp)
      have hz : ((n : Int) == 0) = true := by have := Hz.out; rw [this]; rfl
      simp only [World.size_alloc] at hb2
      go_wp2
      go_ret2
      exact ⟨rfl, Below.trans (b := _) (by go_grown) (hb2.mono (by omega))⟩
    · have hz : ((n : Int) == 0) = false := by simp only [beq_eq_false_iff_ne, ne_eq]; omega
      have hq := numsOf_length n l
      have hmill := mill_same (fall_perm (numsOf n l)) (fall_sorted (numsOf n l)) (fun x hx => ⟨numsOf_pos hx, by rw [hq]; exact numsOf_le hp x hx⟩) (sum_numsOf hp) (by omega)
      have e : (rv, rok) = (millF (fall (numsOf n l)), true) := by
        rw [← hres, hmill]; unfold resIsWindmill; rw [hp, decide_eq_true (show (0 : Int) < n by omega)]; rfl
      simp only [Prod.mk.injEq] at e
      obtain ⟨rfl, rfl⟩ := e
      have e2 : resNumbersOfFriends n l = (numsOf n l, true) := by simp [resNumbersOfFriends, hp]
      have hnum := fun (X : World) (hX : CRead X X.heap.size A (pcells l)) => implNumbersOfFriends_any n l A c X hl hX
      simp only [e2] at hnum
      have hsl := fall_length (numsOf n l)
      rw [hq] at hsl
      obtain ⟨q, hqd⟩ : ∃ q, numsOf n l = q := ⟨_, rfl⟩
      simp only [hqd] at hnum hq hsl ⊢
      have hsf := fun (A' : Option Addr) (c' : Nat) (X : World) (hX : CRead X X.heap.size A' (icells q)) => sortedFalling_any q A' c' X (by omega) hX
      obtain ⟨s, hs⟩ : ∃ s, fall q = s := ⟨_, rfl⟩
      simp only [hs] at hsf hsl ⊢
      obtain ⟨F, hF⟩ : ∃ F, millF s = F := ⟨_, rfl⟩
      rw [hF]
      have HF := Lib.hid hF
      clear hF
      rw [← hq] at hsl
      have Hq := Lib.hid hq
      have Hsl := Lib.hid hsl
      have Hsf := Lib.hid hsf
      have Hnum := Lib.hid hnum
      have Hp := Lib.hid hp
      have h1n : 0 < n := by omega
      clear hp hres hmill hnum hsf hs hqd e2 h0 hq hsl
      go_enter Try.func29, Try.ntmps29
      go_wp2_with fail
      refine (isParty_any _ _ _ _ _ hl hr).mono ?_
      rw [Hp.out]
      rintro e w2 ⟨rfl, hb2⟩
      have s2 := hb2.size
      have k2 : Below w.heap.size w w2 := Below.trans (b := _) (by go_grown) (hb2.mono (by simp))
      have c0 : w2.cell? ⟨w.heap.size, 0, none⟩ = some (.int .i64 n) := carry hb2 (by simp) (by simp)
      have c1 : w2.cell? ⟨w.heap.size, 1, none⟩ = some (.slice A l.length c) := carry hb2 (by simp) (by simp)
      simp only [World.size_alloc] at s2
      go_wp2_with fail
      refine (Hnum.out w2 ((hA.below k2 (Nat.le_refl _)).more k2.size)).mono ?_
      rintro e w3 ⟨A3, c3, rfl, own3, hb3⟩
      have k3 := k2.trans (hb3.mono k2.size)
      have d0 : w3.cell? ⟨w.heap.size, 0, none⟩ = some (.int .i64 n) := carry hb3 c0 (by omega)
      have s3 := hb3.size
      clear c0 c1
      go_wp2_with fail
      refine (Hsf.out A3 c3 w3 (CRead.of_own own3)).mono ?_
      rintro e w4 ⟨A4, c4, rfl, own4, hb4⟩
      have k4 := k3.trans (hb4.mono k3.size)
      have e0 : w4.cell? ⟨w.heap.size, 0, none⟩ = some (.int .i64 n) := carry hb4 d0 (by omega)
      obtain ⟨g4, rfl⟩ := own_form own4 (by have := Hq.out; have := Hsl.out; omega)
      have hs1 : 0 < s.length := by have := Hq.out; have := Hsl.out; omega
      have hsn : (s.length : Int) = n := by have := Hq.out; have := Hsl.out; omega
      have cs0 : w4.cell? ⟨g4, 0, none⟩ = some (.int .i64 (s.getD 0 0)) := by rw [own4.cellAt 0 (by omega)]; exact icells_getD hs1
      have hcap := own_cap own4
      have hcd : CRead w4 w4.heap.size (if c4 = 1 then some ⟨g4, 0, none⟩ else some ⟨g4, 1, none⟩) (icells (s.drop 1)) := fun j u hu => by
        have hj : j < (s.drop 1).length := by have := (List.getElem?_eq_some_iff.1 hu).1; rwa [icells_length] at this
        rw [List.length_drop] at hj
        rw [if_neg (by omega)]
        refine ⟨g4, 1, rfl, (own_lt own4).2, ?_⟩
        rw [icells_getD (by rw [List.length_drop]; omega)] at hu
        rw [own4.cellAt (1 + j) (by omega), icells_getD (by omega)]
        rw [← hu, List.getD_eq_getElem?_getD, List.getD_eq_getElem?_getD, List.getElem?_drop]
      have hcc := fun k : Nat => containsNotTwo_any (s.drop 1) (if c4 = 1 then some ⟨g4, 0, none⟩ else some ⟨g4, 1, none⟩) (c4 - 1) (w4.drewN k) (by rw [List.length_drop]; have := Hq.out; have := Hsl.out; omega) (hcd.below (B' := w4.heap.size) (below_drewN (Below.refl _ _) k) (Nat.le_refl _))
      simp only [List.length_drop] at hcc
      obtain ⟨x, hx⟩ : ∃ x, s.getD 0 0 = x := ⟨_, rfl⟩
      obtain ⟨r, hr⟩ : ∃ r, (s.drop 1).any notTwo = r := ⟨_, rfl⟩
      have hmf : millF s = (decide (x = (n : Int) - 1) && !r) := by rw [← hx, ← hr, ← hsn]; rfl
      rw [HF.out] at hmf
      have Hmf := Lib.hid hmf
      simp only [hr] at hcc
      rw [hx] at cs0
      have Hcc := Lib.hid hcc
      obtain ⟨m, hm⟩ : ∃ m, s.length = m := ⟨_, rfl⟩
      rw [hm] at hs1 hcap Hcc
      simp only [hm]
      clear d0 own4 hcd hcc hx hr hmf hm hsn hb4 hb3 hb2 k2 k3
      have hmi : (0 : Int) < m := by omega
      have hmi1 : (1 : Int) ≤ m := by omega
      have hci : (m : Int) ≤ c4 := by omega
      by_cases hxn : x = (n : Int) - 1
      · have e := Hmf.out
        rw [decide_eq_true hxn, Bool.true_and] at e
        subst e
        clear Hmf HF
        have hxe : (x == (n : Int) - 1) = true := by rw [hxn]; simp
        clear hxn
        have hwr : IntKind.i64.wrap ((n : Int) - 1) = (n : Int) - 1 := wrap_of_lt' n hn12
        go_wp2
        go_quiet (first | (go_at_call 72; refine Calls.quiet_of_same ((Hcc.out _).mono fun _ _ ⟨he, hw⟩ => ⟨he, hw.symm⟩)))
        all_goals
          go_wp2
          all_goals
            go_ret2
            exact ⟨by simp, k4.trans ((below_drewN (Below.refl _ _) _).mono k4.size)⟩
      · have e := Hmf.out
        rw [decide_eq_false hxn, Bool.false_and] at e
        subst e
        clear Hmf HF
        have hxe : (x == (n : Int) - 1) = false := by simp only [beq_eq_false_iff_ne, ne_eq]; exact hxn
        go_wp2
        go_quiet (fail)
        go_wp2
        go_ret2
        exact ⟨rfl, k4.trans ((below_drewN (Below.refl _ _) _).mono k4.size)⟩
set_option maxHeartbeats 1000000 in
set_option maxRecDepth 100000 in
theorem specIsWindmill_any (p : Int) (l : PL) (A : Option Addr) (c : Nat) (w : World) (hl : l.length ≤ 1048576) (hA : CRead w w.heap.size A (pcells l)) :
    Calls Try.prog 28 #[.agg #[.int .i64 p, .slice A l.length c]] w fun e w' => e = .returned (.tuple #[.bool (resIsWindmill p l).1, .bool (resIsWindmill p l).2]) ∧ Below w.heap.size w w' := by
  have hr : CRead (w.alloc (Obj.cells #[.int .i64 p, .slice A l.length c] 31)) (w.alloc (Obj.cells #[.int .i64 p, .slice A l.length c] 31)).heap.size A (pcells l) := (hA.below (B' := w.heap.size) (by go_grown) (Nat.le_refl _)).more (by go_size)
  obtain ⟨⟨rv, rok⟩, hres⟩ : ∃ x, resIsWindmill p l = x := ⟨_, rfl⟩
  rw [hres]
  have call := cfSome_any p l A c _ hl hr
  cases hs : isP p l && decide (0 < p) with
  | false =>
    have e : (rv, rok) = (false, false) := by rw [← hres]; unfold resIsWindmill; rw [hs]; rfl
    simp only [Prod.mk.injEq] at e
    obtain ⟨rfl, rfl⟩ := e
    rw [hs] at call
    have Call := Lib.hid call
    clear call hs hres
    go_enter Try.func28, Try.ntmps28
    go_wp2_with fail
    refine Call.out.mono ?_
    rintro e w2 ⟨rfl, hb2⟩
    simp only [World.size_alloc] at hb2
    go_wp2
    go_ret2
    exact ⟨rfl, Below.trans (b := _) (by go_grown) (hb2.mono (by omega))⟩
  | true =>
    have hs2 := hs
    rw [Bool.and_eq_true] at hs2
    obtain ⟨hp, h0⟩ := hs2
    have h0 : 0 < p := of_decide_eq_true h0
    obtain ⟨n, rfl⟩ : ∃ n : Nat, p = n := ⟨p.toNat, by omega⟩
    have hn := isP_range hp
    have hq := numsOf_length n l
    have e : (rv, rok) = (millB (numsOf n l) l.length, true) := by rw [← hres]; unfold resIsWindmill; rw [hs]; rfl
    simp only [Prod.mk.injEq] at e
    obtain ⟨e, rfl⟩ := e
    have hnum := fun (X : World) (hX : CRead X X.heap.size A (pcells l)) => paNumbers_any n l A c X hp hX
    simp only [Int.toNat_natCast] at hnum
    have hl66 : l.length ≤ 66 := by have h1 := isP_length hp; have h2 := people_sq hn.1 hn.2; omega
    obtain ⟨q, hqd⟩ : ∃ q, numsOf n l = q := ⟨_, rfl⟩
    rw [hqd] at hq e
    simp only [hqd] at hnum
    unfold millB at e
    rw [hq] at e
    have E := Lib.hid e
    have Hq := Lib.hid hq
    have Hnum := Lib.hid hnum
    rw [hs] at call
    have Call := Lib.hid call
    clear call hs hres hp e hq hnum hqd
    by_cases h1 : n = 1
    · have e := E.out
      rw [decide_eq_true h1, Bool.true_or] at e
      subst e
      have hz : ((n : Int) == 1) = true := by rw [h1]; rfl
      have Hz := Lib.hid hz
      clear hz h1 E
      go_enter Try.func28, Try.ntmps28
      go_wp2_with fail
      refine Call.out.mono ?_
      rintro e w2 ⟨rfl, hb2⟩
      have c0 : w2.cell? ⟨w.heap.size, 0, none⟩ = some (.int .i64 n) := carry hb2 (by simp) (by simp)
      simp only [World.size_alloc] at hb2
      have hz := Hz.out
      go_wp2
      go_ret2
      exact ⟨rfl, Below.trans (b := _) (by go_grown) (hb2.mono (by omega))⟩
    · rw [decide_eq_false h1, Bool.false_or] at E
      have hz : ((n : Int) == 1) = false := by simp only [beq_eq_false_iff_ne, ne_eq]; omega
      go_enter Try.func28, Try.ntmps28
      go_wp2_with fail
      refine Call.out.mono ?_
      rintro e w2 ⟨rfl, hb2⟩
      have s2 := hb2.size
      have k2 : Below w.heap.size w w2 := Below.trans (b := _) (by go_grown) (hb2.mono (by simp))
      have c0 : w2.cell? ⟨w.heap.size, 0, none⟩ = some (.int .i64 n) := carry hb2 (by simp) (by simp)
      have c1 : w2.cell? ⟨w.heap.size, 1, none⟩ = some (.slice A l.length c) := carry hb2 (by simp) (by simp)
      simp only [World.size_alloc] at s2
      go_wp2_with fail
      refine (Hnum.out _ ((hA.below k2 (Nat.le_refl _)).more k2.size)).mono ?_
      rintro e w3 ⟨g3, rfl, own3, hb3⟩
      have k3 := k2.trans (hb3.mono k2.size)
      have d0 : w3.cell? ⟨w.heap.size, 0, none⟩ = some (.int .i64 n) := carry hb3 c0 (by omega)
      have d1 : w3.cell? ⟨w.heap.size, 1, none⟩ = some (.slice A l.length c) := carry hb3 c1 (by omega)
      have hc : ∀ j, j < n → w3.cell? ⟨g3, j, none⟩ = some (.int .i64 (q.getD j 0)) := fun j hj => by rw [own3.cellAt j (by omega)]; exact icells_getD (by have := Hq.out; omega)
      have Hc := Lib.hid hc
      clear hc own3 c0 c1 hb3 hb2
      go_wp2
      go_loop [4, 16] (fun m i => ∃ k : Nat, k ≤ n ∧ i = .int .i64 k ∧ m = .bool ((q.take k).any fun d => decide (d = (n : Int) - 1)) ∧ (∀ j, j < k → q.getD j 0 = (n : Int) - 1 ∨ q.getD j 0 = 2)) (fun _ i => n - (intOf i).toNat)
      case atStart => exact ⟨0, Nat.zero_le _, rfl, rfl, fun j hj => by omega⟩
      case round =>
        obtain ⟨k, hk, rfl, rfl, hall⟩ := hrel
        have Hall := Lib.hid hall
        clear hall
        by_cases hlt : k < n
        · have hki : (k : Int) < (n : Int) := by omega
          have ck := Hc.out k hlt
          obtain ⟨d, hd⟩ : ∃ d, q.getD k 0 = d := ⟨_, rfl⟩
          rw [hd] at ck
          have htk : (q.take (k + 1)).any (fun d => decide (d = (n : Int) - 1)) = ((q.take k).any (fun d => decide (d = (n : Int) - 1)) || decide (d = (n : Int) - 1)) := by
            have hkq : k < q.length := by have := Hq.out; omega
            have hqk : q[k]? = some d := by rw [List.getElem?_eq_getElem hkq, ← hd, List.getD_eq_getElem?_getD, List.getElem?_eq_getElem hkq]; rfl
            rw [List.take_add_one, hqk, Option.toList_some, List.any_append]
            simp
          obtain ⟨M, hM⟩ : ∃ M, (q.take k).any (fun d => decide (d = (n : Int) - 1)) = M := ⟨_, rfl⟩
          rw [hM] at htk ⊢
          have hnxt : (d = (n : Int) - 1 ∨ d = 2) → ∀ j, j < k + 1 → q.getD j 0 = (n : Int) - 1 ∨ q.getD j 0 = 2 := fun h j hj => by
            by_cases hjk : j = k
            · subst hjk; rw [hd]; exact h
            · exact Hall.out j (by omega)
          by_cases hd1 : d = (n : Int) - 1
          · rw [decide_eq_true hd1, Bool.or_true] at htk
            have Htk := Lib.hid htk
            have Hn := Lib.hid (hnxt (.inl hd1))
            have hde : (d == (n : Int) - 1) = true := by rw [hd1]; simp
            clear htk hnxt hd hM hd1
            go_wp2
            go_round
            case rel => exact ⟨k + 1, by omega, by go_num, by rw [Htk.out], Hn.out⟩
            case measure => simp [intOf]; omega
          · rw [decide_eq_false hd1, Bool.or_false] at htk
            have hde : (d == (n : Int) - 1) = false := by simp only [beq_eq_false_iff_ne, ne_eq]; exact hd1
            by_cases hd2 : d = 2
            · have Htk := Lib.hid htk
              have Hn := Lib.hid (hnxt (.inr hd2))
              have hd2e : (d == 2) = true := by rw [hd2]; rfl
              clear htk hnxt hd hM hd1 hd2
              go_wp2
              go_round
              case rel => exact ⟨k + 1, by omega, by go_num, by rw [Htk.out], Hn.out⟩
              case measure => simp [intOf]; omega
            · have e := E.out
              have hf : q.all (fun d => decide (d = (n : Int) - 1 ∨ d = 2)) = false := by
                rw [List.all_eq_false]
                have hkq : k < q.length := by have := Hq.out; omega
                refine ⟨q[k], List.getElem_mem hkq, ?_⟩
                rw [List.getD_eq_getElem?_getD, List.getElem?_eq_getElem hkq] at hd
                simp only [Option.getD_some] at hd
                rw [hd]
                simp [hd1, hd2]
              rw [hf, Bool.false_and, Bool.false_and] at e
              subst e
              have hd2e : (d == 2) = false := by simp only [beq_eq_false_iff_ne, ne_eq]; exact hd2
              clear htk hnxt hd hM hd1 hd2 hf
              go_wp2
              go_ret2
              exact ⟨rfl, k3⟩
        · have e : k = n := by omega
          subst e
          have hge : ¬ ((k : Int) < (k : Int)) := by omega
          have hqk : q.take k = q := List.take_of_length_le (by have := Hq.out; omega)
          rw [hqk]
          have e := E.out
          have hall : q.all (fun d => decide (d = (k : Int) - 1 ∨ d = 2)) = true := by
            rw [List.all_eq_true]
            intro x hx
            obtain ⟨j, hj⟩ := List.getElem?_of_mem hx
            have h := Hall.out j (by have := (List.getElem?_eq_some_iff.1 hj).1; have := Hq.out; omega)
            rw [List.getD_eq_getElem?_getD, hj] at h
            exact decide_eq_true h
          rw [hall, Bool.true_and] at e
          obtain ⟨M, hM⟩ : ∃ M, q.any (fun d => decide (d = (k : Int) - 1)) = M := ⟨_, rfl⟩
          rw [hM] at e ⊢
          obtain ⟨m, hm⟩ : ∃ m, l.length = m := ⟨_, rfl⟩
          rw [hm] at e d1 hl66
          clear hall hM hqk
          cases M with
          | false =>
            rw [Bool.false_and] at e
            subst e
            go_wp2
            go_ret2
            exact ⟨rfl, k3⟩
          | true =>
            rw [Bool.true_and] at e
            by_cases h3 : 2 * (m : Int) = 3 * ((k : Int) - 1)
            · rw [decide_eq_true h3] at e
              subst e
              have h3e : (2 * (m : Int) == 3 * ((k : Int) - 1)) = true := by rw [h3]; simp
              clear h3
              go_wp2
              go_ret2
              exact ⟨rfl, k3⟩
            · rw [decide_eq_false h3] at e
              subst e
              have h3e : (2 * (m : Int) == 3 * ((k : Int) - 1)) = false := by simp only [beq_eq_false_iff_ne, ne_eq]; exact h3
              clear h3
              go_wp2
              go_ret2
              exact ⟨rfl, k3⟩
end Go.Proofs.Ythpapkfpcijpoaa
/-
  'laws.FnExactIsWindmill' returns true, whatever its arguments: out of the contracts of the model's function and of the program's.
-/
namespace Go.Proofs.Ythpapkfpcijpoaa
open Go.RowKit

set_option maxHeartbeats 4000000 in
set_option maxRecDepth 100000 in
theorem lawIsWindmill_any (p0 : Int) (l0 : PL) (A0 : Option Addr) (c0 : Nat) (W : World) (hl0 : l0.length ≤ maxLen) (hA0 : CRead W W.heap.size A0 (pcells l0)) :
    Calls Try.prog 6 #[.agg #[.int .i64 p0, .slice A0 l0.length c0]] W fun e w' => e = .returned (.bool true) ∧ Below W.heap.size W w' := by
  have hone : (0 : Int) ≤ 1 ∧ (1 : Int) ≤ 16777216 := by omega
  by_cases hz0 : szI (1048576) l0.length < 0
  · go_enter Try.func6, Try.ntmps6
    go_wp2_with fail
    refine (szParty_any _ _ _ _ _ hl0 (by omega) (by omega) _).mono ?_
    rintro e w1 ⟨rfl, hb1⟩
    simp only [World.size_alloc] at hb1
    have g1 : Below W.heap.size W w1 := Below.trans (b := _) (by go_grown) (hb1.mono (by omega))
    have s1 := hb1.size
    simp only [World.size_alloc] at s1
    have f1_0 : w1.cell? ⟨W.heap.size, 0, none⟩ = some (.int .i64 p0) := carry hb1 (by simp) (by omega)
    have f1_1 : w1.cell? ⟨W.heap.size, 1, none⟩ = some (.slice A0 l0.length c0) := carry hb1 (by simp) (by omega)
    have k1 : Below W.heap.size W w1 := g1
    go_wp2
    go_ret
    exact ⟨rfl, k1⟩
  have hn0 : l0.length ≤ 1048576 := by have h1 := szI_len _ _ hz0; have h2 := szI_hi (1048576) l0.length (by omega); omega
  have hz0' : 0 ≤ szI (1048576) l0.length := by omega
  have hz0'' : szI (1048576) l0.length ≤ 1048576 := by have h2 := szI_hi (1048576) l0.length (by omega); omega
  obtain ⟨⟨rb, rok⟩, hres⟩ : ∃ r, resIsWindmill p0 l0 = r := ⟨_, rfl⟩
  have Hres := Lib.hid hres
  clear hres
  go_enter Try.func6, Try.ntmps6
  go_wp2_with fail
  refine (szParty_any _ _ _ _ _ hl0 (by omega) (by omega) _).mono ?_
  rintro e w1 ⟨rfl, hb1⟩
  simp only [World.size_alloc] at hb1
  have g1 : Below W.heap.size W w1 := Below.trans (b := _) (by go_grown) (hb1.mono (by omega))
  have s1 := hb1.size
  simp only [World.size_alloc] at s1
  have f1_0 : w1.cell? ⟨W.heap.size, 0, none⟩ = some (.int .i64 p0) := carry hb1 (by simp) (by omega)
  have f1_1 : w1.cell? ⟨W.heap.size, 1, none⟩ = some (.slice A0 l0.length c0) := carry hb1 (by simp) (by omega)
  have k1 : Below W.heap.size W w1 := g1
  go_wp2_with fail
  refine (toParty_any p0 l0 A0 c0 _ hn0 ((hA0.below k1 (Nat.le_refl _)).more k1.size)).mono ?_
  rintro e w2 ⟨T2, d2, rfl, n2, hb2⟩
  have g2 : Below w1.heap.size w1 w2 := hb2
  have s2 := hb2.size
  have f2_0 := carry g2 f1_0 (by omega)
  have f2_1 := carry g2 f1_1 (by omega)
  have k2 := k1.trans (g2.mono k1.size)
  clear f1_0 f1_1
  have r2 : Lies (.slice T2 l0.length d2) (w1.heap.size) w2.heap.size := own_lies n2
  go_wp2_with fail
  refine (specIsWindmill_any p0 l0 _ _ _ hn0 (CRead.of_own n2)).mono ?_
  rw [Hres.out]
  rintro e w3 ⟨rfl, hb3⟩
  have g3 : Below w2.heap.size w2 w3 := hb3
  have s3 := hb3.size
  have f3_0 := carry g3 f2_0 (by omega)
  have f3_1 := carry g3 f2_1 (by omega)
  have o3_0 := own_below n2 g3 (Nat.le_refl _)
  have k3 := k2.trans (g3.mono k2.size)
  clear f2_0 f2_1 n2
  clear o3_0 r2
  go_wp2_with fail
  refine (toParty_any p0 l0 A0 c0 _ hn0 ((hA0.below k3 (Nat.le_refl _)).more k3.size)).mono ?_
  rintro e w4 ⟨T4, d4, rfl, n4, hb4⟩
  have g4 : Below w3.heap.size w3 w4 := hb4
  have s4 := hb4.size
  have f4_0 := carry g4 f3_0 (by omega)
  have f4_1 := carry g4 f3_1 (by omega)
  have k4 := k3.trans (g4.mono k3.size)
  clear f3_0 f3_1
  have r4 : Lies (.slice T4 l0.length d4) (w3.heap.size) w4.heap.size := own_lies n4
  have q5_0 : (w4.alloc (Obj.cells #[.int .i64 p0, .slice T4 l0.length d4] 31)).cell? ⟨W.heap.size, 0, none⟩ = some (.int .i64 p0) := (World.cell?_alloc_lt _ _ _ (show W.heap.size < w4.heap.size by omega)).trans f4_0
  have q5_1 : (w4.alloc (Obj.cells #[.int .i64 p0, .slice T4 l0.length d4] 31)).cell? ⟨W.heap.size, 1, none⟩ = some (.slice A0 l0.length c0) := (World.cell?_alloc_lt _ _ _ (show W.heap.size < w4.heap.size by omega)).trans f4_1
  go_wp2_with fail
  refine (implIsWindmill_any p0 l0 _ _ _ hn0 (((CRead.of_own n4).below (B' := w4.heap.size) (by go_grown) (Nat.le_refl _)).more (by go_size))).mono ?_
  rw [Hres.out]
  rintro e w6 ⟨rfl, hb6⟩
  simp only [World.size_alloc] at hb6
  have g6 : Below w4.heap.size w4 w6 := Below.trans (b := _) (by go_grown) (hb6.mono (by omega))
  have s6 := hb6.size
  simp only [World.size_alloc] at s6
  have f6_0 := carry g6 f4_0 (by omega)
  have f6_1 := carry g6 f4_1 (by omega)
  have f6_2 : w6.cell? ⟨w4.heap.size, 0, none⟩ = some (.int .i64 p0) := carry hb6 (by simp) (by omega)
  have f6_3 : w6.cell? ⟨w4.heap.size, 1, none⟩ = some (.slice T4 l0.length d4) := carry hb6 (by simp) (by omega)
  have o6_0 := own_below n4 g6 (Nat.le_refl _)
  have k6 := k4.trans (g6.mono k4.size)
  clear f4_0 f4_1 n4 q5_0 q5_1
  go_wp2
  go_region_held3 (fun w' => w'.cell? ⟨W.heap.size, 0, none⟩ = some (.int .i64 p0) ∧ w'.cell? ⟨W.heap.size, 1, none⟩ = some (.slice A0 l0.length c0) ∧ w'.cell? ⟨w4.heap.size, 0, none⟩ = some (.int .i64 p0) ∧ w'.cell? ⟨w4.heap.size, 1, none⟩ = some (.slice T4 l0.length d4)) (first | exact ⟨f6_0, f6_1, f6_2, f6_3⟩ | exact ⟨f7_0, f7_1, f7_2, f7_3⟩ | exact ⟨f8_0, f8_1, f8_2, f8_3⟩) ((first | (go_at_call 16; refine (toParty_any p0 l0 A0 c0 _ hn0 ((hA0.below k6.drew (Nat.le_refl _)).more k6.size)).mono ?_; rintro e w7 ⟨T7, d7, rfl, n7, hb7⟩; have g7 : Below w6.heap.size w6 w7 := (Below.refl _ _).drew.trans hb7; have s7 := g7.size; have f7_0 := carry g7 f6_0 (by omega); have f7_1 := carry g7 f6_1 (by omega); have f7_2 := carry g7 f6_2 (by omega); have f7_3 := carry g7 f6_3 (by omega); have o7_0 := own_below o6_0 g7 (Nat.le_refl _); have k7 := k6.trans (g7.mono k6.size)) | (go_at_call 19; refine (eqParty_any p0 p0 l0 l0 _ _ _ _ _ hl0 hl0 (CRead.of_own o7_0) (CRead.of_own n7)).mono ?_; rw [decide_eq_true ⟨rfl, rfl⟩]; rintro e w8 ⟨rfl, hb8⟩; have g8 : Below w7.heap.size w7 w8 := hb8; have s8 := g8.size; have f8_0 := carry g8 f7_0 (by omega); have f8_1 := carry g8 f7_1 (by omega); have f8_2 := carry g8 f7_2 (by omega); have f8_3 := carry g8 f7_3 (by omega); have o8_0 := own_below o7_0 g8 (Nat.le_refl _); have k8 := k7.trans (g8.mono k7.size))))
  clear f6_0 f6_1 f6_2 f6_3 o6_0 f7_0 f7_1 f7_2 f7_3 o7_0 n7
  go_wp2
  go_ret
  exact ⟨rfl, k8⟩
end Go.Proofs.Ythpapkfpcijpoaa
/-
  THE PROGRAM's HEAD, LOOKED AT ONCE: which make it is, and that a call may enter it. (The head's text is long: the kernel must not read it twice.)
-/
namespace Go.Proofs.Ythpapkfpcijpoaa

theorem make_of {P : Program} {rest : List (List Char)} (h : behindMainWord (wordsSigns P.initOrder.toList) = "cut".toList :: rest) : P.make = some .cut := by
  unfold Program.make
  rw [h]
  rfl
theorem strip_cut (rest : List (List Char)) : stripLifts liftWords ("cut".toList :: rest) = ([], "cut".toList :: rest) := rfl
theorem lifts_of {P : Program} {rest : List (List Char)} (h : behindMainWord (wordsSigns P.initOrder.toList) = "cut".toList :: rest) : P.headLifts = [] := by
  unfold Program.headLifts
  rw [h, strip_cut]
  rfl
theorem final_of {P : Program} {rest : List (List Char)} (h : behindMainWord (wordsSigns P.initOrder.toList) = "cut".toList :: rest) : P.liftsFinal = false := by
  unfold Program.liftsFinal
  rw [lifts_of h, h]
  rfl
theorem enter_of {P : Program} {rest : List (List Char)} (h : behindMainWord (wordsSigns P.initOrder.toList) = "cut".toList :: rest) (h1 : P.laysLater = false) (h2 : P.bearsReflect = false) (h3 : P.doorFits [] = true) : P.mayEnter = true := by
  unfold Program.mayEnter
  rw [h]
  show (_ || _ || _) = true
  rw [strip_cut, h1, h2, h3]
  rfl
end Go.Proofs.Ythpapkfpcijpoaa
/-
  THE PROGRAM's CLOSED FACTS, EACH ONCE; and how a row's facts are put together out of them.
-/
namespace Go.Proofs.Ythpapkfpcijpoaa
open Go.ChangeShapes Go.WideShapes Go.ChangeAt Go.RowKit

def headSigns : List Char := ([104, 97, 114, 110, 101, 115, 115, 32, 52, 101, 57, 49, 97, 50, 49, 55, 98, 99, 56, 49, 48, 49, 57, 55, 99, 98, 54, 48, 98, 51, 50, 53, 53, 55, 99, 100, 51, 57, 53, 50, 48, 54, 98, 49, 54, 102, 57, 51, 99, 101, 50, 56, 56, 101, 49, 97, 50, 100, 101, 49, 101, 98, 56, 97, 100, 53, 49, 54, 102, 56, 99, 101, 32, 99, 117, 116, 32, 97, 116, 32, 108, 111, 111, 112, 46, 101, 120, 97, 109, 112, 108, 101, 47, 103, 48, 49, 50, 53, 55, 47, 108, 97, 119, 115, 46, 70, 110, 69, 120, 97, 99, 116, 67, 111, 109, 109, 111, 110, 84, 97, 98, 108, 101, 32, 108, 111, 111, 112, 46, 101, 120, 97, 109, 112, 108, 101, 47, 103, 48, 49, 50, 53, 55, 47, 108, 97, 119, 115, 46, 70, 110, 69, 120, 97, 99, 116, 73, 115, 70, 114, 105, 101, 110, 100, 108, 121, 32, 108, 111, 111, 112, 46, 101, 120, 97, 109, 112, 108, 101, 47, 103, 48, 49, 50, 53, 55, 47, 108, 97, 119, 115, 46, 70, 110, 69, 120, 97, 99, 116, 87, 105, 110, 100, 109, 105, 108, 108, 80, 97, 114, 116, 121, 32, 108, 111, 111, 112, 46, 101, 120, 97, 109, 112, 108, 101, 47, 103, 48, 49, 50, 53, 55, 47, 108, 97, 119, 115, 46, 70, 110, 69, 120, 97, 99, 116, 73, 115, 87, 105, 110, 100, 109, 105, 108, 108, 32, 108, 111, 111, 112, 46, 101, 120, 97, 109, 112, 108, 101, 47, 103, 48, 49, 50, 53, 55, 47, 108, 97, 119, 115, 46, 70, 110, 69, 120, 97, 99, 116, 80, 111, 108, 105, 116, 105, 99, 105, 97, 110, 79, 102, 32, 108, 111, 111, 112, 46, 101, 120, 97, 109, 112, 108, 101, 47, 103, 48, 49, 50, 53, 55, 47, 108, 97, 119, 115, 46, 70, 110, 69, 120, 97, 99, 116, 69, 113, 117, 97, 108, 78, 117, 109, 98, 101, 114, 32, 108, 111, 111, 112, 46, 101, 120, 97, 109, 112, 108, 101, 47, 103, 48, 49, 50, 53, 55, 47, 108, 97, 119, 115, 46, 70, 110, 69, 120, 97, 99, 116, 83, 116, 114, 111, 110, 103, 78, 117, 109, 98, 101, 114, 115, 32, 108, 111, 111, 112, 46, 101, 120, 97, 109, 112, 108, 101, 47, 103, 48, 49, 50, 53, 55, 47, 108, 97, 119, 115, 46, 70, 110, 69, 120, 97, 99, 116, 67, 105, 114, 99, 108, 101, 80, 97, 114, 116, 121, 32, 108, 111, 111, 112, 46, 101, 120, 97, 109, 112, 108, 101, 47, 103, 48, 49, 50, 53, 55, 47, 108, 97, 119, 115, 46, 70, 110, 69, 120, 97, 99, 116, 80, 97, 105, 114, 80, 97, 114, 116, 121, 32, 108, 111, 111, 112, 46, 101, 120, 97, 109, 112, 108, 101, 47, 103, 48, 49, 50, 53, 55, 47, 108, 97, 119, 115, 46, 70, 110, 69, 120, 97, 99, 116, 76, 105, 110, 101, 115, 79, 102, 32, 108, 111, 111, 112, 46, 101, 120, 97, 109, 112, 108, 101, 47, 103, 48, 49, 50, 53, 55, 47, 108, 97, 119, 115, 46, 70, 110, 69, 120, 97, 99, 116, 77, 111, 115, 116, 80, 101, 111, 112, 108, 101] : List Nat).map Char.ofNat
set_option maxRecDepth 100000 in
theorem Try.initOrder_is : Try.prog.initOrder = String.ofList headSigns := by kernel_rfl
theorem Try.initOrder_signs : Try.prog.initOrder.toList = headSigns := by rw [Try.initOrder_is]; exact String.toList_ofList
set_option maxRecDepth 100000 in
theorem head_words : (behindMainWord (wordsSigns headSigns)).take 1 = ["cut".toList] := by kernel_rfl
theorem Try.words : ∃ rest, behindMainWord (wordsSigns Try.prog.initOrder.toList) = "cut".toList :: rest := by
  rw [Try.initOrder_signs]
  have h := List.take_append_drop 1 (behindMainWord (wordsSigns headSigns))
  rw [head_words] at h
  exact ⟨_, h.symm⟩
theorem Try.make : Try.prog.make = some .cut := by obtain ⟨_, h⟩ := Try.words; exact make_of h
theorem Try.liftsFinal : Try.prog.liftsFinal = false := by obtain ⟨_, h⟩ := Try.words; exact final_of h
theorem Try.laysLater : Try.prog.laysLater = false := by kernel_rfl
theorem Try.bearsReflect : Try.prog.bearsReflect = false := by kernel_rfl
theorem Try.doorFits : Try.prog.doorFits [] = true := by kernel_rfl
theorem Try.mayEnter : Try.prog.mayEnter = true := by obtain ⟨_, h⟩ := Try.words; exact enter_of h Try.laysLater Try.bearsReflect Try.doorFits
theorem Try.mapsRowed : mapsRowed Try.prog = true := by kernel_rfl
theorem Try.stops : (Try.prog.stops == []) = true := by kernel_rfl
theorem Try.stopKnobs : (Try.prog.stopKnobs == []) = true := by kernel_rfl
theorem Try.plainKeys : Try.prog.plainKeys = true := by kernel_rfl
theorem Try.stopsHeard : Try.prog.stopsHeard = true := by kernel_rfl

/-- What the types of one law give: closed facts on its parameters and its result. -/
def typeFacts (P : Program) (fn : Func) (s : ChangeSpec) (c : OpenClaim) : Bool :=
  fn.params.all (P.readableRec ·) && namedTie P c.named s.vars && (c.stops == []) && (c.knobs == []) &&
  (c.maps == (fn.params.toList ++ s.plain.varTypes P).any (P.mapsRec ·)) && (c.ifaces == (fn.params.toList ++ s.plain.varTypes P).any (P.ifacesRec ·)) && (c.mapsOut == P.mapsAmong fn.resultTypes.toList) &&
  (c.loops == (fn.params.toList ++ s.plain.varTypes P).any (P.loopsFrom ·)) && (c.wideKeys == (fn.params.toList ++ s.plain.varTypes P ++ fn.resultTypes.toList).any (P.wideKeysFrom ·)) &&
  s.vars.all (P.varReadable ·) && fn.resultTypes.all (fun t => P.readableRec t && decide (t < P.types.size)) && (c.ifacesOut == fn.resultTypes.toList.any (P.ifacesRec ·)) && (c.loopsOut == fn.resultTypes.toList.any (P.loopsFrom ·)) && c.shortTexts.isNone &&
  (c.kinds == (if c.domain.isEmpty then [] else fn.params.toList.map fun t => match P.underlying t with | some (.int k) => some k | _ => none)) && (c.pinned == c.pinnedBy) &&
  (c.veiled == (fn.params.toList ++ s.plain.varTypes P ++ fn.resultTypes.toList).any (P.veiledRec ·)) && c.veiledFits P fn.params.toList (fn.params.toList ++ s.plain.varTypes P ++ fn.resultTypes.toList)
theorem joined_all {P : Program} {f : FuncId} {fn : Func} {s : ChangeSpec} {c : OpenClaim} (k1 : c.wf (OpenSpec.ofChange s) = true) (kt : typeFacts P fn s c = true)
    (k10 : (c.inPlace == P.inPlace f) = true) (k11 : (c.unfollowed == P.unfollowed f) = true) (k12 : (c.recurses == P.recurses f) = true) (k13 : (c.named == P.varsNamed f) = true)
    (e2 : laidOutB P = true) (e3 : mapsRowed P = true) (e7 : (P.stops == []) = true) (e9 : (P.stopKnobs == []) = true) (e22 : (c.plainKeys == P.plainKeys) = true) (e23 : P.stopsHeard = true) (e24 : P.mayEnter = true)
    (e24b : (c.lifted == P.liftsFinal) = true) (e24c : (P.make == some c.make) = true) : joinedFacts P f fn s c = true := by
  unfold typeFacts at kt
  unfold joinedFacts
  simp only [Bool.and_eq_true] at kt ⊢
  obtain ⟨⟨⟨⟨⟨⟨⟨⟨⟨⟨⟨⟨⟨⟨⟨⟨⟨t1, t2⟩, t3⟩, t4⟩, t5⟩, t6⟩, t7⟩, t8⟩, t9⟩, t10⟩, t11⟩, t12⟩, t13⟩, t14⟩, t15⟩, t16⟩, t17⟩, t18⟩ := kt
  exact ⟨⟨⟨⟨⟨⟨⟨⟨⟨⟨⟨⟨⟨⟨⟨⟨⟨⟨⟨⟨⟨⟨⟨⟨⟨⟨⟨⟨⟨⟨⟨k1, e2⟩, e3⟩, t1⟩, t2⟩, t3⟩, e7⟩, t4⟩, e9⟩, k10⟩, k11⟩, k12⟩, k13⟩, t5⟩, t6⟩, t7⟩, t8⟩, t9⟩, t10⟩, t11⟩, t12⟩, t13⟩, e22⟩, t14⟩, e23⟩, e24⟩, e24b⟩, e24c⟩, t15⟩, t16⟩, t17⟩, t18⟩
theorem joined_of {f : FuncId} {fn : Func} {s : ChangeSpec} {c : OpenClaim} (k1 : c.wf (OpenSpec.ofChange s) = true) (kt : typeFacts Try.prog fn s c = true)
    (k10 : (c.inPlace == Try.prog.inPlace f) = true) (k11 : (c.unfollowed == Try.prog.unfollowed f) = true) (k12 : (c.recurses == Try.prog.recurses f) = true) (k13 : (c.named == Try.prog.varsNamed f) = true)
    (k22 : c.plainKeys = true) (k24b : c.lifted = false) (k24c : c.make = .cut) : joinedFacts Try.prog f fn s c = true :=
  joined_all k1 kt k10 k11 k12 k13 Try.laidOut Try.mapsRowed Try.stops Try.stopKnobs (by rw [k22, Try.plainKeys]; rfl) Try.stopsHeard Try.mayEnter (by rw [k24b, Try.liftsFinal]; rfl) (by rw [k24c, Try.make]; rfl)
end Go.Proofs.Ythpapkfpcijpoaa
