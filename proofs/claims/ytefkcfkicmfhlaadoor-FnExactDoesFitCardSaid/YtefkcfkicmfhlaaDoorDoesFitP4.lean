/-
  Texts put together for the claims of 'DoesFit' (pack 4): ChooseP, Ways, GroupP, Meet, MeetW, PairsOf, OtherP, Friends, GroupS, TrG, CountG, Numbers.
-/
import Derived.Test.YtefkcfkicmfhlaaDoorDoesFitP1
import Derived.Test.YtefkcfkicmfhlaaDoorDoesFitP3
import Derived.Deep.RegionHeld3
import Derived.Deep.RegionWith
/-
  PEOPLE CHOSEN AND RENAMED, as plain lists and as tables. Nothing here speaks of the program.
-/
namespace Go.Proofs.YtefkcfkicmfhlaaDoor
open Go.RowKit

def choiceAt (p : Int) (q : List Int) (i : Nat) : Bool :=
  match q[i]? with
  | none => true
  | some x => decide (0 ≤ x ∧ x < p) && (i == 0 || match q[i - 1]? with | none => true | some y => decide (y < x))
/-- an increasing list of some of p people -/
def isChoiceI (p : Int) (q : List Int) : Bool := (List.range q.length).all (choiceAt p q)
theorem isChoiceI_of {p : Int} {q : List Int} (h : ∀ i, i < q.length → choiceAt p q i = true) : isChoiceI p q = true := by
  simp only [isChoiceI, List.all_eq_true, List.mem_range]
  exact h
theorem isChoiceI_no {p : Int} {q : List Int} {i : Nat} (hi : i < q.length) (h : choiceAt p q i = false) : isChoiceI p q = false := by
  cases he : isChoiceI p q with
  | false => rfl
  | true =>
    simp only [isChoiceI, List.all_eq_true, List.mem_range] at he
    rw [he i hi] at h
    cases h
theorem isChoiceI_good {p : Int} {q : List Int} (h : isChoiceI p q = true) {i : Nat} (hi : i < q.length) : choiceAt p q i = true := by
  simp only [isChoiceI, List.all_eq_true, List.mem_range] at h
  exact h i hi
theorem choiceAt_man {p : Int} {q : List Int} {i : Nat} {x : Int} (h : choiceAt p q i = true) (hx : q[i]? = some x) : 0 ≤ x ∧ x < p := by
  simp only [choiceAt, hx, Bool.and_eq_true, decide_eq_true_eq] at h
  exact h.1
theorem choiceAt_less {p : Int} {q : List Int} {i : Nat} {x y : Int} (h : choiceAt p q (i + 1) = true) (hx : q[i]? = some x) (hy : q[i + 1]? = some y) : x < y := by
  simp only [choiceAt, hy, Nat.add_sub_cancel, hx, Bool.and_eq_true, Bool.or_eq_true, decide_eq_true_eq] at h
  rcases h.2 with h | h
  · simp at h
  · exact h
theorem choiceAt_zero {p : Int} {q : List Int} {k : Nat} {x : Int} (hk : k = 0) (hx : q[k]? = some x) (h : 0 ≤ x ∧ x < p) : choiceAt p q k = true := by
  subst hk
  simp [choiceAt, hx, h.1, h.2]
theorem choiceAt_later {p : Int} {q : List Int} {k : Nat} {x y : Int} (_hk : 0 < k) (hx : q[k - 1]? = some x) (hy : q[k]? = some y) (h : 0 ≤ y ∧ y < p) (hl : x < y) : choiceAt p q k = true := by
  simp [choiceAt, hx, hy, h.1, h.2, hl]
theorem choiceAt_bad {p : Int} {q : List Int} {k : Nat} {x : Int} (hx : q[k]? = some x) (h : ¬ (0 ≤ x ∧ x < p)) : choiceAt p q k = false := by
  simp only [choiceAt, hx, Bool.and_eq_false_iff, decide_eq_false_iff_not]
  exact .inl h
theorem choiceAt_stale {p : Int} {q : List Int} {k : Nat} {x y : Int} (hk : 0 < k) (hx : q[k - 1]? = some x) (hy : q[k]? = some y) (hl : ¬ x < y) : choiceAt p q k = false := by
  cases h : choiceAt p q k with
  | false => rfl
  | true =>
    obtain ⟨j, rfl⟩ : ∃ j, k = j + 1 := ⟨k - 1, by omega⟩
    exact absurd (choiceAt_less h hx hy) hl
theorem isChoiceI_sorted {p : Int} {q : List Int} (h : isChoiceI p q = true) : q.Pairwise (· < ·) := by
  rw [List.pairwise_iff_getElem]
  have step : ∀ (d i : Nat) (hi : i < q.length) (hj : i + d + 1 < q.length), q[i] < q[i + d + 1] := by
    intro d
    induction d with
    | zero => intro i hi hj; exact choiceAt_less (isChoiceI_good h hj) (List.getElem?_eq_getElem (by omega)) (List.getElem?_eq_getElem hj)
    | succ d ih =>
      intro i hi hj
      have h1 := ih i hi (by omega)
      have h2 := choiceAt_less (p := p) (q := q) (i := i + d + 1) (isChoiceI_good h (by omega)) (List.getElem?_eq_getElem (by omega)) (List.getElem?_eq_getElem (by omega))
      exact Int.lt_trans h1 h2
  intro i j hi hj hij
  have e : j = i + (j - i - 1) + 1 := by omega
  have := step (j - i - 1) i hi (by omega)
  simpa only [← e] using this
theorem isChoiceI_mem {p : Int} {q : List Int} (h : isChoiceI p q = true) : ∀ x ∈ q, 0 ≤ x ∧ x < p := by
  intro x hx
  obtain ⟨i, hi, rfl⟩ := List.getElem_of_mem hx
  exact choiceAt_man (isChoiceI_good h hi) (List.getElem?_eq_getElem hi)
theorem isChoiceI_long {p : Int} {q : List Int} (h : isChoiceI p q = true) : (q.length : Int) ≤ p ∨ q = [] := by
  have hs := isChoiceI_sorted h
  have low : ∀ (i : Nat) (x : Int), q[i]? = some x → (i : Int) ≤ x := by
    intro i
    induction i with
    | zero => intro x hx; exact (isChoiceI_mem h x (List.mem_of_getElem? hx)).1
    | succ i ih =>
      intro x hx
      have hl : i + 1 < q.length := (List.getElem?_eq_some_iff.1 hx).1
      obtain ⟨y, hy⟩ := getSome q i (by omega)
      have h1 := ih y hy
      have h2 := choiceAt_less (isChoiceI_good h hl) hy hx
      omega
  by_cases hl : q.length = 0
  · exact .inr (List.eq_nil_of_length_eq_zero hl)
  · obtain ⟨x, hx⟩ := getSome q (q.length - 1) (by omega)
    have h1 := low _ _ hx
    have h2 := (isChoiceI_mem h x (List.mem_of_getElem? hx)).2
    left
    omega

theorem countP_at : ∀ (q : List Int), q.Pairwise (· < ·) → ∀ (i : Nat) (x : Int), q[i]? = some x → q.countP (fun y => decide (y < x)) = i
  | [], _, i, x, h => by simp at h
  | a :: q, hs, 0, x, h => by
    simp only [List.getElem?_cons_zero, Option.some.injEq] at h
    subst h
    rw [List.pairwise_cons] at hs
    rw [List.countP_eq_zero]
    intro b hb
    rcases List.mem_cons.1 hb with rfl | hb
    · simp
    · have := hs.1 b hb
      simp only [decide_eq_true_eq]
      omega
  | a :: q, hs, i + 1, x, h => by
    rw [List.pairwise_cons] at hs
    have hx : q[i]? = some x := by simpa using h
    have := hs.1 x (List.mem_of_getElem? hx)
    rw [List.countP_cons_of_pos (by simpa using this), countP_at q hs.2 i x hx]

/-- how many of a list are less -/
def ltI (q : List Int) (x : Int) : Int := ((q.countP (· < x) : Nat) : Int)
theorem ltI_at {q : List Int} (hs : q.Pairwise (· < ·)) {i : Nat} {x : Int} (hx : q[i]? = some x) : ltI q x = i := by
  unfold ltI
  rw [countP_at q hs i x hx]
theorem ltI_mem {q : List Int} (hs : q.Pairwise (· < ·)) {x : Int} (hx : x ∈ q) : ∃ i : Nat, ltI q x = i ∧ q[i]? = some x := by
  obtain ⟨i, hi, rfl⟩ := List.getElem_of_mem hx
  exact ⟨i, ltI_at hs (List.getElem?_eq_getElem hi), List.getElem?_eq_getElem hi⟩
theorem ltI_le (q : List Int) (x : Int) : 0 ≤ ltI q x ∧ ltI q x ≤ q.length := by
  unfold ltI
  have := List.countP_le_length (p := fun y => decide (y < x)) (l := q)
  omega
/-- the pairs of the people chosen -/
def chooseP (l : PL) (q : List Int) : PL := l.filterMap fun r => if q.contains r.1 = true ∧ q.contains r.2 = true then some (ltI q r.1, ltI q r.2) else none
theorem chooseP_snoc (l : PL) (q : List Int) (x y : Int) : chooseP (l ++ [(x, y)]) q = chooseP l q ++ if q.contains x = true ∧ q.contains y = true then [(ltI q x, ltI q y)] else [] := by
  unfold chooseP
  rw [List.filterMap_append]
  congr 1
  by_cases h : q.contains x = true ∧ q.contains y = true
  · rw [if_pos h, List.filterMap_cons_some (by rw [if_pos h]), List.filterMap_nil]
  · rw [if_neg h, List.filterMap_cons_none (by rw [if_neg h]), List.filterMap_nil]
theorem chooseP_le (l : PL) (q : List Int) : (chooseP l q).length ≤ l.length := List.length_filterMap_le _ _
def gI (q : List Int) (i : Nat) : Nat := (q.getD i 0).toNat
def chosenT (l : PL) (q : List Int) (i j : Nat) : Bool := adj l (gI q i) (gI q j)
theorem gI_at {q : List Int} {i : Nat} {x : Int} (hx : q[i]? = some x) (h0 : 0 ≤ x) : ((gI q i : Nat) : Int) = x := by
  unfold gI
  rw [List.getD_eq_getElem?_getD, hx]
  simp only [Option.getD_some]
  omega
theorem mem_chooseP {l : PL} {q : List Int} {r : Int × Int} : r ∈ chooseP l q ↔ ∃ s ∈ l, s.1 ∈ q ∧ s.2 ∈ q ∧ r = (ltI q s.1, ltI q s.2) := by
  unfold chooseP
  rw [List.mem_filterMap]
  constructor
  · rintro ⟨s, hs, h⟩
    split at h
    · rename_i hc
      rw [List.contains_iff_mem, List.contains_iff_mem] at hc
      exact ⟨s, hs, hc.1, hc.2, by simpa using h.symm⟩
    · cases h
  · rintro ⟨s, hs, h1, h2, rfl⟩
    refine ⟨s, hs, ?_⟩
    rw [if_pos (by rw [List.contains_iff_mem, List.contains_iff_mem]; exact ⟨h1, h2⟩)]
theorem chooseP_list {p : Int} {l : PL} {q : List Int} (hp : isP p l = true) (hq : isChoiceI p q = true) : IsList q.length (chooseP l q) := by
  have hr := isP_range hp
  obtain ⟨_, _, hm, hs⟩ := isP_list hp
  have hqs := isChoiceI_sorted hq
  have hmono : ∀ x y, x ∈ q → y ∈ q → x < y → ltI q x < ltI q y := by
    intro x y hx hy hxy
    obtain ⟨i, ei, hi⟩ := ltI_mem hqs hx
    obtain ⟨j, ej, hj⟩ := ltI_mem hqs hy
    rw [ei, ej]
    have hil : i < q.length := (List.getElem?_eq_some_iff.1 hi).1
    have hjl : j < q.length := (List.getElem?_eq_some_iff.1 hj).1
    have e1 : q[i] = x := by rw [List.getElem?_eq_getElem hil] at hi; simpa using hi
    have e2 : q[j] = y := by rw [List.getElem?_eq_getElem hjl] at hj; simpa using hj
    rcases Nat.lt_trichotomy i j with h | h | h
    · omega
    · subst h; omega
    · have := (List.pairwise_iff_getElem.1 hqs) j i hjl hil h
      omega
  have hlen : (q.length : Int) ≤ 12 := by
    rcases isChoiceI_long hq with h | h
    · omega
    · simp [h]
  refine ⟨by omega, hlen, fun r hr => ?_, ?_⟩
  · obtain ⟨s, hsl, h1, h2, rfl⟩ := mem_chooseP.1 hr
    have h3 := hmono _ _ h1 h2 (hm s hsl).2.1
    obtain ⟨j, ej, hj⟩ := ltI_mem hqs h2
    have hjl : j < q.length := (List.getElem?_eq_some_iff.1 hj).1
    have := ltI_le q s.1
    simp only
    omega
  · unfold chooseP
    rw [List.pairwise_filterMap]
    refine List.Pairwise.imp (fun {a b} hlt u hu v hv => ?_) hs
    split at hu
    · split at hv
      · rename_i h1 h2
        rw [List.contains_iff_mem, List.contains_iff_mem] at h1 h2
        simp only [Option.some.injEq] at hu hv
        subst hu
        subst hv
        unfold plt at hlt ⊢
        rcases hlt with hlt | ⟨e, hlt⟩
        · exact .inl (hmono _ _ h1.1 h2.1 hlt)
        · exact .inr ⟨by simp only; rw [e], hmono _ _ h1.2 h2.2 hlt⟩
      · cases hv
    · cases hu
theorem tabP_choose {p : Int} {l : PL} {q : List Int} (hp : isP p l = true) (hq : isChoiceI p q = true) : tabP q.length (chosenT l q) = chooseP l q := by
  have hc := chooseP_list hp hq
  have hqs := isChoiceI_sorted hq
  obtain ⟨_, _, hm, hs⟩ := isP_list hp
  have hlen : q.length ≤ 12 := by have := hc.2.1; omega
  refine sorted_ext (filter_list hlen _).2.2.2 hc.2.2.2 fun r => ?_
  unfold tabP
  rw [List.mem_filter, mem_allP, mem_chooseP]
  constructor
  · rintro ⟨⟨h0, h1, h2⟩, ht⟩
    obtain ⟨x, hx⟩ := getSome q r.1.toNat (by omega)
    obtain ⟨y, hy⟩ := getSome q r.2.toNat (by omega)
    have hx0 := isChoiceI_mem hq x (List.mem_of_getElem? hx)
    have hy0 := isChoiceI_mem hq y (List.mem_of_getElem? hy)
    have ex := gI_at hx hx0.1
    have ey := gI_at hy hy0.1
    have hxy : x < y := by
      have hil : r.1.toNat < q.length := (List.getElem?_eq_some_iff.1 hx).1
      have hjl : r.2.toNat < q.length := (List.getElem?_eq_some_iff.1 hy).1
      have := (List.pairwise_iff_getElem.1 hqs) _ _ hil hjl (by omega)
      rw [List.getElem?_eq_getElem hil] at hx
      rw [List.getElem?_eq_getElem hjl] at hy
      simp only [Option.some.injEq] at hx hy
      rwa [hx, hy] at this
    have hmem : (x, y) ∈ l := by
      unfold chosenT adj at ht
      rw [ex, ey, Bool.or_eq_true, List.contains_iff_mem, List.contains_iff_mem] at ht
      rcases ht with ht | ht
      · exact ht
      · have := hm _ ht
        simp only at this
        omega
    refine ⟨(x, y), hmem, List.mem_of_getElem? hx, List.mem_of_getElem? hy, ?_⟩
    rw [ltI_at hqs hx, ltI_at hqs hy]
    exact Prod.ext (by simp; omega) (by simp; omega)
  · rintro ⟨s, hsl, h1, h2, rfl⟩
    have hin := hc.2.2.1 _ (mem_chooseP.2 ⟨s, hsl, h1, h2, rfl⟩)
    refine ⟨hin, ?_⟩
    obtain ⟨i, ei, hi⟩ := ltI_mem hqs h1
    obtain ⟨j, ej, hj⟩ := ltI_mem hqs h2
    have hs0 := hm s hsl
    simp only [ei, ej, Int.toNat_natCast]
    unfold chosenT adj
    rw [gI_at hi (by omega), gI_at hj (by omega), Bool.or_eq_true, List.contains_iff_mem]
    left
    exact hsl
end Go.Proofs.YtefkcfkicmfhlaaDoor
/-
  WAYS TO CHOOSE: the program's 'waysToChoose' and the model's 'trChoose', by their contracts; 'GroupBound', 'LeastMustHave', 'LeastOneKind'.
-/
namespace Go.Proofs.YtefkcfkicmfhlaaDoor
open Go.RowKit

/-- the product of the first steps, as the program takes them -/
def waysI (n : Int) : Nat → Int
  | 0 => 1
  | i + 1 => (waysI n i * (n - i)).tdiv (i + 1)
/-- as the model takes them -/
def stepsI (n k : Int) : Nat → Int
  | 0 => 1
  | i + 1 => (stepsI n k i * (n - k + (i + 1))).tdiv (i + 1)
def InWays (n : Int) (k : Nat) : Prop := (0 ≤ n ∧ n ≤ 12 ∧ k ≤ 12) ∨ (0 ≤ n ∧ n ≤ 132 ∧ k ≤ 2)
theorem waysI_all : (∀ n : Fin 13, ∀ k : Fin 13, 0 ≤ waysI (n.val : Int) k.val ∧ waysI (n.val : Int) k.val ≤ 10000) ∧ (∀ n : Fin 133, ∀ k : Fin 3, 0 ≤ waysI (n.val : Int) k.val ∧ waysI (n.val : Int) k.val ≤ 10000) := by
  constructor <;> decide +kernel
theorem waysI_bound {n : Int} {k : Nat} (h : InWays n k) : 0 ≤ waysI n k ∧ waysI n k ≤ 10000 := by
  rcases h with ⟨h0, h1, h2⟩ | ⟨h0, h1, h2⟩
  · have := waysI_all.1 ⟨n.toNat, by omega⟩ ⟨k, by omega⟩
    rwa [show ((n.toNat : Nat) : Int) = n from by omega] at this
  · have := waysI_all.2 ⟨n.toNat, by omega⟩ ⟨k, by omega⟩
    rwa [show ((n.toNat : Nat) : Int) = n from by omega] at this
theorem InWays.less {n : Int} {k i : Nat} (h : InWays n k) (hi : i ≤ k) : InWays n i := by unfold InWays at *; omega
theorem stepsI_all : (∀ n : Fin 13, ∀ k : Fin 13, k.val ≤ n.val → ∀ i : Fin 13, i.val ≤ k.val → 0 ≤ stepsI (n.val : Int) (k.val : Int) i.val ∧ stepsI (n.val : Int) (k.val : Int) i.val ≤ 10000) ∧ (∀ n : Fin 133, ∀ k : Fin 3, k.val ≤ n.val → ∀ i : Fin 3, i.val ≤ k.val → 0 ≤ stepsI (n.val : Int) (k.val : Int) i.val ∧ stepsI (n.val : Int) (k.val : Int) i.val ≤ 10000) := by
  constructor <;> decide +kernel
theorem stepsI_bound {n : Int} {k i : Nat} (h : InWays n k) (hk : (k : Int) ≤ n) (hi : i ≤ k) : 0 ≤ stepsI n k i ∧ stepsI n k i ≤ 10000 := by
  rcases h with ⟨h0, h1, h2⟩ | ⟨h0, h1, h2⟩
  · have := stepsI_all.1 ⟨n.toNat, by omega⟩ ⟨k, by omega⟩ (by show k ≤ n.toNat; omega) ⟨i, by omega⟩ hi
    rwa [show ((n.toNat : Nat) : Int) = n from by omega] at this
  · have := stepsI_all.2 ⟨n.toNat, by omega⟩ ⟨k, by omega⟩ (by show k ≤ n.toNat; omega) ⟨i, by omega⟩ hi
    rwa [show ((n.toNat : Nat) : Int) = n from by omega] at this
theorem ways_steps_all : (∀ n : Fin 13, ∀ k : Fin 13, waysI (n.val : Int) k.val = if k.val > n.val then 0 else stepsI (n.val : Int) (k.val : Int) k.val) ∧ (∀ n : Fin 133, ∀ k : Fin 3, waysI (n.val : Int) k.val = if k.val > n.val then 0 else stepsI (n.val : Int) (k.val : Int) k.val) := by
  constructor <;> decide +kernel
theorem ways_steps {n : Int} {k : Nat} (h : InWays n k) : waysI n k = if (k : Int) > n then 0 else stepsI n k k := by
  rcases h with ⟨h0, h1, h2⟩ | ⟨h0, h1, h2⟩
  · have := ways_steps_all.1 ⟨n.toNat, by omega⟩ ⟨k, by omega⟩
    rw [show ((n.toNat : Nat) : Int) = n from by omega] at this
    rw [this]
    by_cases hk : k > n.toNat
    · rw [if_pos hk, if_pos (by omega)]
    · rw [if_neg hk, if_neg (by omega)]
  · have := ways_steps_all.2 ⟨n.toNat, by omega⟩ ⟨k, by omega⟩
    rw [show ((n.toNat : Nat) : Int) = n from by omega] at this
    rw [this]
    by_cases hk : k > n.toNat
    · rw [if_pos hk, if_pos (by omega)]
    · rw [if_neg hk, if_neg (by omega)]
/-- what a step's product is within -/
theorem mul_within {a b : Int} (ha : 0 ≤ a ∧ a ≤ 10000) (hb : -200 ≤ b ∧ b ≤ 200) : -2000000 ≤ a * b ∧ a * b ≤ 2000000 := by
  constructor
  · have h1 : a * (-200) ≤ a * b := Int.mul_le_mul_of_nonneg_left hb.1 ha.1
    omega
  · have h1 : a * b ≤ a * 200 := Int.mul_le_mul_of_nonneg_left hb.2 ha.1
    omega
theorem wrap_small {x : Int} (h : -9223372036854775808 ≤ x ∧ x ≤ 9223372036854775807) : IntKind.i64.wrap x = x := by simp [IntKind.wrap, IntKind.bits, IntKind.signed]; omega

set_option maxHeartbeats 1000000 in
set_option maxRecDepth 100000 in
theorem waysToChoose_any (n : Int) (k : Nat) (w : World) (h : InWays n k) :
    Calls Tryd.prog 168 #[.int .i64 n, .int .i64 k] w fun e w' => e = .returned (.int .i64 (waysI n k)) ∧ w = w' := by
  have hk12 : k ≤ 12 := by unfold InWays at h; omega
  have hn0 : 0 ≤ n ∧ n ≤ 132 := by unfold InWays at h; omega
  obtain ⟨hn0, hn1⟩ := hn0
  have H := Lib.hid h
  clear h
  go_enter Tryd.func168, Tryd.ntmps168
  go_wp2
  go_loop [5, 8] (fun v i => ∃ (j : Nat) (u : Int), j ≤ k ∧ i = .int .i64 j ∧ v = .int .i64 u ∧ u = waysI n j) (fun _ i => k - (intOf i).toNat)
  case atStart => exact ⟨0, 1, Nat.zero_le _, rfl, rfl, rfl⟩
  case round =>
    obtain ⟨j, u, hj, rfl, rfl, hu⟩ := hrel
    have hub := waysI_bound (H.out.less hj)
    rw [← hu] at hub
    obtain ⟨hu0, hu1⟩ := hub
    have Hu := Lib.hid hu
    by_cases hlt : j < k
    · have hnx := waysI_bound (H.out.less hlt)
      have e : waysI n (j + 1) = (u * (n - j)).tdiv ((j : Int) + 1) := by rw [hu]; rfl
      rw [e] at hnx
      have He := Lib.hid e
      obtain ⟨hm0, hm1⟩ := mul_within (a := u) (b := n - j) ⟨hu0, hu1⟩ (by omega)
      have hw1 : IntKind.i64.wrap (u * (n - j)) = u * (n - j) := wrap_small (by omega)
      have hw2 : IntKind.i64.wrap ((u * (n - j)).tdiv ((j : Int) + 1)) = (u * (n - j)).tdiv ((j : Int) + 1) := wrap_small (by omega)
      have hji : (j : Int) < (k : Int) := by omega
      have hj1 : ¬ ((j : Int) + 1 = 0) := by omega
      clear hu e hnx
      go_wp2
      go_round
      case rel => exact ⟨j + 1, _, by omega, by go_num, rfl, He.out.symm⟩
      case measure => simp [intOf]; omega
    · have hjk : j = k := by omega
      have hge : ¬ ((j : Int) < (k : Int)) := by omega
      clear hu
      go_wp2
      go_ret
      exact ⟨by rw [Hu.out, hjk]; rfl, rfl⟩

end Go.Proofs.YtefkcfkicmfhlaaDoor
/-
  GROUPS AS PLAIN LISTS: a list is a group just if all of its pairs are chosen. Nothing here speaks of the program.
-/
namespace Go.Proofs.YtefkcfkicmfhlaaDoor
open Go.RowKit

/-- a person who is a friend of all of a list -/
def knowsI (l : PL) (q : List Int) (x : Int) : Bool := q.all fun y => adj l x.toNat y.toNat
def groupAt (p : Int) (l : PL) (q : List Int) (k : Nat) : Bool := choiceAt p q k && knowsI l (q.take k) (q.getD k 0)
def isGroupI (p : Int) (l : PL) (q : List Int) : Bool := (List.range q.length).all (groupAt p l q)
theorem isGroupI_of {p : Int} {l : PL} {q : List Int} (h : ∀ i, i < q.length → groupAt p l q i = true) : isGroupI p l q = true := by
  simp only [isGroupI, List.all_eq_true, List.mem_range]
  exact h
theorem isGroupI_no {p : Int} {l : PL} {q : List Int} {i : Nat} (hi : i < q.length) (h : groupAt p l q i = false) : isGroupI p l q = false := by
  cases he : isGroupI p l q with
  | false => rfl
  | true =>
    simp only [isGroupI, List.all_eq_true, List.mem_range] at he
    rw [he i hi] at h
    cases h
theorem allP_length : ∀ n : Fin 13, ((allP n.val).length : Int) = waysI n.val 2 := by decide +kernel
theorem allP_ways {n : Nat} (hn : n ≤ 12) : ((allP n).length : Int) = waysI n 2 := allP_length ⟨n, by omega⟩
theorem groups_all {p : Int} {l : PL} {q : List Int} (hp : isP p l = true) (hq : isChoiceI p q = true) : isGroupI p l q = decide (((chooseP l q).length : Int) = waysI q.length 2) := by
  have hlen : q.length ≤ 12 := by have := isP_range hp; rcases isChoiceI_long hq with h | h; (· omega); (· simp [h])
  have hall : ((chooseP l q).length : Int) = waysI q.length 2 ↔ ∀ i j, i < j → j < q.length → chosenT l q i j = true := by
    rw [← tabP_choose hp hq, ← allP_ways hlen]
    unfold tabP
    constructor
    · intro h
      have h2 := List.length_filter_eq_length_iff.1 (Int.ofNat_inj.1 h)
      intro i j hij hj
      have := h2 ((i : Int), (j : Int)) (mem_allP.2 ⟨by simp, by simp; omega, by simp; omega⟩)
      simpa using this
    · intro h
      congr 1
      rw [List.length_filter_eq_length_iff]
      intro r hr
      have h3 := mem_allP.1 hr
      exact h r.1.toNat r.2.toNat (by omega) (by omega)
  have hat : ∀ k, k < q.length → (groupAt p l q k = true ↔ ∀ i, i < k → chosenT l q i k = true) := by
    intro k hk
    unfold groupAt knowsI
    rw [isChoiceI_good hq hk, Bool.true_and, List.all_eq_true]
    constructor
    · intro h i hi
      obtain ⟨y, hy⟩ := getSome q i (by omega)
      have := h y (List.mem_of_getElem? (l := q.take k) (i := i) (by rw [List.getElem?_take, if_pos hi]; exact hy))
      unfold chosenT gI
      rw [adj_comm, show q.getD i 0 = y by rw [List.getD_eq_getElem?_getD, hy]; rfl]
      exact this
    · intro h y hy
      obtain ⟨i, hi, e⟩ := List.getElem_of_mem hy
      rw [List.length_take] at hi
      rw [List.getElem_take] at e
      have := h i (by omega)
      unfold chosenT gI at this
      rw [adj_comm, show q.getD i 0 = y by rw [List.getD_eq_getElem?_getD, List.getElem?_eq_getElem (by omega), e]; rfl] at this
      exact this
  by_cases h : ((chooseP l q).length : Int) = waysI q.length 2
  · rw [decide_eq_true h]
    exact isGroupI_of fun k hk => (hat k hk).2 fun i hi => hall.1 h i k hi hk
  · rw [decide_eq_false h]
    cases he : isGroupI p l q with
    | false => rfl
    | true =>
      refine absurd (hall.2 fun i j hij hj => ?_) h
      simp only [isGroupI, List.all_eq_true, List.mem_range] at he
      exact (hat j hj).1 (he j hj) i hij
theorem groups_not {p : Int} {l : PL} {q : List Int} (hq : isChoiceI p q = false) : isGroupI p l q = false := by
  simp only [isChoiceI, List.all_eq_false, List.mem_range] at hq
  obtain ⟨k, hk, h⟩ := hq
  exact isGroupI_no hk (by unfold groupAt; simp only [Bool.not_eq_true] at h; rw [h, Bool.false_and])
def resIsGroup (p : Int) (l : PL) (q : List Int) : Bool × Bool := if isP p l then (isGroupI p l q, true) else (false, false)
end Go.Proofs.YtefkcfkicmfhlaaDoor
/-
  THE PROGRAM's MEETINGS OF A PARTY (each pair of people, and whether they are friends), by its contract.
-/
namespace Go.Proofs.YtefkcfkicmfhlaaDoor
open Go.RowKit

abbrev ML := List (Int × Int × Bool)
def mcells : ML → List Value
  | [] => []
  | m :: l => .int .i64 m.1 :: .int .i64 m.2.1 :: .bool m.2.2 :: mcells l
theorem mcells_length (l : ML) : (mcells l).length = l.length * 3 := by
  induction l with
  | nil => rfl
  | cons p l ih => simp only [mcells, List.length_cons, ih]; omega
theorem mcells_append (l m : ML) : mcells (l ++ m) = mcells l ++ mcells m := by
  induction l with
  | nil => rfl
  | cons p l ih => simp [mcells, ih]
theorem mcells_at {l : ML} {k : Nat} {x y : Int} {f : Bool} (h : l[k]? = some (x, y, f)) : (mcells l)[k * 3]? = some (.int .i64 x) ∧ (mcells l)[k * 3 + 1]? = some (.int .i64 y) ∧ (mcells l)[k * 3 + 2]? = some (.bool f) := by
  induction l generalizing k with
  | nil => simp at h
  | cons p l ih =>
    cases k with
    | zero => simp at h; subst h; exact ⟨rfl, rfl, rfl⟩
    | succ k =>
      have := ih (k := k) (by simpa using h)
      rw [show (k + 1) * 3 = k * 3 + 3 from by omega, show k * 3 + 3 + 1 = k * 3 + 1 + 3 from by omega, show k * 3 + 3 + 2 = k * 3 + 2 + 3 from by omega]
      simpa [mcells] using this
theorem CRead.meet {w : World} {B : Nat} {ad : Option Addr} {l : ML} (h : CRead w B ad (mcells l)) {k : Nat} {x y : Int} {f : Bool} (hk : l[k]? = some (x, y, f)) :
    ∃ b off, ad = some ⟨b, off, none⟩ ∧ b < B ∧ w.cell? ⟨b, off + k * 3, none⟩ = some (.int .i64 x) ∧ w.cell? ⟨b, off + k * 3 + 1, none⟩ = some (.int .i64 y) ∧ w.cell? ⟨b, off + k * 3 + 2, none⟩ = some (.bool f) := by
  obtain ⟨e0, e1, e2⟩ := mcells_at hk
  obtain ⟨b, off, rfl, hb, h0⟩ := h _ _ e0
  obtain ⟨b', off', e, _, h1⟩ := h _ _ e1
  simp only [Option.some.injEq, Addr.mk.injEq, and_true] at e
  obtain ⟨rfl, rfl⟩ := e
  obtain ⟨b', off', e, _, h2⟩ := h _ _ e2
  simp only [Option.some.injEq, Addr.mk.injEq, and_true] at e
  obtain ⟨rfl, rfl⟩ := e
  exact ⟨b, off, rfl, hb, h0, h1, h2⟩

/-- the meetings of pairs -/
def meets (l : PL) (qs : PL) : ML := qs.map fun q => (q.1, q.2, l.contains q)
theorem meets_snoc (l qs : PL) (a b : Int) : meets l (qs ++ [(a, b)]) = meets l qs ++ [(a, b, l.contains (a, b))] := by simp [meets]
theorem meets_length (l qs : PL) : (meets l qs).length = qs.length := by simp [meets]

theorem upTo_prefix {n a b : Nat} (ha : a < n) (hab : a < b) (hb : b ≤ n) : ∃ rest, allP n = upTo n a b ++ rest := by
  have e1 : List.range n = List.range (a + 1) ++ (List.range (n - (a + 1))).map (a + 1 + ·) := by
    rw [← List.range_add]; congr 1; omega
  have e2 : rowP a n = (List.range' (a + 1) (b - (a + 1))).map (fun b : Nat => ((a : Int), (b : Int))) ++ (List.range' b (n - b)).map (fun b : Nat => ((a : Int), (b : Int))) := by
    unfold rowP
    rw [← List.map_append]
    congr 1
    have := List.range'_append_1 (s := a + 1) (m := b - (a + 1)) (n := n - b)
    rw [show a + 1 + (b - (a + 1)) = b from by omega] at this
    rw [this]
    congr 1
    omega
  unfold allP
  rw [e1, List.flatMap_append, List.range_succ, List.flatMap_append]
  simp only [List.flatMap_cons, List.flatMap_nil, List.append_nil]
  rw [e2]
  unfold upTo
  exact ⟨_, by simp only [List.append_assoc]; rfl⟩
/-- how many of the pairs so far are friends -/
def toldTo (n : Nat) (l : PL) (a b : Nat) : Nat := ((upTo n a b).filter fun q => l.contains q).length
theorem toldTo_le {n : Nat} {l : PL} (h : isP n l = true) {a b : Nat} (ha : a < n) (hab : a < b) (hb : b ≤ n) : toldTo n l a b ≤ l.length := by
  obtain ⟨rest, hr⟩ := upTo_prefix ha hab hb
  have hl := isP_filter h
  rw [hr, List.filter_append] at hl
  unfold toldTo
  rw [← congrArg List.length hl, List.length_append]
  omega
theorem told_at {n : Nat} {l : PL} (h : isP n l = true) {a b : Nat} (hab : a < b) (hb : b < n) (hc : l.contains ((a : Int), (b : Int)) = true) : l[toldTo n l a b]? = some ((a : Int), (b : Int)) := by
  obtain ⟨rest, hr⟩ := upTo_prefix (n := n) (a := a) (b := b + 1) (by omega) (by omega) (by omega)
  have hl := isP_filter h
  rw [hr, upTo_next hab, List.append_assoc, List.filter_append] at hl
  simp only [List.singleton_append, List.filter_cons, hc, if_true] at hl
  unfold toldTo
  generalize (upTo n a b).filter (fun q => l.contains q) = F at hl ⊢
  rw [← hl]
  simp
theorem told_not {l : PL} {k : Nat} {x y : Int} (hx : l[k]? = some (x, y)) (a b : Int) (hc : l.contains (a, b) = false) : ¬ (x = a ∧ y = b) := by
  rintro ⟨rfl, rfl⟩
  rw [Bool.eq_false_iff] at hc
  exact hc (List.contains_iff_mem.2 (List.mem_of_getElem? hx))
theorem toldTo_yes {n : Nat} {l : PL} {a b : Nat} (hab : a < b) (hc : l.contains ((a : Int), (b : Int)) = true) : toldTo n l a (b + 1) = toldTo n l a b + 1 := by
  unfold toldTo; rw [upTo_next hab, List.filter_append]; simp only [List.filter_cons, hc, if_true, List.filter_nil, List.length_append, List.length_singleton]
theorem toldTo_no {n : Nat} {l : PL} {a b : Nat} (hab : a < b) (hc : l.contains ((a : Int), (b : Int)) = false) : toldTo n l a (b + 1) = toldTo n l a b := by
  unfold toldTo; rw [upTo_next hab, List.filter_append]; simp only [List.filter_cons, hc, Bool.false_eq_true, if_false, List.filter_nil, List.append_nil]
theorem toldTo_row (n : Nat) (l : PL) (a : Nat) : toldTo n l a n = toldTo n l (a + 1) (a + 1 + 1) := by unfold toldTo; rw [upTo_row]
theorem three_cells {w : World} {g : Nat} {u v x : Value} (h : w.cell? ⟨g, 0, none⟩ = some u) (h' : w.cell? ⟨g, 1, none⟩ = some v) (h'' : w.cell? ⟨g, 2, none⟩ = some x) : ∀ j y, [u, v, x][j]? = some y → w.cell? ((⟨g, 0, none⟩ : Addr).add j) = some y := by
  intro j y hy
  match j, hy with
  | 0, hy => simp at hy; subst hy; simpa [Addr.add] using h
  | 1, hy => simp at hy; subst hy; simpa [Addr.add] using h'
  | 2, hy => simp at hy; subst hy; simpa [Addr.add] using h''
theorem three_one {u v x : Value} (h : u.oneCell' = true) (h' : v.oneCell' = true) (h'' : x.oneCell' = true) : ∀ y ∈ [u, v, x], y.oneCell' = true := by
  intro y hy
  simp at hy
  rcases hy with rfl | rfl | rfl
  · exact h
  · exact h'
  · exact h''
theorem Tryd.infoMeet : (Tryd.prog.info? 100).map (fun i => (i.zero, i.size, i.bytes)) = some (some (.agg #[.int .i64 0, .int .i64 0, .bool false]), 3, 24) := by kernel_rfl
end Go.Proofs.YtefkcfkicmfhlaaDoor
/-
  'impl.meetingsOf', by its contract.
-/
namespace Go.Proofs.YtefkcfkicmfhlaaDoor
open Go.RowKit

theorem below_drewN {B : Nat} {a w : World} (h : Below B a w) (k : Nat) : Below B a (w.drewN k) := ⟨h.os, h.tape, h.output, h.size, h.block⟩

set_option maxHeartbeats 2000000 in
set_option maxRecDepth 100000 in
theorem meetingsOf_any (p : Int) (l : PL) (A : Option Addr) (c : Nat) (w : World) (hp : isP p l = true) (hA : CRead w w.heap.size A (pcells l)) :
    Calls Tryd.prog 122 #[.agg #[.int .i64 p, .slice A l.length c]] w fun e w' => ∃ A' c', e = .returned (.slice A' (meets l (allP p.toNat)).length c') ∧
      w'.ownsRow w.heap.size 100 3 (.slice A' (meets l (allP p.toNat)).length c') (meets l (allP p.toNat)).length (mcells (meets l (allP p.toNat))) ∧ Below w.heap.size w w' := by
  obtain ⟨i0, hi, hz0, hz1, hz2⟩ := info_parts Tryd.infoMeet
  obtain ⟨n, rfl⟩ : ∃ n : Nat, p = n := ⟨p.toNat, by have := isP_range hp; omega⟩
  have hn := isP_range hp
  have hn12 : n ≤ 12 := by omega
  have hlen : l.length ≤ 66 := by have h1 := isP_length hp; have h2 := people_sq hn.1 hn.2; omega
  simp only [Int.toNat_natCast]
  have Hp := Lib.hid hp
  clear hp
  go_enter Tryd.func122, Tryd.ntmps122
  go_wp2
  go_loopw [3, 4, 11] (fun v q i wr => ∃ a : Nat, a ≤ n ∧ i = .int .i64 a ∧ q = .int .i64 (toldTo n l a (a + 1)) ∧ wr.ownsRow (w.heap.size + 1) 100 3 v (meets l (upTo n a (a + 1))).length (mcells (meets l (upTo n a (a + 1)))) ∧ Below (w.heap.size + 1) (w.alloc (Obj.cells #[.int .i64 (n : Int), .slice A l.length c] 34)) wr) (fun _ _ i _ => n - (intOf i).toNat)
  case atStart => exact ⟨0, Nat.zero_le _, rfl, by simp [toldTo, upTo_start], World.ownsRow_nil _ _ _ _, Below.refl _ _⟩
  case round =>
    obtain ⟨a, ha, rfl, rfl, hown, hb⟩ := hrel
    have hs := hb.size
    simp only [World.size_alloc] at hs
    have v0 : wr.cell? ⟨w.heap.size, 0, none⟩ = some (.int .i64 n) := carry hb (by simp) (by omega)
    have v1 : wr.cell? ⟨w.heap.size, 1, none⟩ = some (.slice A l.length c) := carry hb (by simp) (by omega)
    by_cases hlt : a < n
    · have hai : (a : Int) < n := by omega
      have Hown := Lib.hid hown
      have Hb := Lib.hid hb
      clear hown hb
      go_wp2
      go_loopw [3, 4, 6] (fun v q i wx => ∃ b : Nat, a < b ∧ b ≤ n ∧ i = .int .i64 b ∧ q = .int .i64 (toldTo n l a b) ∧ wx.ownsRow (w.heap.size + 1) 100 3 v (meets l (upTo n a b)).length (mcells (meets l (upTo n a b))) ∧ Below (w.heap.size + 1) (w.alloc (Obj.cells #[.int .i64 (n : Int), .slice A l.length c] 34)) wx) (fun _ _ i _ => n - (intOf i).toNat)
      case atStart => exact ⟨a + 1, by omega, by omega, by go_num, rfl, Hown.out, Hb.out⟩
      case round =>
        clear Hown Hb v0 v1 hs
        obtain ⟨b, hab, hbn, rfl, rfl, hown, hb⟩ := hrel
        have hs := hb.size
        simp only [World.size_alloc] at hs
        have hbw : Below w.heap.size w wr := Below.trans (b := _) (by go_grown) (hb.mono (by omega))
        have v0 : wr.cell? ⟨w.heap.size, 0, none⟩ = some (.int .i64 n) := carry hb (by simp) (by omega)
        have v1 : wr.cell? ⟨w.heap.size, 1, none⟩ = some (.slice A l.length c) := carry hb (by simp) (by omega)
        by_cases hbt : b < n
        · have hbi : (b : Int) < n := by omega
          have htl := toldTo_le Hp.out hlt hab hbn
          have hml : (meets l (upTo n a b)).length ≤ 1000 := by rw [meets_length]; exact upTo_length (by omega) (by omega) hn12
          have e0 : (wr.alloc (Obj.cells #[.int .i64 (a : Int), .int .i64 (b : Int)] 98)).cell? ⟨w.heap.size, 1, none⟩ = some (.slice A l.length c) := (World.cell?_alloc_lt _ _ _ (show w.heap.size < wr.heap.size by omega)).trans v1
          have e1 : (wr.alloc (Obj.cells #[.int .i64 (a : Int), .int .i64 (b : Int)] 98)).cell? ⟨w.heap.size, 0, none⟩ = some (.int .i64 n) := (World.cell?_alloc_lt _ _ _ (show w.heap.size < wr.heap.size by omega)).trans v0
          cases hc : l.contains ((a : Int), (b : Int)) with
          | true =>
            have ht := told_at Hp.out hab hbt hc
            have htlt : toldTo n l a b < l.length := (List.getElem?_eq_some_iff.1 ht).1
            obtain ⟨bb, off, rfl, hbb, c0, c1⟩ := (hA.below hbw (Nat.le_refl _)).pair ht
            have Hc := Lib.hid hc
            have Hyes := Lib.hid (toldTo_yes (n := n) hab hc)
            clear hc ht
            generalize hq : toldTo n l a b = q at *
            have Hq := Lib.hid hq
            clear hq
            have hqi : (q : Int) < (l.length : Int) := by omega
            have hqd : decide ((q : Int) < (l.length : Int)) = true := by simp; omega
            have hqd' : decide (q < l.length) = true := by simp; omega
            have f0 : (wr.alloc (Obj.cells #[.int .i64 (a : Int), .int .i64 (b : Int)] 98)).cell? ⟨bb, off + q * 2, none⟩ = some (.int .i64 a) := (World.cell?_alloc_lt _ _ _ (show bb < wr.heap.size by omega)).trans c0
            have f1 : (wr.alloc (Obj.cells #[.int .i64 (a : Int), .int .i64 (b : Int)] 98)).cell? ⟨bb, off + q * 2 + 1, none⟩ = some (.int .i64 b) := (World.cell?_alloc_lt _ _ _ (show bb < wr.heap.size by omega)).trans c1
            go_wp2
            go_quiet (fail)
            generalize hW : (wr.alloc (Obj.cells #[.int .i64 (a : Int), .int .i64 (b : Int)] 98)).drewN nq = W
            have g0 : W.cell? ⟨wr.heap.size, 0, none⟩ = some (.int .i64 a) := by rw [← hW]; simp
            have g1 : W.cell? ⟨wr.heap.size, 1, none⟩ = some (.int .i64 b) := by rw [← hW]; simp
            have g2 : W.cell? ⟨w.heap.size, 1, none⟩ = some (.slice (some ⟨bb, off, none⟩) l.length c) := by rw [← hW]; exact e0
            have g3 : W.cell? ⟨w.heap.size, 0, none⟩ = some (.int .i64 n) := by rw [← hW]; exact e1
            have ownW : W.ownsRow (w.heap.size + 1) 100 3 u3 (meets l (upTo n a b)).length (mcells (meets l (upTo n a b))) := by rw [← hW]; exact hown.alloc _
            have bW : Below (w.heap.size + 1) (w.alloc (Obj.cells #[.int .i64 (n : Int), .slice (some ⟨bb, off, none⟩) l.length c] 34)) W := by rw [← hW]; exact below_drewN (hb.alloc (by omega) _) _
            have sW : wr.heap.size < W.heap.size := by rw [← hW]; simp
            have sW2 : w.heap.size + 1 ≤ W.heap.size := by omega
            clear hW e0 e1 v0 v1 hown hb hs c0 c1 f0 f1
            go_wp2_with (at_builtin; refine wpList_append_own _ rfl _ _ 135 rfl (w.heap.size + 1) 100 i0 _ 3 24 Tryd.underlying135 hi hz0 hz1 hz2 rfl (by decide) _ _ _ rfl (ownW.alloc _) ⟨W.heap.size, 0, none⟩ 1 1 [.int .i64 a, .int .i64 b, .bool true] rfl rfl (three_cells (by simp) (by simp) (by simp)) (three_one rfl rfl rfl) (by unfold maxLen; omega) (by omega) (by simp; omega) ?_; intro v1 w1 hown1 hg1 _; obtain ⟨A1, d1', rfl, _⟩ := own_shape hown1; have bW1 : Below (w.heap.size + 1) (w.alloc (Obj.cells #[.int .i64 (n : Int), .slice (some ⟨bb, off, none⟩) l.length c] 34)) w1 := (bW.alloc (by omega) _).grown hg1 (by simp; omega) (fun k hk => (ownW.lt k hk).1); have z0 : w1.cell? ⟨w.heap.size, 0, none⟩ = some (.int .i64 n) := carry bW1 (by simp) (by omega); have z1 : w1.cell? ⟨w.heap.size, 1, none⟩ = some (.slice (some ⟨bb, off, none⟩) l.length c) := carry bW1 (by simp) (by omega))
            go_roundw
            case rel =>
              refine ⟨b + 1, by omega, by omega, by go_num, ?_, ?_, bW1⟩
              · rw [Hyes.out]; go_num
              · rw [upTo_next hab, meets_snoc, Hc.out, mcells_append, List.length_append]
                exact hown1
            case measure => simp [intOf]; omega
          | false =>
            have Hc := Lib.hid hc
            have Hno := Lib.hid (toldTo_no (n := n) hab hc)
            clear hc
            generalize hq : toldTo n l a b = q at *
            have Hq := Lib.hid hq
            clear hq
            by_cases hqt : q < l.length
            · obtain ⟨⟨x, y⟩, hx⟩ := getSome l q hqt
              obtain ⟨bb, off, rfl, hbb, c0, c1⟩ := (hA.below hbw (Nat.le_refl _)).pair hx
              have hne := told_not hx a b Hc.out
              have Hx := Lib.hid hx
              clear hx
              have hqi : (q : Int) < (l.length : Int) := by omega
              have hqd : decide ((q : Int) < (l.length : Int)) = true := by simp; omega
              have hqd' : decide (q < l.length) = true := by simp; omega
              have f0 : (wr.alloc (Obj.cells #[.int .i64 (a : Int), .int .i64 (b : Int)] 98)).cell? ⟨bb, off + q * 2, none⟩ = some (.int .i64 x) := (World.cell?_alloc_lt _ _ _ (show bb < wr.heap.size by omega)).trans c0
              have f1 : (wr.alloc (Obj.cells #[.int .i64 (a : Int), .int .i64 (b : Int)] 98)).cell? ⟨bb, off + q * 2 + 1, none⟩ = some (.int .i64 y) := (World.cell?_alloc_lt _ _ _ (show bb < wr.heap.size by omega)).trans c1
              by_cases hxa : x = (a : Int)
              · have hyb : ¬ y = (b : Int) := fun h => hne ⟨hxa, h⟩
                clear hne
                subst hxa
                go_wp2
                go_quiet (fail)
                generalize hW : (wr.alloc (Obj.cells #[.int .i64 (a : Int), .int .i64 (b : Int)] 98)).drewN nq = W
                have g0 : W.cell? ⟨wr.heap.size, 0, none⟩ = some (.int .i64 a) := by rw [← hW]; simp
                have g1 : W.cell? ⟨wr.heap.size, 1, none⟩ = some (.int .i64 b) := by rw [← hW]; simp
                have g2 : W.cell? ⟨w.heap.size, 1, none⟩ = some (.slice (some ⟨bb, off, none⟩) l.length c) := by rw [← hW]; exact e0
                have g3 : W.cell? ⟨w.heap.size, 0, none⟩ = some (.int .i64 n) := by rw [← hW]; exact e1
                have ownW : W.ownsRow (w.heap.size + 1) 100 3 u3 (meets l (upTo n a b)).length (mcells (meets l (upTo n a b))) := by rw [← hW]; exact hown.alloc _
                have bW : Below (w.heap.size + 1) (w.alloc (Obj.cells #[.int .i64 (n : Int), .slice (some ⟨bb, off, none⟩) l.length c] 34)) W := by rw [← hW]; exact below_drewN (hb.alloc (by omega) _) _
                have sW : wr.heap.size < W.heap.size := by rw [← hW]; simp
                have sW2 : w.heap.size + 1 ≤ W.heap.size := by omega
                clear hW e0 e1 v0 v1 hown hb hs c0 c1 f0 f1
                go_wp2_with (at_builtin; refine wpList_append_own _ rfl _ _ 135 rfl (w.heap.size + 1) 100 i0 _ 3 24 Tryd.underlying135 hi hz0 hz1 hz2 rfl (by decide) _ _ _ rfl (ownW.alloc _) ⟨W.heap.size, 0, none⟩ 1 1 [.int .i64 a, .int .i64 b, .bool false] rfl rfl (three_cells (by simp) (by simp) (by simp)) (three_one rfl rfl rfl) (by unfold maxLen; omega) (by omega) (by simp; omega) ?_; intro v1 w1 hown1 hg1 _; obtain ⟨A1, d1', rfl, _⟩ := own_shape hown1; have bW1 : Below (w.heap.size + 1) (w.alloc (Obj.cells #[.int .i64 (n : Int), .slice (some ⟨bb, off, none⟩) l.length c] 34)) w1 := (bW.alloc (by omega) _).grown hg1 (by simp; omega) (fun k hk => (ownW.lt k hk).1); have z0 : w1.cell? ⟨w.heap.size, 0, none⟩ = some (.int .i64 n) := carry bW1 (by simp) (by omega); have z1 : w1.cell? ⟨w.heap.size, 1, none⟩ = some (.slice (some ⟨bb, off, none⟩) l.length c) := carry bW1 (by simp) (by omega))
                go_roundw
                case rel =>
                  refine ⟨b + 1, by omega, by omega, by go_num, ?_, ?_, bW1⟩
                  · rw [Hno.out]
                  · rw [upTo_next hab, meets_snoc, Hc.out, mcells_append, List.length_append]
                    exact hown1
                case measure => simp [intOf]; omega
              · clear hne
                go_wp2
                go_quiet (fail)
                generalize hW : (wr.alloc (Obj.cells #[.int .i64 (a : Int), .int .i64 (b : Int)] 98)).drewN nq = W
                have g0 : W.cell? ⟨wr.heap.size, 0, none⟩ = some (.int .i64 a) := by rw [← hW]; simp
                have g1 : W.cell? ⟨wr.heap.size, 1, none⟩ = some (.int .i64 b) := by rw [← hW]; simp
                have g2 : W.cell? ⟨w.heap.size, 1, none⟩ = some (.slice (some ⟨bb, off, none⟩) l.length c) := by rw [← hW]; exact e0
                have g3 : W.cell? ⟨w.heap.size, 0, none⟩ = some (.int .i64 n) := by rw [← hW]; exact e1
                have ownW : W.ownsRow (w.heap.size + 1) 100 3 u3 (meets l (upTo n a b)).length (mcells (meets l (upTo n a b))) := by rw [← hW]; exact hown.alloc _
                have bW : Below (w.heap.size + 1) (w.alloc (Obj.cells #[.int .i64 (n : Int), .slice (some ⟨bb, off, none⟩) l.length c] 34)) W := by rw [← hW]; exact below_drewN (hb.alloc (by omega) _) _
                have sW : wr.heap.size < W.heap.size := by rw [← hW]; simp
                have sW2 : w.heap.size + 1 ≤ W.heap.size := by omega
                clear hW e0 e1 v0 v1 hown hb hs c0 c1 f0 f1
                go_wp2_with (at_builtin; refine wpList_append_own _ rfl _ _ 135 rfl (w.heap.size + 1) 100 i0 _ 3 24 Tryd.underlying135 hi hz0 hz1 hz2 rfl (by decide) _ _ _ rfl (ownW.alloc _) ⟨W.heap.size, 0, none⟩ 1 1 [.int .i64 a, .int .i64 b, .bool false] rfl rfl (three_cells (by simp) (by simp) (by simp)) (three_one rfl rfl rfl) (by unfold maxLen; omega) (by omega) (by simp; omega) ?_; intro v1 w1 hown1 hg1 _; obtain ⟨A1, d1', rfl, _⟩ := own_shape hown1; have bW1 : Below (w.heap.size + 1) (w.alloc (Obj.cells #[.int .i64 (n : Int), .slice (some ⟨bb, off, none⟩) l.length c] 34)) w1 := (bW.alloc (by omega) _).grown hg1 (by simp; omega) (fun k hk => (ownW.lt k hk).1); have z0 : w1.cell? ⟨w.heap.size, 0, none⟩ = some (.int .i64 n) := carry bW1 (by simp) (by omega); have z1 : w1.cell? ⟨w.heap.size, 1, none⟩ = some (.slice (some ⟨bb, off, none⟩) l.length c) := carry bW1 (by simp) (by omega))
                go_roundw
                case rel =>
                  refine ⟨b + 1, by omega, by omega, by go_num, ?_, ?_, bW1⟩
                  · rw [Hno.out]
                  · rw [upTo_next hab, meets_snoc, Hc.out, mcells_append, List.length_append]
                    exact hown1
                case measure => simp [intOf]; omega
            · have hqd : decide ((q : Int) < (l.length : Int)) = false := by simp; omega
              have hqd' : decide (q < l.length) = false := by simp; omega
              go_wp2
              go_quiet (fail)
              generalize hW : (wr.alloc (Obj.cells #[.int .i64 (a : Int), .int .i64 (b : Int)] 98)).drewN nq = W
              have g0 : W.cell? ⟨wr.heap.size, 0, none⟩ = some (.int .i64 a) := by rw [← hW]; simp
              have g1 : W.cell? ⟨wr.heap.size, 1, none⟩ = some (.int .i64 b) := by rw [← hW]; simp
              have g2 : W.cell? ⟨w.heap.size, 1, none⟩ = some (.slice A l.length c) := by rw [← hW]; exact e0
              have g3 : W.cell? ⟨w.heap.size, 0, none⟩ = some (.int .i64 n) := by rw [← hW]; exact e1
              have ownW : W.ownsRow (w.heap.size + 1) 100 3 u3 (meets l (upTo n a b)).length (mcells (meets l (upTo n a b))) := by rw [← hW]; exact hown.alloc _
              have bW : Below (w.heap.size + 1) (w.alloc (Obj.cells #[.int .i64 (n : Int), .slice A l.length c] 34)) W := by rw [← hW]; exact below_drewN (hb.alloc (by omega) _) _
              have sW : wr.heap.size < W.heap.size := by rw [← hW]; simp
              have sW2 : w.heap.size + 1 ≤ W.heap.size := by omega
              clear hW e0 e1 v0 v1 hown hb hs
              go_wp2_with (at_builtin; refine wpList_append_own _ rfl _ _ 135 rfl (w.heap.size + 1) 100 i0 _ 3 24 Tryd.underlying135 hi hz0 hz1 hz2 rfl (by decide) _ _ _ rfl (ownW.alloc _) ⟨W.heap.size, 0, none⟩ 1 1 [.int .i64 a, .int .i64 b, .bool false] rfl rfl (three_cells (by simp) (by simp) (by simp)) (three_one rfl rfl rfl) (by unfold maxLen; omega) (by omega) (by simp; omega) ?_; intro v1 w1 hown1 hg1 _; obtain ⟨A1, d1', rfl, _⟩ := own_shape hown1; have bW1 : Below (w.heap.size + 1) (w.alloc (Obj.cells #[.int .i64 (n : Int), .slice A l.length c] 34)) w1 := (bW.alloc (by omega) _).grown hg1 (by simp; omega) (fun k hk => (ownW.lt k hk).1); have z0 : w1.cell? ⟨w.heap.size, 0, none⟩ = some (.int .i64 n) := carry bW1 (by simp) (by omega); have z1 : w1.cell? ⟨w.heap.size, 1, none⟩ = some (.slice A l.length c) := carry bW1 (by simp) (by omega))
              go_roundw
              case rel =>
                refine ⟨b + 1, by omega, by omega, by go_num, ?_, ?_, bW1⟩
                · rw [Hno.out]
                · rw [upTo_next hab, meets_snoc, Hc.out, mcells_append, List.length_append]
                  exact hown1
              case measure => simp [intOf]; omega
        · have hbn' : n = b := by omega
          subst hbn'
          have hge : ¬ ((n : Int) < n) := by omega
          go_wp2
          go_roundw
          case rel => exact ⟨a + 1, by omega, by go_num, by rw [← toldTo_row], by rw [← upTo_row]; exact hown, hb⟩
          case measure => simp [intOf]; omega
    · have hal : n = a := by omega
      subst hal
      have hge : ¬ ((n : Int) < n) := by omega
      rw [upTo_all] at hown
      obtain ⟨A', c', rfl, _⟩ := own_shape hown
      have hbw : Below w.heap.size w wr := Below.trans (b := _) (by go_grown) (hb.mono (by omega))
      have Hown := Lib.hid hown
      clear hown
      go_wp2
      go_ret
      exact ⟨A', c', rfl, own_lower Hown.out (Nat.le_succ _), hbw⟩
end Go.Proofs.YtefkcfkicmfhlaaDoor
/-
  'impl.pairsOf': the pairs of the meetings that are taken, by its contracts: for friends and for strangers.
-/
namespace Go.Proofs.YtefkcfkicmfhlaaDoor
open Go.RowKit

def taken (f : Bool → Bool) (l : ML) : PL := (l.filter fun m => f m.2.2).map fun m => (m.1, m.2.1)
theorem taken_le (f : Bool → Bool) (l : ML) : (taken f l).length ≤ l.length := by unfold taken; rw [List.length_map]; exact List.length_filter_le _ _
theorem taken_snoc (f : Bool → Bool) (l : ML) (x y : Int) (b : Bool) : taken f (l ++ [(x, y, b)]) = taken f l ++ if f b = true then [(x, y)] else [] := by
  unfold taken
  rw [List.filter_append, List.map_append]
  congr 1
  by_cases h : f b = true
  · rw [if_pos h, List.filter_cons_of_pos (by exact h)]; rfl
  · rw [if_neg h, List.filter_cons_of_neg (by exact h)]; rfl
theorem taken_meets (f : Bool → Bool) (l qs : PL) : taken f (meets l qs) = qs.filter fun q => f (l.contains q) := by
  unfold taken meets
  rw [List.filter_map, List.map_map]
  have e : ((fun m : Int × Int × Bool => (m.1, m.2.1)) ∘ fun q : Int × Int => (q.1, q.2, l.contains q)) = id := rfl
  rw [e, List.map_id]
  rfl

set_option maxHeartbeats 400000 in
theorem ofStrangers_any (x y : Int) (f : Bool) (w : World) : Calls Tryd.prog 84 #[.agg #[.int .i64 x, .int .i64 y, .bool f]] w fun e w' => e = .returned (.bool (!f)) ∧ Below w.heap.size w w' := by
  go_enter Tryd.func84, Tryd.ntmps84
  go_wp2
  go_ret
  exact ⟨by simp, by go_grown⟩

set_option maxHeartbeats 2000000 in
set_option maxRecDepth 100000 in
theorem pairsOf_ofStrangers_any (l : ML) (A : Option Addr) (c : Nat) (w : World) (hl : l.length ≤ 1000) (hA : CRead w w.heap.size A (mcells l)) :
    Calls Tryd.prog 121 #[.slice A l.length c, .func (.func 84) #[] #[]] w fun e w' => ∃ A' c', e = .returned (.slice A' (taken (fun b => !b) l).length c') ∧
      w'.ownsRow w.heap.size 98 2 (.slice A' (taken (fun b => !b) l).length c') (taken (fun b => !b) l).length (pcells (taken (fun b => !b) l)) ∧ Below w.heap.size w w' := by
  obtain ⟨i0, hi, hz0, hz1, hz2⟩ := info_parts Tryd.infoPair
  go_enter Tryd.func121, Tryd.ntmps121
  go_wp2
  go_loopw [5, 10] (fun v i wr => ∃ k : Nat, k ≤ l.length ∧ i = .int .i64 k ∧ wr.ownsRow w.heap.size 98 2 v (taken (fun b => !b) (l.take k)).length (pcells (taken (fun b => !b) (l.take k))) ∧ Below w.heap.size w wr) (fun _ i _ => l.length - (intOf i).toNat)
  case atStart => exact ⟨0, Nat.zero_le _, rfl, World.ownsRow_nil _ _ _ _, Below.refl _ _⟩
  case round =>
    obtain ⟨k, hk, rfl, hown, hb⟩ := hrel
    have hs := hb.size
    by_cases hlt : k < l.length
    · obtain ⟨⟨x, y, f⟩, hx⟩ := getSome l k hlt
      obtain ⟨bb, off, rfl, hbb, c0, c1, c2⟩ := (hA.below hb (Nat.le_refl _)).meet hx
      have hki : (k : Int) < (l.length : Int) := by omega
      have htl := taken_le (fun b => !b) (l.take k)
      have htl2 : (l.take k).length ≤ 1000 := Nat.le_trans (List.length_take_le' _ _) hl
      have hsn := taken_snoc (fun b => !b) (l.take k) x y f
      have Hx := Lib.hid hx
      have Hsn := Lib.hid hsn
      clear hx hsn
      cases hf : !f with
      | false =>
        have Hf := Lib.hid hf
        clear hf
        go_wp2_with fail
        refine (ofStrangers_any x y f _).mono ?_
        rw [Hf.out]
        rintro e w2 ⟨rfl, hb2⟩
        simp only [World.size_alloc] at hb2
        have k2 : Below wr.heap.size wr w2 := Below.trans (b := _) (by go_grown) (hb2.mono (by omega))
        go_wp2
        go_roundw
        case rel =>
          refine ⟨k + 1, by omega, by go_num, ?_, hb.trans (k2.mono hs)⟩
          rw [List.take_add_one, Hx.out, Option.toList_some, Hsn.out, Hf.out]
          simp only [Bool.false_eq_true, if_false, List.append_nil]
          exact own_below hown k2 (Nat.le_refl _)
        case measure => simp [intOf]; omega
      | true =>
        have Hf := Lib.hid hf
        clear hf
        go_wp2_with fail
        refine (ofStrangers_any x y f _).mono ?_
        rw [Hf.out]
        rintro e w2 ⟨rfl, hb2⟩
        simp only [World.size_alloc] at hb2
        have k2 : Below wr.heap.size wr w2 := Below.trans (b := _) (by go_grown) (hb2.mono (by omega))
        have d0 : w2.cell? ⟨wr.heap.size, 0, none⟩ = some (.int .i64 x) := carry hb2 (by simp) (by omega)
        have d1 : w2.cell? ⟨wr.heap.size, 1, none⟩ = some (.int .i64 y) := carry hb2 (by simp) (by omega)
        have own2 := own_below hown k2 (Nat.le_refl _)
        have s2 := k2.size
        clear hown c0 c1 c2
        go_wp2_with (at_builtin; refine wpList_append_own _ rfl _ _ 32 rfl w.heap.size 98 i0 _ 2 16 Tryd.underlying32 hi hz0 hz1 hz2 rfl (by decide) _ _ _ rfl (own2.alloc _) ⟨w2.heap.size, 0, none⟩ 1 1 [.int .i64 x, .int .i64 y] rfl rfl (two_cells (by simp) (by simp)) (two_one rfl rfl) (by unfold maxLen; omega) (by omega) (by simp; omega) ?_; intro v1 w3 hown3 hg3 _; obtain ⟨A1, d1', rfl, _⟩ := own_shape hown3)
        go_roundw
        case rel =>
          refine ⟨k + 1, by omega, by go_num, ?_, ?_⟩
          · rw [List.take_add_one, Hx.out, Option.toList_some, Hsn.out, Hf.out]
            simp only [if_true]
            rw [pcells_append, List.length_append]
            exact hown3
          · exact ((hb.trans (k2.mono hs)).alloc (by omega) _).grown hg3 (by simp; omega) (fun k hk => (own2.lt k hk).1)
        case measure => simp [intOf]; omega
    · have hkl : k = l.length := by omega
      subst hkl
      have hge : ¬ ((l.length : Int) < l.length) := by omega
      rw [List.take_length] at hown
      obtain ⟨A', c', rfl, _⟩ := own_shape hown
      have Hown := Lib.hid hown
      clear hown
      go_wp2
      go_ret
      exact ⟨A', c', rfl, Hown.out, hb⟩
end Go.Proofs.YtefkcfkicmfhlaaDoor
/-
  'OtherParty' and 'FullParty': the model's and the program's, by their contracts.
-/
namespace Go.Proofs.YtefkcfkicmfhlaaDoor
open Go.RowKit

set_option maxHeartbeats 2000000 in
set_option maxRecDepth 100000 in
theorem other_any (p : Int) (l : PL) (A : Option Addr) (c : Nat) (w : World) (hp : isP p l = true) (hA : CRead w w.heap.size A (pcells l)) :
    Calls Tryd.prog 155 #[.agg #[.int .i64 p, .slice A l.length c]] w (GotParty w p (otherP p.toNat l)) := by
  have hn := isP_range hp
  have hml : (meets l (allP p.toNat)).length ≤ 1000 := by rw [meets_length]; have := allP_length_le (n := p.toNat) (by omega); omega
  have hrl : (otherP p.toNat l).length ≤ 66 := filter_length_le (by omega) _
  have htk : taken (fun b => !b) (meets l (allP p.toNat)) = otherP p.toNat l := taken_meets _ _ _
  have Htk := Lib.hid htk
  have Hp := Lib.hid hp
  clear hp htk
  go_enter Tryd.func155, Tryd.ntmps155
  go_wp2
  generalize hW : (w.alloc (Obj.cells #[.int .i64 p, .slice A l.length c] 34)).alloc (Obj.cells #[.int .i64 0, .slice none 0 0] 34) = W
  have a0 : W.cell? ⟨w.heap.size, 0, none⟩ = some (.int .i64 p) := by rw [← hW]; simp
  have a1 : W.cell? ⟨w.heap.size, 1, none⟩ = some (.slice A l.length c) := by rw [← hW]; simp
  have x0 : W.cell? ⟨w.heap.size + 1, 0, none⟩ = some (.int .i64 0) := by rw [← hW]; simp
  have x1 : W.cell? ⟨w.heap.size + 1, 1, none⟩ = some (.slice none 0 0) := by rw [← hW]; simp
  have z0 : W.frozen? ⟨w.heap.size + 1, 0, none⟩ = false := by rw [← hW]; simp
  have z1 : W.frozen? ⟨w.heap.size + 1, 1, none⟩ = false := by rw [← hW]; simp
  have kW : Below w.heap.size w W := by rw [← hW]; go_grown
  have sW : w.heap.size + 1 < W.heap.size := by rw [← hW]; simp
  clear hW
  go_region_held3 (fun w' => w'.cell? ⟨w.heap.size, 0, none⟩ = some (.int .i64 p) ∧ w'.cell? ⟨w.heap.size, 1, none⟩ = some (.slice A l.length c)) (first | exact ⟨a0, a1⟩ | exact ⟨b0, b1⟩ | exact ⟨d0, d1⟩ | exact ⟨(World.cell?_setCell_other _ _ _ _ (by simp)).trans ((World.cell?_setCell_other _ _ _ _ (by simp)).trans d0), (World.cell?_setCell_other _ _ _ _ (by simp)).trans ((World.cell?_setCell_other _ _ _ _ (by simp)).trans d1)⟩) ((first
    | (go_at_call 122; refine (meetingsOf_any p l A c _ Hp.out ((hA.below kW.drew (Nat.le_refl _)).more kW.size)).mono ?_; rintro e w1 ⟨A1, c1, rfl, own1, hb1⟩; have g1 : Below W.heap.size W w1 := (Below.refl _ _).drew.trans hb1; have b0 := carry g1 a0 (by omega); have b1 := carry g1 a1 (by omega); have y0 := carry g1 x0 (by omega); have y1 := carry g1 x1 (by omega); have y2 := (g1.frozen (p := ⟨w.heap.size + 1, 0, none⟩) (by simp; omega)).trans z0; have y3 := (g1.frozen (p := ⟨w.heap.size + 1, 1, none⟩) (by simp; omega)).trans z1; have s1 := g1.size)
    | (go_at_call 121; refine (pairsOf_ofStrangers_any (meets l (allP p.toNat)) A1 c1 _ hml (CRead.of_own own1)).mono ?_; rw [Htk.out]; rintro e w2 ⟨A2, c2, rfl, own2, hb2⟩; have d0 := carry hb2 b0 (by omega); have d1 := carry hb2 b1 (by omega); have v0 := carry hb2 y0 (by omega); have v1 := carry hb2 y1 (by omega); have v2 := (hb2.frozen (p := ⟨w.heap.size + 1, 0, none⟩) (by simp; omega)).trans y2; have v3 := (hb2.frozen (p := ⟨w.heap.size + 1, 1, none⟩) (by simp; omega)).trans y3; have s2 := hb2.size)
    | skip))
  go_wp2
  refine bodyPost_ret (v := .agg #[.int .i64 p, .slice A2 (otherP p.toNat l).length c2]) (by simp [results, Tryd.results155, go_sem, v0, v1]) rfl ?_
  exact ⟨A2, c2, rfl, own_lower (ownsRow_setCell_below (ownsRow_setCell_below own2 (a := ⟨w.heap.size + 1, 0, none⟩) (by simp; omega) _) (a := ⟨w.heap.size + 1, 1, none⟩) (by simp; omega) _) (by omega),
    ((kW.trans ((g1.trans (hb2.mono s1)).mono kW.size)).setCell (p := ⟨w.heap.size + 1, 0, none⟩) (by simp) _).setCell (p := ⟨w.heap.size + 1, 1, none⟩) (by simp) _⟩

def resOtherParty (p : Int) (l : PL) : Int × PL × Bool := if isP p l then (p, otherP p.toNat l, true) else (0, [], false)
theorem resOtherParty_len (p : Int) (l : PL) : (resOtherParty p l).2.1.length ≤ 1048576 := by
  unfold resOtherParty
  split
  · rename_i h
    have := isP_range h
    exact Nat.le_trans (filter_length_le (n := p.toNat) (by omega) _) (by omega)
  · simp

end Go.Proofs.YtefkcfkicmfhlaaDoor
/-
  'AreFriends': the model's and the program's, by their contracts.
-/
namespace Go.Proofs.YtefkcfkicmfhlaaDoor
open Go.RowKit

/-! ## People -/
def isMan (p a : Int) : Bool := decide (0 ≤ a ∧ a < p)
theorem isMan_yes {p a : Int} (h : 0 ≤ a ∧ a < p) : isMan p a = true := decide_eq_true h
theorem isMan_no {p a : Int} (h : ¬ (0 ≤ a ∧ a < p)) : isMan p a = false := decide_eq_false h
/-- a party and two different people -/
def isTwo (p : Int) (l : PL) (a b : Int) : Bool := isP p l && isMan p a && isMan p b && decide (a ≠ b)
theorem isTwo_parts {p : Int} {l : PL} {a b : Int} (h : isTwo p l a b = true) : isP p l = true ∧ (0 ≤ a ∧ a < p) ∧ (0 ≤ b ∧ b < p) ∧ a ≠ b := by
  simp only [isTwo, isMan, Bool.and_eq_true, decide_eq_true_eq] at h
  exact ⟨h.1.1.1, h.1.1.2, h.1.2, h.2⟩

/-! ## The pair of two people; whether it is among pairs -/
def indexP (x y : Int) (l : PL) : Int := if l.contains (x, y) then (l.idxOf (x, y) : Int) else -1
set_option maxHeartbeats 1000000 in
set_option maxRecDepth 100000 in
theorem index_any (l : PL) (x y : Int) (A : Option Addr) (c : Nat) (w : World) (hl : l.length ≤ 1048576) (hA : CRead w w.heap.size A (pcells l)) :
    Calls Tryd.prog 157 #[.slice A l.length c, .agg #[.int .i64 x, .int .i64 y]] w fun e w' => e = .returned (.int .i64 (indexP x y l)) ∧ Below w.heap.size w w' := by
  go_enter Tryd.func157, Tryd.ntmps157
  go_wp2
  go_loopw [8] (fun i wr => ∃ k : Nat, k ≤ l.length ∧ i = .int .i64 k ∧ (∀ j, j < k → l[j]? ≠ some (x, y)) ∧ Below (w.heap.size + 1) (w.alloc (Obj.cells #[.int .i64 x, .int .i64 y] 98)) wr) (fun i _ => l.length - (intOf i).toNat)
  case atStart => exact ⟨0, Nat.zero_le _, rfl, fun j hj => by omega, Below.refl _ _⟩
  case round =>
    obtain ⟨k, hk, rfl, hno, hb⟩ := hrel
    have hs := hb.size
    simp only [World.size_alloc] at hs
    have hbw : Below w.heap.size w wr := Below.trans (b := _) (by go_grown) (hb.mono (by omega))
    have x0 : wr.cell? ⟨w.heap.size, 0, none⟩ = some (.int .i64 x) := carry hb (by simp) (by omega)
    have x1 : wr.cell? ⟨w.heap.size, 1, none⟩ = some (.int .i64 y) := carry hb (by simp) (by omega)
    have Hno := Lib.hid hno
    clear hno
    by_cases hlt : k < l.length
    · obtain ⟨⟨u, v⟩, hx⟩ := getSome l k hlt
      obtain ⟨bb, off, rfl, hbb, c0, c1⟩ := (hA.below hbw (Nat.le_refl _)).pair hx
      have hki : (k : Int) < (l.length : Int) := by omega
      have Hx := Lib.hid hx
      clear hx
      by_cases h1 : x = u
      · by_cases h2 : y = v
        · have hc : indexP x y l = k := by
            have hxy : l[k]? = some (x, y) := by rw [Hx.out, h1, h2]
            have hm : l.contains (x, y) = true := List.contains_iff_mem.2 (List.mem_of_getElem? hxy)
            unfold indexP
            rw [if_pos hm]
            have : l.idxOf (x, y) = k := by
              have hlt' := List.idxOf_lt_length_iff.2 (List.contains_iff_mem.1 hm)
              have hg : l[l.idxOf (x, y)]? = some (x, y) := by rw [List.getElem?_eq_getElem hlt']; simp
              rcases Nat.lt_trichotomy (l.idxOf (x, y)) k with h | h | h
              · exact absurd hg (Hno.out _ h)
              · exact h
              · exact absurd (List.not_of_lt_findIdx (p := (· == (x, y))) (xs := l) (i := k) h) (by
                  have e : l[k] = (x, y) := by have := hxy; rw [List.getElem?_eq_getElem hlt] at this; simpa using this
                  simp [e])
            rw [this]
          subst h1 h2
          have Hc := Lib.hid hc
          clear hc
          go_wp2
          go_quiet (fail)
          go_wp2
          go_ret
          exact ⟨by rw [Hc.out]; rfl, ⟨hbw.os, hbw.tape, hbw.output, hbw.size, hbw.block⟩⟩
        · subst h1
          go_wp2
          go_quiet (fail)
          go_wp2
          go_roundw
          case rel =>
            refine ⟨k + 1, by omega, by go_num, ?_, ⟨hb.os, hb.tape, hb.output, hb.size, hb.block⟩⟩
            intro j hj
            rcases Nat.lt_succ_iff_lt_or_eq.1 hj with h | rfl
            · exact Hno.out j h
            · rw [Hx.out]; simp; exact fun h => h2 h.symm
          case measure => simp [intOf]; omega
      · go_wp2
        go_quiet (fail)
        go_wp2
        go_roundw
        case rel =>
          refine ⟨k + 1, by omega, by go_num, ?_, ⟨hb.os, hb.tape, hb.output, hb.size, hb.block⟩⟩
          intro j hj
          rcases Nat.lt_succ_iff_lt_or_eq.1 hj with h | rfl
          · exact Hno.out j h
          · rw [Hx.out]; simp; exact fun h _ => h1 h.symm
        case measure => simp [intOf]; omega
    · have hkl : k = l.length := by omega
      subst hkl
      have hge : ¬ ((l.length : Int) < l.length) := by omega
      have hc : indexP x y l = -1 := by
        unfold indexP
        rw [if_neg]
        intro hm
        obtain ⟨j, hj, hg⟩ := List.getElem_of_mem (List.contains_iff_mem.1 hm)
        exact Hno.out j hj (by rw [List.getElem?_eq_getElem hj, hg])
      have Hc := Lib.hid hc
      clear hc
      go_wp2
      go_ret
      exact ⟨by rw [Hc.out]; rfl, hbw⟩
set_option maxHeartbeats 1000000 in
theorem contains_any (l : PL) (x y : Int) (A : Option Addr) (c : Nat) (w : World) (hl : l.length ≤ 1048576) (hA : CRead w w.heap.size A (pcells l)) :
    Calls Tryd.prog 125 #[.slice A l.length c, .agg #[.int .i64 x, .int .i64 y]] w fun e w' => e = .returned (.bool (l.contains (x, y))) ∧ Below w.heap.size w w' := by
  have hi : decide (0 ≤ indexP x y l) = l.contains (x, y) := by
    unfold indexP
    cases h : l.contains (x, y) with
    | true => rw [if_pos rfl]; simp
    | false => rw [if_neg (by simp)]; rfl
  have Hi := Lib.hid hi
  clear hi
  go_enter Tryd.func125, Tryd.ntmps125
  go_wp2_with fail
  refine (index_any l x y A c _ hl ((hA.below (B' := w.heap.size) (by go_grown) (Nat.le_refl _)).more (by go_size))).mono ?_
  rintro e w2 ⟨rfl, hb2⟩
  simp only [World.size_alloc] at hb2
  go_wp2
  go_ret
  exact ⟨by rw [← Hi.out]; rfl, Below.trans (b := _) (by go_grown) (hb2.mono (by omega))⟩
end Go.Proofs.YtefkcfkicmfhlaaDoor
/-
  'IsGroup' of the model, by its contract.
-/
namespace Go.Proofs.YtefkcfkicmfhlaaDoor
open Go.RowKit

theorem getD_is {q : List Int} {k : Nat} {x : Int} (h : q[k]? = some x) : q.getD k 0 = x := by rw [List.getD_eq_getElem?_getD, h]; rfl

end Go.Proofs.YtefkcfkicmfhlaaDoor
/-
  THE MODEL's GROUPS OF A SIZE ('spec.trGroups'), by its contract: induction on how many are still to come.
-/
namespace Go.Proofs.YtefkcfkicmfhlaaDoor
open Go.RowKit

theorem candR_set {t : Nat → Nat → Bool} {n : Nat} (hn : n ≤ 12) (q : List Int) (a : Nat) : (candR t n q a).length ≤ 12 := by
  unfold candR
  refine Nat.le_trans (List.length_filter_le _ _) ?_
  simp only [List.length_range']
  omega
theorem lists_candR {t : Nat → Nat → Bool} {n k : Nat} (hn : n ≤ 12) (q : List Int) (a : Nat) : (listsC t k q (candR t n q a)).length ≤ 4096 := by
  have h1 := listsC_length_le t k q (candR t n q a)
  have h2 : 2 ^ (candR t n q a).length ≤ 2 ^ 12 := Nat.pow_le_pow_right (by omega) (candR_set hn q a)
  omega
theorem Tryd.infoIntsG : (Tryd.prog.info? 64).map (fun i => (i.zero, i.size, i.bytes)) = some (some (.slice none 0 0), 1, 24) := by kernel_rfl

end Go.Proofs.YtefkcfkicmfhlaaDoor
/-
  'CountGroups': the model's and the program's, by their contracts.
-/
namespace Go.Proofs.YtefkcfkicmfhlaaDoor
open Go.RowKit

theorem friendsT_of {n : Int} {l : PL} (h : isP n l = true) : TiesOf (friendsT l) (adj l) := by
  have hn := isP_range h
  have hl := (isP_list h).2.2.1
  have key : ∀ m, m ≤ l.length → TiesOf (friendsT (l.take m)) (adj (l.take m)) := by
    intro m
    induction m with
    | zero => intro _; exact TiesOf.none
    | succ m ih =>
      intro hm
      obtain ⟨⟨x, y⟩, hx⟩ := getSome l m (by omega)
      have h0 := hl _ (List.mem_of_getElem? hx)
      simp only at h0
      obtain ⟨a, rfl⟩ : ∃ a : Nat, x = a := ⟨x.toNat, by omega⟩
      obtain ⟨b, rfl⟩ : ∃ b : Nat, y = b := ⟨y.toNat, by omega⟩
      rw [List.take_add_one, hx, Option.toList_some, friendsT_snoc, adj_snoc]
      exact (ih (by omega)).with (by omega) (by omega) (by omega)
  have := key l.length (Nat.le_refl _)
  rwa [List.take_length] at this
theorem candR_all (t : Nat → Nat → Bool) (n : Nat) : candR t n [] 0 = List.range n := by
  unfold candR
  rw [List.filter_eq_self.2 (by simp), Nat.sub_zero, List.range_eq_range']
/-- the groups of a size -/
def groupsL (n : Nat) (l : PL) (k : Nat) : List (List Int) := listsC (adj l) k [] (List.range n)
theorem groupsL_few {n : Nat} (hn : n ≤ 12) (l : PL) (k : Nat) : (groupsL n l k).length ≤ 4096 := lists_few (IsSet.people (n := n) (by omega)) (fun b hb => by have := List.mem_range.1 hb; omega)
def resCountGroups (p : Int) (l : PL) (k : Int) : Int × Bool := if isP p l && decide (0 ≤ k ∧ k ≤ 12) then ((groupsL p.toNat l k.toNat).length, true) else (0, false)

end Go.Proofs.YtefkcfkicmfhlaaDoor
/-
  HOW MANY FRIENDS EACH PERSON HAS: the model's count and the program's, by their contracts.
-/
namespace Go.Proofs.YtefkcfkicmfhlaaDoor
open Go.RowKit

def bump (acc : List Int) (a : Int) : List Int := acc.set a.toNat (acc.getD a.toNat 0 + 1)
def numsOf (n : Nat) (l : PL) : List Int := l.foldl (fun acc q => bump (bump acc q.1) q.2) (List.replicate n 0)
theorem bump_length (acc : List Int) (a : Int) : (bump acc a).length = acc.length := by simp [bump]
theorem bump_at {acc : List Int} {a : Nat} {u : Int} (h : acc[a]? = some u) : bump acc (a : Int) = acc.set a (u + 1) := by simp [bump, List.getD, h]
theorem numsOf_snoc (n : Nat) (l : PL) (q : Int × Int) : numsOf n (l ++ [q]) = bump (bump (numsOf n l) q.1) q.2 := by simp [numsOf, List.foldl_append]
theorem numsOf_length (n : Nat) (l : PL) : (numsOf n l).length = n := by
  unfold numsOf
  suffices h : ∀ (l : PL) (acc : List Int), acc.length = n → (l.foldl (fun acc q => bump (bump acc q.1) q.2) acc).length = n from h l _ (by simp)
  intro l
  induction l with
  | nil => intro acc h; exact h
  | cons q l ih => intro acc h; exact ih _ (by rw [bump_length, bump_length, h])
def Small (acc : List Int) (m : Nat) : Prop := ∀ (i : Nat) (x : Int), acc[i]? = some x → 0 ≤ x ∧ x ≤ m
theorem small_zero (n m : Nat) : Small (List.replicate n 0) m := by
  intro i x h
  rw [List.getElem?_replicate] at h
  split at h
  · simp at h; omega
  · cases h
theorem small_set {acc : List Int} {m a : Nat} {u : Int} (h : Small acc m) (ha : acc[a]? = some u) : Small (acc.set a (u + 1)) (m + 1) := by
  intro i x hx
  have hu := h a u ha
  rw [List.getElem?_set] at hx
  split at hx
  · split at hx
    · simp at hx; omega
    · cases hx
  · have := h i x hx; omega
def resNumbersOfFriends (p : Int) (l : PL) : List Int × Bool := if isP p l then (numsOf p.toNat l, true) else ([], false)
theorem resNumbersOfFriends_len (p : Int) (l : PL) : (resNumbersOfFriends p l).1.length ≤ 1048576 := by
  unfold resNumbersOfFriends
  split
  · rename_i h
    have := isP_range h
    rw [numsOf_length]
    omega
  · simp

/-- what one pair does to the row of numbers (the walk writes a store into an old block ahead of a new block) -/
theorem numbers_round {w : World} {B e g n cap a b : Nat} {acc : List Int} {u v : Int} (hown : w.ownsRow B e 1 (.slice (some ⟨g, 0, none⟩) n cap) n (icells acc)) (hu : acc[a]? = some u) (hv : acc[b]? = some v) (hab : a ≠ b) (o : Obj) :
    (w.alloc o).cell? ⟨g, a, none⟩ = some (.int .i64 u) ∧ (w.alloc o).frozen? ⟨g, a, none⟩ = false ∧
      ((w.setCell ⟨g, a, none⟩ (.int .i64 (u + 1))).alloc o).cell? ⟨g, b, none⟩ = some (.int .i64 v) ∧ ((w.setCell ⟨g, a, none⟩ (.int .i64 (u + 1))).alloc o).frozen? ⟨g, b, none⟩ = false ∧
      (((w.setCell ⟨g, a, none⟩ (.int .i64 (u + 1))).setCell ⟨g, b, none⟩ (.int .i64 (v + 1))).alloc o).ownsRow B e 1 (.slice (some ⟨g, 0, none⟩) n cap) n (icells (bump (bump acc a) b)) := by
  have h1 := hown.alloc o
  have h2 := own_setInt hown a (u + 1)
  have h2' := h2.alloc o
  have hv2 : (acc.set a (u + 1))[b]? = some v := by rw [List.getElem?_set_ne hab]; exact hv
  have h3 := own_setInt h2 b (v + 1)
  refine ⟨own_intAt h1 hu, h1.frozenAt _, own_intAt h2' hv2, h2'.frozenAt _, ?_⟩
  rw [bump_at hu, bump_at hv2]
  exact h3.alloc o

set_option maxHeartbeats 1000000 in
set_option maxRecDepth 100000 in
theorem paNumbers_any (p : Int) (l : PL) (A : Option Addr) (c : Nat) (w : World) (hp : isP p l = true) (hA : CRead w w.heap.size A (pcells l)) :
    Calls Tryd.prog 96 #[.agg #[.int .i64 p, .slice A l.length c]] w fun e w' => ∃ g, e = .returned (.slice (some ⟨g, 0, none⟩) p.toNat p.toNat) ∧ w'.ownsRow w.heap.size 3 1 (.slice (some ⟨g, 0, none⟩) p.toNat p.toNat) p.toNat (icells (numsOf p.toNat l)) ∧ Below w.heap.size w w' := by
  obtain ⟨i0, hi, hz0, hz1, hz2⟩ := info_parts Tryd.infoInt
  obtain ⟨n, rfl⟩ : ∃ n : Nat, p = n := ⟨p.toNat, by have := isP_range hp; omega⟩
  have hn := isP_range hp
  have hlen : l.length ≤ 66 := by have h1 := isP_length hp; have h2 := people_sq hn.1 hn.2; omega
  simp only [Int.toNat_natCast]
  have Hp := Lib.hid hp
  clear hp
  go_enter Tryd.func96, Tryd.ntmps96
  go_wp2_with (at_make; refine wpList_make_full _ rfl _ _ 64 rfl w.heap.size 3 i0 _ 1 Tryd.underlying64 hi hz0 hz1 _ _ _ _ n rfl rfl (by omega) (by omega) (by rw [hz2]; omega) (by unfold maxLen; omega) (by go_size) ?_; intro w1 hown1 hgr1; have hb1 : Below (w.heap.size + 1) (w.alloc (Obj.cells #[.int .i64 (n : Int), .slice A l.length c] 34)) w1 := below_of_gb hgr1 (by go_size); have q0 : w1.cell? ⟨w.heap.size, 0, none⟩ = some (.int .i64 n) := carry hb1 (by simp) (by omega); have q1 : w1.cell? ⟨w.heap.size, 1, none⟩ = some (.slice A l.length c) := carry hb1 (by simp) (by omega))
  rw [show Value.cells (.int .i64 0) = #[.int .i64 0] from rfl, made_ints] at hown1
  have hl1 := own_lt hown1
  have hs1 := hb1.size
  simp only [World.size_alloc] at hown1 hl1 hs1
  go_loopw [12] (fun i wr => ∃ k : Nat, k ≤ l.length ∧ i = .int .i64 k ∧ wr.ownsRow w.heap.size 3 1 (.slice (some ⟨w.heap.size + 1, 0, none⟩) n n) n (icells (numsOf n (l.take k))) ∧ Small (numsOf n (l.take k)) (2 * k) ∧ Below (w.heap.size + 1) (w.alloc (Obj.cells #[.int .i64 (n : Int), .slice A l.length c] 34)) wr) (fun i _ => l.length - (intOf i).toNat)
  case atStart => exact ⟨0, Nat.zero_le _, rfl, by simpa [numsOf] using hown1, by simpa [numsOf] using small_zero n _, hb1⟩
  case round =>
    obtain ⟨k, hk, rfl, hown, hsmall, hb⟩ := hrel
    have hs := hb.size
    simp only [World.size_alloc] at hs
    have hbw : Below w.heap.size w wr := Below.trans (b := _) (by go_grown) (hb.mono (by omega))
    have hlt0 := own_lt hown
    by_cases hlt : k < l.length
    · obtain ⟨⟨x, y⟩, hx⟩ := getSome l k hlt
      obtain ⟨h0, h1, h2⟩ := goodAt_pair (isP_good Hp.out hlt) hx
      obtain ⟨a, rfl⟩ : ∃ a : Nat, x = a := ⟨x.toNat, by omega⟩
      obtain ⟨b, rfl⟩ : ∃ b : Nat, y = b := ⟨y.toNat, by omega⟩
      obtain ⟨bb, off, rfl, hbb, c0, c1⟩ := (hA.below hbw (Nat.le_refl _)).pair hx
      obtain ⟨u, hu⟩ := getSome (numsOf n (l.take k)) a (by rw [numsOf_length]; omega)
      obtain ⟨v, hv⟩ := getSome (numsOf n (l.take k)) b (by rw [numsOf_length]; omega)
      have hu0 := hsmall _ _ hu
      have hv0 := hsmall _ _ hv
      obtain ⟨d0, d1, d2, d3, d4⟩ := numbers_round hown hu hv (by omega) (Obj.cells #[.int .i64 (a : Int), .int .i64 (b : Int)] 98)
      have hki : (k : Int) < (l.length : Int) := by omega
      have hsm : Small (bump (bump (numsOf n (l.take k)) a) b) (2 * (k + 1)) := by
        rw [bump_at hu, bump_at (by rw [List.getElem?_set_ne (by omega)]; exact hv)]
        exact small_set (small_set hsmall hu) (by rw [List.getElem?_set_ne (by omega)]; exact hv)
      have Hx := Lib.hid hx
      have Hsm := Lib.hid hsm
      have Hd4 := Lib.hid d4
      have ha : (a : Int) < n := by omega
      have hb' : (b : Int) < n := h2
      clear hx hu hv hsm d4 hsmall
      go_wp2
      go_roundw
      case rel =>
        refine ⟨k + 1, by omega, by go_num, ?_, ?_, ?_⟩
        · rw [List.take_add_one, Hx.out, Option.toList_some, numsOf_snoc]
          exact Hd4.out
        · rw [List.take_add_one, Hx.out, Option.toList_some, numsOf_snoc]
          exact Hsm.out
        · exact ((hb.setCell (p := ⟨w.heap.size + 1, a, none⟩) (by simp) _).setCell (p := ⟨w.heap.size + 1, b, none⟩) (by simp) _).alloc (by simp; omega) _
      case measure => simp [intOf]; omega
    · have hkl : k = l.length := by omega
      subst hkl
      have hge : ¬ ((l.length : Int) < l.length) := by omega
      clear hsmall
      go_wp2
      go_ret
      refine ⟨_, rfl, ?_, hbw⟩
      rwa [List.take_length] at hown

set_option maxHeartbeats 1000000 in
set_option maxRecDepth 100000 in
theorem implNumbersOfFriends_any (p : Int) (l : PL) (A : Option Addr) (c : Nat) (w : World) (hl : l.length ≤ 1048576) (hA : CRead w w.heap.size A (pcells l)) :
    Calls Tryd.prog 145 #[.agg #[.int .i64 p, .slice A l.length c]] w (GotIntsOk w (resNumbersOfFriends p l).1 (resNumbersOfFriends p l).2) := by
  cases hp : isP p l with
  | false =>
    have e : resNumbersOfFriends p l = ([], false) := by simp [resNumbersOfFriends, hp]
    rw [e]
    have Hp := Lib.hid hp
    clear hp e
    go_enter Tryd.func145, Tryd.ntmps145
    go_wp2_with (go_at_call 68; refine (isParty_any _ _ _ _ _ hl ((hA.below (B' := w.heap.size) (by go_grown) (Nat.le_refl _)).more (by go_size))).mono ?_; rw [Hp.out]; rintro e w2 ⟨rfl, hb2⟩; simp only [World.size_alloc] at hb2)
    go_ret2
    exact ⟨none, 0, rfl, World.ownsRow_nil _ _ _ _, Below.trans (b := _) (by go_grown) (hb2.mono (by omega))⟩
  | true =>
    have e : resNumbersOfFriends p l = (numsOf p.toNat l, true) := by simp [resNumbersOfFriends, hp]
    rw [e]
    clear e
    obtain ⟨i0, hi, hz0, hz1, hz2⟩ := info_parts Tryd.infoInt
    obtain ⟨n, rfl⟩ : ∃ n : Nat, p = n := ⟨p.toNat, by have := isP_range hp; omega⟩
    have hn := isP_range hp
    have hlen : l.length ≤ 66 := by have h1 := isP_length hp; have h2 := people_sq hn.1 hn.2; omega
    simp only [Int.toNat_natCast]
    have Hp := Lib.hid hp
    clear hp
    go_enter Tryd.func145, Tryd.ntmps145
    go_wp2_with fail
    refine (isParty_any _ _ _ _ _ hl ((hA.below (B' := w.heap.size) (by go_grown) (Nat.le_refl _)).more (by go_size))).mono ?_
    rw [Hp.out]
    rintro e w2 ⟨rfl, hb2⟩
    simp only [World.size_alloc] at hb2
    have a0 : w2.cell? ⟨w.heap.size, 0, none⟩ = some (.int .i64 n) := carry hb2 (by simp) (by omega)
    have a1 : w2.cell? ⟨w.heap.size, 1, none⟩ = some (.slice A l.length c) := carry hb2 (by simp) (by omega)
    have s2 := hb2.size
    simp only [World.size_alloc] at s2
    go_wp2_with (at_make; refine wpList_make_full _ rfl _ _ 64 rfl w.heap.size 3 i0 _ 1 Tryd.underlying64 hi hz0 hz1 _ _ _ _ n rfl rfl (by omega) (by omega) (by rw [hz2]; omega) (by unfold maxLen; omega) (by omega) ?_; intro w1 hown1 hgr1; have hb1 : Below w2.heap.size w2 w1 := below_of_gb hgr1 (Nat.le_refl _); have q0 : w1.cell? ⟨w.heap.size, 0, none⟩ = some (.int .i64 n) := carry hb1 a0 (by omega); have q1 : w1.cell? ⟨w.heap.size, 1, none⟩ = some (.slice A l.length c) := carry hb1 a1 (by omega))
    rw [show Value.cells (.int .i64 0) = #[.int .i64 0] from rfl, made_ints] at hown1
    have hl1 := own_lt hown1
    have hb1' : Below (w.heap.size + 1) (w.alloc (Obj.cells #[.int .i64 (n : Int), .slice A l.length c] 34)) w1 := hb2.trans (hb1.mono s2)
    clear hb1 hgr1 a0 a1 q0 q1
    go_loopw [16] (fun i wr => ∃ k : Nat, k ≤ l.length ∧ i = .int .i64 k ∧ wr.ownsRow w.heap.size 3 1 (.slice (some ⟨w2.heap.size, 0, none⟩) n n) n (icells (numsOf n (l.take k))) ∧ Small (numsOf n (l.take k)) (2 * k) ∧ Below (w.heap.size + 1) (w.alloc (Obj.cells #[.int .i64 (n : Int), .slice A l.length c] 34)) wr) (fun i _ => l.length - (intOf i).toNat)
    case atStart => exact ⟨0, Nat.zero_le _, rfl, by simpa [numsOf] using hown1, by simpa [numsOf] using small_zero n _, hb1'⟩
    case round =>
      clear hown1 hb1' hl1 hb2
      obtain ⟨k, hk, rfl, hown, hsmall, hb⟩ := hrel
      have hs := hb.size
      simp only [World.size_alloc] at hs
      have hbw : Below w.heap.size w wr := Below.trans (b := _) (by go_grown) (hb.mono (by omega))
      have hlt0 := own_lt hown
      by_cases hlt : k < l.length
      · obtain ⟨⟨x, y⟩, hx⟩ := getSome l k hlt
        obtain ⟨h0, h1, h2⟩ := goodAt_pair (isP_good Hp.out hlt) hx
        obtain ⟨a, rfl⟩ : ∃ a : Nat, x = a := ⟨x.toNat, by omega⟩
        obtain ⟨b, rfl⟩ : ∃ b : Nat, y = b := ⟨y.toNat, by omega⟩
        obtain ⟨bb, off, rfl, hbb, c0, c1⟩ := (hA.below hbw (Nat.le_refl _)).pair hx
        obtain ⟨u, hu⟩ := getSome (numsOf n (l.take k)) a (by rw [numsOf_length]; omega)
        obtain ⟨v, hv⟩ := getSome (numsOf n (l.take k)) b (by rw [numsOf_length]; omega)
        have hu0 := hsmall _ _ hu
        have hv0 := hsmall _ _ hv
        obtain ⟨d0, d1, d2, d3, d4⟩ := numbers_round hown hu hv (by omega) (Obj.cells #[.int .i64 (a : Int), .int .i64 (b : Int)] 98)
        have hki : (k : Int) < (l.length : Int) := by omega
        have hsm : Small (bump (bump (numsOf n (l.take k)) a) b) (2 * (k + 1)) := by
          rw [bump_at hu, bump_at (by rw [List.getElem?_set_ne (by omega)]; exact hv)]
          exact small_set (small_set hsmall hu) (by rw [List.getElem?_set_ne (by omega)]; exact hv)
        have Hx := Lib.hid hx
        have Hsm := Lib.hid hsm
        have Hd4 := Lib.hid d4
        have ha : (a : Int) < n := by omega
        have hb' : (b : Int) < n := h2
        clear hx hu hv hsm d4 hsmall
        go_wp2
        go_roundw
        case rel =>
          refine ⟨k + 1, by omega, by go_num, ?_, ?_, ?_⟩
          · rw [List.take_add_one, Hx.out, Option.toList_some, numsOf_snoc]
            exact Hd4.out
          · rw [List.take_add_one, Hx.out, Option.toList_some, numsOf_snoc]
            exact Hsm.out
          · exact ((hb.setCell (p := ⟨w2.heap.size, a, none⟩) (by simp; omega) _).setCell (p := ⟨w2.heap.size, b, none⟩) (by simp; omega) _).alloc (by simp; omega) _
        case measure => simp [intOf]; omega
      · have hkl : k = l.length := by omega
        subst hkl
        have hge : ¬ ((l.length : Int) < l.length) := by omega
        clear hsmall
        go_wp2
        go_ret2
        refine ⟨some ⟨w2.heap.size, 0, none⟩, n, by rw [numsOf_length]; rfl, ?_, hbw⟩
        rw [List.take_length] at hown
        rwa [numsOf_length]
end Go.Proofs.YtefkcfkicmfhlaaDoor
