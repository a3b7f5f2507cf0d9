/-
  Texts put together for the claim of 'GreatestStrange' (pack 4): ChooseP, GroupP, Meet, MeetW, PairsOf, OtherP, Friends, GroupS, TrG, CountG, Ties3, TriQ.
-/
import Derived.Test.YtepoabbkalhifaaDoorGreatestStrangeP1
import Derived.Test.YtepoabbkalhifaaDoorGreatestStrangeP2
import Derived.Test.YtepoabbkalhifaaDoorGreatestStrangeP3
import Derived.Deep.RegionHeld3
import Derived.Deep.RegionWith
import Derived.Deep.RegionLaw
/-
  PEOPLE CHOSEN AND RENAMED, as plain lists and as tables. Nothing here speaks of the program.
-/
namespace Go.Proofs.YtepoabbkalhifaaDoor
open Go.RowKit

def choiceAt (p : Int) (q : List Int) (i : Nat) : Bool :=
  match q[i]? with
  | none => true
  | some x => decide (0 ≤ x ∧ x < p) && (i == 0 || match q[i - 1]? with | none => true | some y => decide (y < x))
/-- an increasing list of some of p people -/
def isChoiceI (p : Int) (q : List Int) : Bool := (List.range q.length).all (choiceAt p q)
theorem isChoiceI_of {p : Int} {q : List Int} (h : ∀ i, i < q.length → choiceAt p q i = true) : isChoiceI p q = true := by
  simp only [isChoiceI, List.all_eq_true, List.mem_range]
  exact h
theorem isChoiceI_no {p : Int} {q : List Int} {i : Nat} (hi : i < q.length) (h : choiceAt p q i = false) : isChoiceI p q = false := by
  cases he : isChoiceI p q with
  | false => rfl
  | true =>
    simp only [isChoiceI, List.all_eq_true, List.mem_range] at he
    rw [he i hi] at h
    cases h
theorem isChoiceI_good {p : Int} {q : List Int} (h : isChoiceI p q = true) {i : Nat} (hi : i < q.length) : choiceAt p q i = true := by
  simp only [isChoiceI, List.all_eq_true, List.mem_range] at h
  exact h i hi
theorem choiceAt_man {p : Int} {q : List Int} {i : Nat} {x : Int} (h : choiceAt p q i = true) (hx : q[i]? = some x) : 0 ≤ x ∧ x < p := by
  simp only [choiceAt, hx, Bool.and_eq_true, decide_eq_true_eq] at h
  exact h.1
theorem choiceAt_less {p : Int} {q : List Int} {i : Nat} {x y : Int} (h : choiceAt p q (i + 1) = true) (hx : q[i]? = some x) (hy : q[i + 1]? = some y) : x < y := by
  simp only [choiceAt, hy, Nat.add_sub_cancel, hx, Bool.and_eq_true, Bool.or_eq_true, decide_eq_true_eq] at h
  rcases h.2 with h | h
  · simp at h
  · exact h
theorem choiceAt_zero {p : Int} {q : List Int} {k : Nat} {x : Int} (hk : k = 0) (hx : q[k]? = some x) (h : 0 ≤ x ∧ x < p) : choiceAt p q k = true := by
  subst hk
  simp [choiceAt, hx, h.1, h.2]
theorem choiceAt_later {p : Int} {q : List Int} {k : Nat} {x y : Int} (_hk : 0 < k) (hx : q[k - 1]? = some x) (hy : q[k]? = some y) (h : 0 ≤ y ∧ y < p) (hl : x < y) : choiceAt p q k = true := by
  simp [choiceAt, hx, hy, h.1, h.2, hl]
theorem choiceAt_bad {p : Int} {q : List Int} {k : Nat} {x : Int} (hx : q[k]? = some x) (h : ¬ (0 ≤ x ∧ x < p)) : choiceAt p q k = false := by
  simp only [choiceAt, hx, Bool.and_eq_false_iff, decide_eq_false_iff_not]
  exact .inl h
theorem choiceAt_stale {p : Int} {q : List Int} {k : Nat} {x y : Int} (hk : 0 < k) (hx : q[k - 1]? = some x) (hy : q[k]? = some y) (hl : ¬ x < y) : choiceAt p q k = false := by
  cases h : choiceAt p q k with
  | false => rfl
  | true =>
    obtain ⟨j, rfl⟩ : ∃ j, k = j + 1 := ⟨k - 1, by omega⟩
    exact absurd (choiceAt_less h hx hy) hl
theorem isChoiceI_sorted {p : Int} {q : List Int} (h : isChoiceI p q = true) : q.Pairwise (· < ·) := by
  rw [List.pairwise_iff_getElem]
  have step : ∀ (d i : Nat) (hi : i < q.length) (hj : i + d + 1 < q.length), q[i] < q[i + d + 1] := by
    intro d
    induction d with
    | zero => intro i hi hj; exact choiceAt_less (isChoiceI_good h hj) (List.getElem?_eq_getElem (by omega)) (List.getElem?_eq_getElem hj)
    | succ d ih =>
      intro i hi hj
      have h1 := ih i hi (by omega)
      have h2 := choiceAt_less (p := p) (q := q) (i := i + d + 1) (isChoiceI_good h (by omega)) (List.getElem?_eq_getElem (by omega)) (List.getElem?_eq_getElem (by omega))
      exact Int.lt_trans h1 h2
  intro i j hi hj hij
  have e : j = i + (j - i - 1) + 1 := by omega
  have := step (j - i - 1) i hi (by omega)
  simpa only [← e] using this
theorem isChoiceI_mem {p : Int} {q : List Int} (h : isChoiceI p q = true) : ∀ x ∈ q, 0 ≤ x ∧ x < p := by
  intro x hx
  obtain ⟨i, hi, rfl⟩ := List.getElem_of_mem hx
  exact choiceAt_man (isChoiceI_good h hi) (List.getElem?_eq_getElem hi)
theorem isChoiceI_long {p : Int} {q : List Int} (h : isChoiceI p q = true) : (q.length : Int) ≤ p ∨ q = [] := by
  have hs := isChoiceI_sorted h
  have low : ∀ (i : Nat) (x : Int), q[i]? = some x → (i : Int) ≤ x := by
    intro i
    induction i with
    | zero => intro x hx; exact (isChoiceI_mem h x (List.mem_of_getElem? hx)).1
    | succ i ih =>
      intro x hx
      have hl : i + 1 < q.length := (List.getElem?_eq_some_iff.1 hx).1
      obtain ⟨y, hy⟩ := getSome q i (by omega)
      have h1 := ih y hy
      have h2 := choiceAt_less (isChoiceI_good h hl) hy hx
      omega
  by_cases hl : q.length = 0
  · exact .inr (List.eq_nil_of_length_eq_zero hl)
  · obtain ⟨x, hx⟩ := getSome q (q.length - 1) (by omega)
    have h1 := low _ _ hx
    have h2 := (isChoiceI_mem h x (List.mem_of_getElem? hx)).2
    left
    omega

theorem countP_at : ∀ (q : List Int), q.Pairwise (· < ·) → ∀ (i : Nat) (x : Int), q[i]? = some x → q.countP (fun y => decide (y < x)) = i
  | [], _, i, x, h => by simp at h
  | a :: q, hs, 0, x, h => by
    simp only [List.getElem?_cons_zero, Option.some.injEq] at h
    subst h
    rw [List.pairwise_cons] at hs
    rw [List.countP_eq_zero]
    intro b hb
    rcases List.mem_cons.1 hb with rfl | hb
    · simp
    · have := hs.1 b hb
      simp only [decide_eq_true_eq]
      omega
  | a :: q, hs, i + 1, x, h => by
    rw [List.pairwise_cons] at hs
    have hx : q[i]? = some x := by simpa using h
    have := hs.1 x (List.mem_of_getElem? hx)
    rw [List.countP_cons_of_pos (by simpa using this), countP_at q hs.2 i x hx]

/-- how many of a list are less -/
def ltI (q : List Int) (x : Int) : Int := ((q.countP (· < x) : Nat) : Int)
theorem ltI_at {q : List Int} (hs : q.Pairwise (· < ·)) {i : Nat} {x : Int} (hx : q[i]? = some x) : ltI q x = i := by
  unfold ltI
  rw [countP_at q hs i x hx]
theorem ltI_mem {q : List Int} (hs : q.Pairwise (· < ·)) {x : Int} (hx : x ∈ q) : ∃ i : Nat, ltI q x = i ∧ q[i]? = some x := by
  obtain ⟨i, hi, rfl⟩ := List.getElem_of_mem hx
  exact ⟨i, ltI_at hs (List.getElem?_eq_getElem hi), List.getElem?_eq_getElem hi⟩
theorem ltI_le (q : List Int) (x : Int) : 0 ≤ ltI q x ∧ ltI q x ≤ q.length := by
  unfold ltI
  have := List.countP_le_length (p := fun y => decide (y < x)) (l := q)
  omega
/-- the pairs of the people chosen -/
def chooseP (l : PL) (q : List Int) : PL := l.filterMap fun r => if q.contains r.1 = true ∧ q.contains r.2 = true then some (ltI q r.1, ltI q r.2) else none
theorem chooseP_snoc (l : PL) (q : List Int) (x y : Int) : chooseP (l ++ [(x, y)]) q = chooseP l q ++ if q.contains x = true ∧ q.contains y = true then [(ltI q x, ltI q y)] else [] := by
  unfold chooseP
  rw [List.filterMap_append]
  congr 1
  by_cases h : q.contains x = true ∧ q.contains y = true
  · rw [if_pos h, List.filterMap_cons_some (by rw [if_pos h]), List.filterMap_nil]
  · rw [if_neg h, List.filterMap_cons_none (by rw [if_neg h]), List.filterMap_nil]
theorem chooseP_le (l : PL) (q : List Int) : (chooseP l q).length ≤ l.length := List.length_filterMap_le _ _
def gI (q : List Int) (i : Nat) : Nat := (q.getD i 0).toNat
def chosenT (l : PL) (q : List Int) (i j : Nat) : Bool := adj l (gI q i) (gI q j)
theorem gI_at {q : List Int} {i : Nat} {x : Int} (hx : q[i]? = some x) (h0 : 0 ≤ x) : ((gI q i : Nat) : Int) = x := by
  unfold gI
  rw [List.getD_eq_getElem?_getD, hx]
  simp only [Option.getD_some]
  omega
theorem mem_chooseP {l : PL} {q : List Int} {r : Int × Int} : r ∈ chooseP l q ↔ ∃ s ∈ l, s.1 ∈ q ∧ s.2 ∈ q ∧ r = (ltI q s.1, ltI q s.2) := by
  unfold chooseP
  rw [List.mem_filterMap]
  constructor
  · rintro ⟨s, hs, h⟩
    split at h
    · rename_i hc
      rw [List.contains_iff_mem, List.contains_iff_mem] at hc
      exact ⟨s, hs, hc.1, hc.2, by simpa using h.symm⟩
    · cases h
  · rintro ⟨s, hs, h1, h2, rfl⟩
    refine ⟨s, hs, ?_⟩
    rw [if_pos (by rw [List.contains_iff_mem, List.contains_iff_mem]; exact ⟨h1, h2⟩)]
theorem chooseP_list {p : Int} {l : PL} {q : List Int} (hp : isP p l = true) (hq : isChoiceI p q = true) : IsList q.length (chooseP l q) := by
  have hr := isP_range hp
  obtain ⟨_, _, hm, hs⟩ := isP_list hp
  have hqs := isChoiceI_sorted hq
  have hmono : ∀ x y, x ∈ q → y ∈ q → x < y → ltI q x < ltI q y := by
    intro x y hx hy hxy
    obtain ⟨i, ei, hi⟩ := ltI_mem hqs hx
    obtain ⟨j, ej, hj⟩ := ltI_mem hqs hy
    rw [ei, ej]
    have hil : i < q.length := (List.getElem?_eq_some_iff.1 hi).1
    have hjl : j < q.length := (List.getElem?_eq_some_iff.1 hj).1
    have e1 : q[i] = x := by rw [List.getElem?_eq_getElem hil] at hi; simpa using hi
    have e2 : q[j] = y := by rw [List.getElem?_eq_getElem hjl] at hj; simpa using hj
    rcases Nat.lt_trichotomy i j with h | h | h
    · omega
    · subst h; omega
    · have := (List.pairwise_iff_getElem.1 hqs) j i hjl hil h
      omega
  have hlen : (q.length : Int) ≤ 12 := by
    rcases isChoiceI_long hq with h | h
    · omega
    · simp [h]
  refine ⟨by omega, hlen, fun r hr => ?_, ?_⟩
  · obtain ⟨s, hsl, h1, h2, rfl⟩ := mem_chooseP.1 hr
    have h3 := hmono _ _ h1 h2 (hm s hsl).2.1
    obtain ⟨j, ej, hj⟩ := ltI_mem hqs h2
    have hjl : j < q.length := (List.getElem?_eq_some_iff.1 hj).1
    have := ltI_le q s.1
    simp only
    omega
  · unfold chooseP
    rw [List.pairwise_filterMap]
    refine List.Pairwise.imp (fun {a b} hlt u hu v hv => ?_) hs
    split at hu
    · split at hv
      · rename_i h1 h2
        rw [List.contains_iff_mem, List.contains_iff_mem] at h1 h2
        simp only [Option.some.injEq] at hu hv
        subst hu
        subst hv
        unfold plt at hlt ⊢
        rcases hlt with hlt | ⟨e, hlt⟩
        · exact .inl (hmono _ _ h1.1 h2.1 hlt)
        · exact .inr ⟨by simp only; rw [e], hmono _ _ h1.2 h2.2 hlt⟩
      · cases hv
    · cases hu
theorem tabP_choose {p : Int} {l : PL} {q : List Int} (hp : isP p l = true) (hq : isChoiceI p q = true) : tabP q.length (chosenT l q) = chooseP l q := by
  have hc := chooseP_list hp hq
  have hqs := isChoiceI_sorted hq
  obtain ⟨_, _, hm, hs⟩ := isP_list hp
  have hlen : q.length ≤ 12 := by have := hc.2.1; omega
  refine sorted_ext (filter_list hlen _).2.2.2 hc.2.2.2 fun r => ?_
  unfold tabP
  rw [List.mem_filter, mem_allP, mem_chooseP]
  constructor
  · rintro ⟨⟨h0, h1, h2⟩, ht⟩
    obtain ⟨x, hx⟩ := getSome q r.1.toNat (by omega)
    obtain ⟨y, hy⟩ := getSome q r.2.toNat (by omega)
    have hx0 := isChoiceI_mem hq x (List.mem_of_getElem? hx)
    have hy0 := isChoiceI_mem hq y (List.mem_of_getElem? hy)
    have ex := gI_at hx hx0.1
    have ey := gI_at hy hy0.1
    have hxy : x < y := by
      have hil : r.1.toNat < q.length := (List.getElem?_eq_some_iff.1 hx).1
      have hjl : r.2.toNat < q.length := (List.getElem?_eq_some_iff.1 hy).1
      have := (List.pairwise_iff_getElem.1 hqs) _ _ hil hjl (by omega)
      rw [List.getElem?_eq_getElem hil] at hx
      rw [List.getElem?_eq_getElem hjl] at hy
      simp only [Option.some.injEq] at hx hy
      rwa [hx, hy] at this
    have hmem : (x, y) ∈ l := by
      unfold chosenT adj at ht
      rw [ex, ey, Bool.or_eq_true, List.contains_iff_mem, List.contains_iff_mem] at ht
      rcases ht with ht | ht
      · exact ht
      · have := hm _ ht
        simp only at this
        omega
    refine ⟨(x, y), hmem, List.mem_of_getElem? hx, List.mem_of_getElem? hy, ?_⟩
    rw [ltI_at hqs hx, ltI_at hqs hy]
    exact Prod.ext (by simp; omega) (by simp; omega)
  · rintro ⟨s, hsl, h1, h2, rfl⟩
    have hin := hc.2.2.1 _ (mem_chooseP.2 ⟨s, hsl, h1, h2, rfl⟩)
    refine ⟨hin, ?_⟩
    obtain ⟨i, ei, hi⟩ := ltI_mem hqs h1
    obtain ⟨j, ej, hj⟩ := ltI_mem hqs h2
    have hs0 := hm s hsl
    simp only [ei, ej, Int.toNat_natCast]
    unfold chosenT adj
    rw [gI_at hi (by omega), gI_at hj (by omega), Bool.or_eq_true, List.contains_iff_mem]
    left
    exact hsl
end Go.Proofs.YtepoabbkalhifaaDoor
/-
  GROUPS AS PLAIN LISTS: a list is a group just if all of its pairs are chosen. Nothing here speaks of the program.
-/
namespace Go.Proofs.YtepoabbkalhifaaDoor
open Go.RowKit

/-- a person who is a friend of all of a list -/
def knowsI (l : PL) (q : List Int) (x : Int) : Bool := q.all fun y => adj l x.toNat y.toNat
def groupAt (p : Int) (l : PL) (q : List Int) (k : Nat) : Bool := choiceAt p q k && knowsI l (q.take k) (q.getD k 0)
def isGroupI (p : Int) (l : PL) (q : List Int) : Bool := (List.range q.length).all (groupAt p l q)
theorem isGroupI_of {p : Int} {l : PL} {q : List Int} (h : ∀ i, i < q.length → groupAt p l q i = true) : isGroupI p l q = true := by
  simp only [isGroupI, List.all_eq_true, List.mem_range]
  exact h
theorem isGroupI_no {p : Int} {l : PL} {q : List Int} {i : Nat} (hi : i < q.length) (h : groupAt p l q i = false) : isGroupI p l q = false := by
  cases he : isGroupI p l q with
  | false => rfl
  | true =>
    simp only [isGroupI, List.all_eq_true, List.mem_range] at he
    rw [he i hi] at h
    cases h
theorem allP_length : ∀ n : Fin 13, ((allP n.val).length : Int) = waysI n.val 2 := by decide +kernel
theorem allP_ways {n : Nat} (hn : n ≤ 12) : ((allP n).length : Int) = waysI n 2 := allP_length ⟨n, by omega⟩
theorem groups_all {p : Int} {l : PL} {q : List Int} (hp : isP p l = true) (hq : isChoiceI p q = true) : isGroupI p l q = decide (((chooseP l q).length : Int) = waysI q.length 2) := by
  have hlen : q.length ≤ 12 := by have := isP_range hp; rcases isChoiceI_long hq with h | h; (· omega); (· simp [h])
  have hall : ((chooseP l q).length : Int) = waysI q.length 2 ↔ ∀ i j, i < j → j < q.length → chosenT l q i j = true := by
    rw [← tabP_choose hp hq, ← allP_ways hlen]
    unfold tabP
    constructor
    · intro h
      have h2 := List.length_filter_eq_length_iff.1 (Int.ofNat_inj.1 h)
      intro i j hij hj
      have := h2 ((i : Int), (j : Int)) (mem_allP.2 ⟨by simp, by simp; omega, by simp; omega⟩)
      simpa using this
    · intro h
      congr 1
      rw [List.length_filter_eq_length_iff]
      intro r hr
      have h3 := mem_allP.1 hr
      exact h r.1.toNat r.2.toNat (by omega) (by omega)
  have hat : ∀ k, k < q.length → (groupAt p l q k = true ↔ ∀ i, i < k → chosenT l q i k = true) := by
    intro k hk
    unfold groupAt knowsI
    rw [isChoiceI_good hq hk, Bool.true_and, List.all_eq_true]
    constructor
    · intro h i hi
      obtain ⟨y, hy⟩ := getSome q i (by omega)
      have := h y (List.mem_of_getElem? (l := q.take k) (i := i) (by rw [List.getElem?_take, if_pos hi]; exact hy))
      unfold chosenT gI
      rw [adj_comm, show q.getD i 0 = y by rw [List.getD_eq_getElem?_getD, hy]; rfl]
      exact this
    · intro h y hy
      obtain ⟨i, hi, e⟩ := List.getElem_of_mem hy
      rw [List.length_take] at hi
      rw [List.getElem_take] at e
      have := h i (by omega)
      unfold chosenT gI at this
      rw [adj_comm, show q.getD i 0 = y by rw [List.getD_eq_getElem?_getD, List.getElem?_eq_getElem (by omega), e]; rfl] at this
      exact this
  by_cases h : ((chooseP l q).length : Int) = waysI q.length 2
  · rw [decide_eq_true h]
    exact isGroupI_of fun k hk => (hat k hk).2 fun i hi => hall.1 h i k hi hk
  · rw [decide_eq_false h]
    cases he : isGroupI p l q with
    | false => rfl
    | true =>
      refine absurd (hall.2 fun i j hij hj => ?_) h
      simp only [isGroupI, List.all_eq_true, List.mem_range] at he
      exact (hat j hj).1 (he j hj) i hij
theorem groups_not {p : Int} {l : PL} {q : List Int} (hq : isChoiceI p q = false) : isGroupI p l q = false := by
  simp only [isChoiceI, List.all_eq_false, List.mem_range] at hq
  obtain ⟨k, hk, h⟩ := hq
  exact isGroupI_no hk (by unfold groupAt; simp only [Bool.not_eq_true] at h; rw [h, Bool.false_and])
def resIsGroup (p : Int) (l : PL) (q : List Int) : Bool × Bool := if isP p l then (isGroupI p l q, true) else (false, false)
end Go.Proofs.YtepoabbkalhifaaDoor
/-
  THE PROGRAM's MEETINGS OF A PARTY (each pair of people, and whether they are friends), by its contract.
-/
namespace Go.Proofs.YtepoabbkalhifaaDoor
open Go.RowKit

abbrev ML := List (Int × Int × Bool)
def mcells : ML → List Value
  | [] => []
  | m :: l => .int .i64 m.1 :: .int .i64 m.2.1 :: .bool m.2.2 :: mcells l
theorem mcells_length (l : ML) : (mcells l).length = l.length * 3 := by
  induction l with
  | nil => rfl
  | cons p l ih => simp only [mcells, List.length_cons, ih]; omega
theorem mcells_append (l m : ML) : mcells (l ++ m) = mcells l ++ mcells m := by
  induction l with
  | nil => rfl
  | cons p l ih => simp [mcells, ih]
theorem mcells_at {l : ML} {k : Nat} {x y : Int} {f : Bool} (h : l[k]? = some (x, y, f)) : (mcells l)[k * 3]? = some (.int .i64 x) ∧ (mcells l)[k * 3 + 1]? = some (.int .i64 y) ∧ (mcells l)[k * 3 + 2]? = some (.bool f) := by
  induction l generalizing k with
  | nil => simp at h
  | cons p l ih =>
    cases k with
    | zero => simp at h; subst h; exact ⟨rfl, rfl, rfl⟩
    | succ k =>
      have := ih (k := k) (by simpa using h)
      rw [show (k + 1) * 3 = k * 3 + 3 from by omega, show k * 3 + 3 + 1 = k * 3 + 1 + 3 from by omega, show k * 3 + 3 + 2 = k * 3 + 2 + 3 from by omega]
      simpa [mcells] using this
theorem CRead.meet {w : World} {B : Nat} {ad : Option Addr} {l : ML} (h : CRead w B ad (mcells l)) {k : Nat} {x y : Int} {f : Bool} (hk : l[k]? = some (x, y, f)) :
    ∃ b off, ad = some ⟨b, off, none⟩ ∧ b < B ∧ w.cell? ⟨b, off + k * 3, none⟩ = some (.int .i64 x) ∧ w.cell? ⟨b, off + k * 3 + 1, none⟩ = some (.int .i64 y) ∧ w.cell? ⟨b, off + k * 3 + 2, none⟩ = some (.bool f) := by
  obtain ⟨e0, e1, e2⟩ := mcells_at hk
  obtain ⟨b, off, rfl, hb, h0⟩ := h _ _ e0
  obtain ⟨b', off', e, _, h1⟩ := h _ _ e1
  simp only [Option.some.injEq, Addr.mk.injEq, and_true] at e
  obtain ⟨rfl, rfl⟩ := e
  obtain ⟨b', off', e, _, h2⟩ := h _ _ e2
  simp only [Option.some.injEq, Addr.mk.injEq, and_true] at e
  obtain ⟨rfl, rfl⟩ := e
  exact ⟨b, off, rfl, hb, h0, h1, h2⟩

/-- the meetings of pairs -/
def meets (l : PL) (qs : PL) : ML := qs.map fun q => (q.1, q.2, l.contains q)
theorem meets_snoc (l qs : PL) (a b : Int) : meets l (qs ++ [(a, b)]) = meets l qs ++ [(a, b, l.contains (a, b))] := by simp [meets]
theorem meets_length (l qs : PL) : (meets l qs).length = qs.length := by simp [meets]

theorem upTo_prefix {n a b : Nat} (ha : a < n) (hab : a < b) (hb : b ≤ n) : ∃ rest, allP n = upTo n a b ++ rest := by
  have e1 : List.range n = List.range (a + 1) ++ (List.range (n - (a + 1))).map (a + 1 + ·) := by
    rw [← List.range_add]; congr 1; omega
  have e2 : rowP a n = (List.range' (a + 1) (b - (a + 1))).map (fun b : Nat => ((a : Int), (b : Int))) ++ (List.range' b (n - b)).map (fun b : Nat => ((a : Int), (b : Int))) := by
    unfold rowP
    rw [← List.map_append]
    congr 1
    have := List.range'_append_1 (s := a + 1) (m := b - (a + 1)) (n := n - b)
    rw [show a + 1 + (b - (a + 1)) = b from by omega] at this
    rw [this]
    congr 1
    omega
  unfold allP
  rw [e1, List.flatMap_append, List.range_succ, List.flatMap_append]
  simp only [List.flatMap_cons, List.flatMap_nil, List.append_nil]
  rw [e2]
  unfold upTo
  exact ⟨_, by simp only [List.append_assoc]; rfl⟩
/-- how many of the pairs so far are friends -/
def toldTo (n : Nat) (l : PL) (a b : Nat) : Nat := ((upTo n a b).filter fun q => l.contains q).length
theorem toldTo_le {n : Nat} {l : PL} (h : isP n l = true) {a b : Nat} (ha : a < n) (hab : a < b) (hb : b ≤ n) : toldTo n l a b ≤ l.length := by
  obtain ⟨rest, hr⟩ := upTo_prefix ha hab hb
  have hl := isP_filter h
  rw [hr, List.filter_append] at hl
  unfold toldTo
  rw [← congrArg List.length hl, List.length_append]
  omega
theorem told_at {n : Nat} {l : PL} (h : isP n l = true) {a b : Nat} (hab : a < b) (hb : b < n) (hc : l.contains ((a : Int), (b : Int)) = true) : l[toldTo n l a b]? = some ((a : Int), (b : Int)) := by
  obtain ⟨rest, hr⟩ := upTo_prefix (n := n) (a := a) (b := b + 1) (by omega) (by omega) (by omega)
  have hl := isP_filter h
  rw [hr, upTo_next hab, List.append_assoc, List.filter_append] at hl
  simp only [List.singleton_append, List.filter_cons, hc, if_true] at hl
  unfold toldTo
  generalize (upTo n a b).filter (fun q => l.contains q) = F at hl ⊢
  rw [← hl]
  simp
theorem told_not {l : PL} {k : Nat} {x y : Int} (hx : l[k]? = some (x, y)) (a b : Int) (hc : l.contains (a, b) = false) : ¬ (x = a ∧ y = b) := by
  rintro ⟨rfl, rfl⟩
  rw [Bool.eq_false_iff] at hc
  exact hc (List.contains_iff_mem.2 (List.mem_of_getElem? hx))
theorem toldTo_yes {n : Nat} {l : PL} {a b : Nat} (hab : a < b) (hc : l.contains ((a : Int), (b : Int)) = true) : toldTo n l a (b + 1) = toldTo n l a b + 1 := by
  unfold toldTo; rw [upTo_next hab, List.filter_append]; simp only [List.filter_cons, hc, if_true, List.filter_nil, List.length_append, List.length_singleton]
theorem toldTo_no {n : Nat} {l : PL} {a b : Nat} (hab : a < b) (hc : l.contains ((a : Int), (b : Int)) = false) : toldTo n l a (b + 1) = toldTo n l a b := by
  unfold toldTo; rw [upTo_next hab, List.filter_append]; simp only [List.filter_cons, hc, Bool.false_eq_true, if_false, List.filter_nil, List.append_nil]
theorem toldTo_row (n : Nat) (l : PL) (a : Nat) : toldTo n l a n = toldTo n l (a + 1) (a + 1 + 1) := by unfold toldTo; rw [upTo_row]
theorem three_cells {w : World} {g : Nat} {u v x : Value} (h : w.cell? ⟨g, 0, none⟩ = some u) (h' : w.cell? ⟨g, 1, none⟩ = some v) (h'' : w.cell? ⟨g, 2, none⟩ = some x) : ∀ j y, [u, v, x][j]? = some y → w.cell? ((⟨g, 0, none⟩ : Addr).add j) = some y := by
  intro j y hy
  match j, hy with
  | 0, hy => simp at hy; subst hy; simpa [Addr.add] using h
  | 1, hy => simp at hy; subst hy; simpa [Addr.add] using h'
  | 2, hy => simp at hy; subst hy; simpa [Addr.add] using h''
theorem three_one {u v x : Value} (h : u.oneCell' = true) (h' : v.oneCell' = true) (h'' : x.oneCell' = true) : ∀ y ∈ [u, v, x], y.oneCell' = true := by
  intro y hy
  simp at hy
  rcases hy with rfl | rfl | rfl
  · exact h
  · exact h'
  · exact h''
theorem Tryd.infoMeet : (Tryd.prog.info? 149).map (fun i => (i.zero, i.size, i.bytes)) = some (some (.agg #[.int .i64 0, .int .i64 0, .bool false]), 3, 24) := by kernel_rfl
end Go.Proofs.YtepoabbkalhifaaDoor
/-
  'impl.meetingsOf', by its contract.
-/
namespace Go.Proofs.YtepoabbkalhifaaDoor
open Go.RowKit

theorem below_drewN {B : Nat} {a w : World} (h : Below B a w) (k : Nat) : Below B a (w.drewN k) := ⟨h.os, h.tape, h.output, h.size, h.block⟩

set_option maxHeartbeats 2000000 in
set_option maxRecDepth 100000 in
theorem meetingsOf_any (p : Int) (l : PL) (A : Option Addr) (c : Nat) (w : World) (hp : isP p l = true) (hA : CRead w w.heap.size A (pcells l)) :
    Calls Tryd.prog 117 #[.agg #[.int .i64 p, .slice A l.length c]] w fun e w' => ∃ A' c', e = .returned (.slice A' (meets l (allP p.toNat)).length c') ∧
      w'.ownsRow w.heap.size 149 3 (.slice A' (meets l (allP p.toNat)).length c') (meets l (allP p.toNat)).length (mcells (meets l (allP p.toNat))) ∧ Below w.heap.size w w' := by
  obtain ⟨i0, hi, hz0, hz1, hz2⟩ := info_parts Tryd.infoMeet
  obtain ⟨n, rfl⟩ : ∃ n : Nat, p = n := ⟨p.toNat, by have := isP_range hp; omega⟩
  have hn := isP_range hp
  have hn12 : n ≤ 12 := by omega
  have hlen : l.length ≤ 66 := by have h1 := isP_length hp; have h2 := people_sq hn.1 hn.2; omega
  simp only [Int.toNat_natCast]
  have Hp := Lib.hid hp
  clear hp
  go_enter Tryd.func117, Tryd.ntmps117
  go_wp2
  go_loopw [3, 4, 11] (fun v q i wr => ∃ a : Nat, a ≤ n ∧ i = .int .i64 a ∧ q = .int .i64 (toldTo n l a (a + 1)) ∧ wr.ownsRow (w.heap.size + 1) 149 3 v (meets l (upTo n a (a + 1))).length (mcells (meets l (upTo n a (a + 1)))) ∧ Below (w.heap.size + 1) (w.alloc (Obj.cells #[.int .i64 (n : Int), .slice A l.length c] 50)) wr) (fun _ _ i _ => n - (intOf i).toNat)
  case atStart => exact ⟨0, Nat.zero_le _, rfl, by simp [toldTo, upTo_start], World.ownsRow_nil _ _ _ _, Below.refl _ _⟩
  case round =>
    obtain ⟨a, ha, rfl, rfl, hown, hb⟩ := hrel
    have hs := hb.size
    simp only [World.size_alloc] at hs
    have v0 : wr.cell? ⟨w.heap.size, 0, none⟩ = some (.int .i64 n) := carry hb (by simp) (by omega)
    have v1 : wr.cell? ⟨w.heap.size, 1, none⟩ = some (.slice A l.length c) := carry hb (by simp) (by omega)
    by_cases hlt : a < n
    · have hai : (a : Int) < n := by omega
      have Hown := Lib.hid hown
      have Hb := Lib.hid hb
      clear hown hb
      go_wp2
      go_loopw [3, 4, 6] (fun v q i wx => ∃ b : Nat, a < b ∧ b ≤ n ∧ i = .int .i64 b ∧ q = .int .i64 (toldTo n l a b) ∧ wx.ownsRow (w.heap.size + 1) 149 3 v (meets l (upTo n a b)).length (mcells (meets l (upTo n a b))) ∧ Below (w.heap.size + 1) (w.alloc (Obj.cells #[.int .i64 (n : Int), .slice A l.length c] 50)) wx) (fun _ _ i _ => n - (intOf i).toNat)
      case atStart => exact ⟨a + 1, by omega, by omega, by go_num, rfl, Hown.out, Hb.out⟩
      case round =>
        clear Hown Hb v0 v1 hs
        obtain ⟨b, hab, hbn, rfl, rfl, hown, hb⟩ := hrel
        have hs := hb.size
        simp only [World.size_alloc] at hs
        have hbw : Below w.heap.size w wr := Below.trans (b := _) (by go_grown) (hb.mono (by omega))
        have v0 : wr.cell? ⟨w.heap.size, 0, none⟩ = some (.int .i64 n) := carry hb (by simp) (by omega)
        have v1 : wr.cell? ⟨w.heap.size, 1, none⟩ = some (.slice A l.length c) := carry hb (by simp) (by omega)
        by_cases hbt : b < n
        · have hbi : (b : Int) < n := by omega
          have htl := toldTo_le Hp.out hlt hab hbn
          have hml : (meets l (upTo n a b)).length ≤ 1000 := by rw [meets_length]; exact upTo_length (by omega) (by omega) hn12
          have e0 : (wr.alloc (Obj.cells #[.int .i64 (a : Int), .int .i64 (b : Int)] 106)).cell? ⟨w.heap.size, 1, none⟩ = some (.slice A l.length c) := (World.cell?_alloc_lt _ _ _ (show w.heap.size < wr.heap.size by omega)).trans v1
          have e1 : (wr.alloc (Obj.cells #[.int .i64 (a : Int), .int .i64 (b : Int)] 106)).cell? ⟨w.heap.size, 0, none⟩ = some (.int .i64 n) := (World.cell?_alloc_lt _ _ _ (show w.heap.size < wr.heap.size by omega)).trans v0
          cases hc : l.contains ((a : Int), (b : Int)) with
          | true =>
            have ht := told_at Hp.out hab hbt hc
            have htlt : toldTo n l a b < l.length := (List.getElem?_eq_some_iff.1 ht).1
            obtain ⟨bb, off, rfl, hbb, c0, c1⟩ := (hA.below hbw (Nat.le_refl _)).pair ht
            have Hc := Lib.hid hc
            have Hyes := Lib.hid (toldTo_yes (n := n) hab hc)
            clear hc ht
            generalize hq : toldTo n l a b = q at *
            have Hq := Lib.hid hq
            clear hq
            have hqi : (q : Int) < (l.length : Int) := by omega
            have hqd : decide ((q : Int) < (l.length : Int)) = true := by simp; omega
            have hqd' : decide (q < l.length) = true := by simp; omega
            have f0 : (wr.alloc (Obj.cells #[.int .i64 (a : Int), .int .i64 (b : Int)] 106)).cell? ⟨bb, off + q * 2, none⟩ = some (.int .i64 a) := (World.cell?_alloc_lt _ _ _ (show bb < wr.heap.size by omega)).trans c0
            have f1 : (wr.alloc (Obj.cells #[.int .i64 (a : Int), .int .i64 (b : Int)] 106)).cell? ⟨bb, off + q * 2 + 1, none⟩ = some (.int .i64 b) := (World.cell?_alloc_lt _ _ _ (show bb < wr.heap.size by omega)).trans c1
            go_wp2
            go_quiet (fail)
            generalize hW : (wr.alloc (Obj.cells #[.int .i64 (a : Int), .int .i64 (b : Int)] 106)).drewN nq = W
            have g0 : W.cell? ⟨wr.heap.size, 0, none⟩ = some (.int .i64 a) := by rw [← hW]; simp
            have g1 : W.cell? ⟨wr.heap.size, 1, none⟩ = some (.int .i64 b) := by rw [← hW]; simp
            have g2 : W.cell? ⟨w.heap.size, 1, none⟩ = some (.slice (some ⟨bb, off, none⟩) l.length c) := by rw [← hW]; exact e0
            have g3 : W.cell? ⟨w.heap.size, 0, none⟩ = some (.int .i64 n) := by rw [← hW]; exact e1
            have ownW : W.ownsRow (w.heap.size + 1) 149 3 u3 (meets l (upTo n a b)).length (mcells (meets l (upTo n a b))) := by rw [← hW]; exact hown.alloc _
            have bW : Below (w.heap.size + 1) (w.alloc (Obj.cells #[.int .i64 (n : Int), .slice (some ⟨bb, off, none⟩) l.length c] 50)) W := by rw [← hW]; exact below_drewN (hb.alloc (by omega) _) _
            have sW : wr.heap.size < W.heap.size := by rw [← hW]; simp
            have sW2 : w.heap.size + 1 ≤ W.heap.size := by omega
            clear hW e0 e1 v0 v1 hown hb hs c0 c1 f0 f1
            go_wp2_with (at_builtin; refine wpList_append_own _ rfl _ _ 144 rfl (w.heap.size + 1) 149 i0 _ 3 24 Tryd.underlying144 hi hz0 hz1 hz2 rfl (by decide) _ _ _ rfl (ownW.alloc _) ⟨W.heap.size, 0, none⟩ 1 1 [.int .i64 a, .int .i64 b, .bool true] rfl rfl (three_cells (by simp) (by simp) (by simp)) (three_one rfl rfl rfl) (by unfold maxLen; omega) (by omega) (by simp; omega) ?_; intro v1 w1 hown1 hg1 _; obtain ⟨A1, d1', rfl, _⟩ := own_shape hown1; have bW1 : Below (w.heap.size + 1) (w.alloc (Obj.cells #[.int .i64 (n : Int), .slice (some ⟨bb, off, none⟩) l.length c] 50)) w1 := (bW.alloc (by omega) _).grown hg1 (by simp; omega) (fun k hk => (ownW.lt k hk).1); have z0 : w1.cell? ⟨w.heap.size, 0, none⟩ = some (.int .i64 n) := carry bW1 (by simp) (by omega); have z1 : w1.cell? ⟨w.heap.size, 1, none⟩ = some (.slice (some ⟨bb, off, none⟩) l.length c) := carry bW1 (by simp) (by omega))
            go_roundw
            case rel =>
              refine ⟨b + 1, by omega, by omega, by go_num, ?_, ?_, bW1⟩
              · rw [Hyes.out]; go_num
              · rw [upTo_next hab, meets_snoc, Hc.out, mcells_append, List.length_append]
                exact hown1
            case measure => simp [intOf]; omega
          | false =>
            have Hc := Lib.hid hc
            have Hno := Lib.hid (toldTo_no (n := n) hab hc)
            clear hc
            generalize hq : toldTo n l a b = q at *
            have Hq := Lib.hid hq
            clear hq
            by_cases hqt : q < l.length
            · obtain ⟨⟨x, y⟩, hx⟩ := getSome l q hqt
              obtain ⟨bb, off, rfl, hbb, c0, c1⟩ := (hA.below hbw (Nat.le_refl _)).pair hx
              have hne := told_not hx a b Hc.out
              have Hx := Lib.hid hx
              clear hx
              have hqi : (q : Int) < (l.length : Int) := by omega
              have hqd : decide ((q : Int) < (l.length : Int)) = true := by simp; omega
              have hqd' : decide (q < l.length) = true := by simp; omega
              have f0 : (wr.alloc (Obj.cells #[.int .i64 (a : Int), .int .i64 (b : Int)] 106)).cell? ⟨bb, off + q * 2, none⟩ = some (.int .i64 x) := (World.cell?_alloc_lt _ _ _ (show bb < wr.heap.size by omega)).trans c0
              have f1 : (wr.alloc (Obj.cells #[.int .i64 (a : Int), .int .i64 (b : Int)] 106)).cell? ⟨bb, off + q * 2 + 1, none⟩ = some (.int .i64 y) := (World.cell?_alloc_lt _ _ _ (show bb < wr.heap.size by omega)).trans c1
              by_cases hxa : x = (a : Int)
              · have hyb : ¬ y = (b : Int) := fun h => hne ⟨hxa, h⟩
                clear hne
                subst hxa
                go_wp2
                go_quiet (fail)
                generalize hW : (wr.alloc (Obj.cells #[.int .i64 (a : Int), .int .i64 (b : Int)] 106)).drewN nq = W
                have g0 : W.cell? ⟨wr.heap.size, 0, none⟩ = some (.int .i64 a) := by rw [← hW]; simp
                have g1 : W.cell? ⟨wr.heap.size, 1, none⟩ = some (.int .i64 b) := by rw [← hW]; simp
                have g2 : W.cell? ⟨w.heap.size, 1, none⟩ = some (.slice (some ⟨bb, off, none⟩) l.length c) := by rw [← hW]; exact e0
                have g3 : W.cell? ⟨w.heap.size, 0, none⟩ = some (.int .i64 n) := by rw [← hW]; exact e1
                have ownW : W.ownsRow (w.heap.size + 1) 149 3 u3 (meets l (upTo n a b)).length (mcells (meets l (upTo n a b))) := by rw [← hW]; exact hown.alloc _
                have bW : Below (w.heap.size + 1) (w.alloc (Obj.cells #[.int .i64 (n : Int), .slice (some ⟨bb, off, none⟩) l.length c] 50)) W := by rw [← hW]; exact below_drewN (hb.alloc (by omega) _) _
                have sW : wr.heap.size < W.heap.size := by rw [← hW]; simp
                have sW2 : w.heap.size + 1 ≤ W.heap.size := by omega
                clear hW e0 e1 v0 v1 hown hb hs c0 c1 f0 f1
                go_wp2_with (at_builtin; refine wpList_append_own _ rfl _ _ 144 rfl (w.heap.size + 1) 149 i0 _ 3 24 Tryd.underlying144 hi hz0 hz1 hz2 rfl (by decide) _ _ _ rfl (ownW.alloc _) ⟨W.heap.size, 0, none⟩ 1 1 [.int .i64 a, .int .i64 b, .bool false] rfl rfl (three_cells (by simp) (by simp) (by simp)) (three_one rfl rfl rfl) (by unfold maxLen; omega) (by omega) (by simp; omega) ?_; intro v1 w1 hown1 hg1 _; obtain ⟨A1, d1', rfl, _⟩ := own_shape hown1; have bW1 : Below (w.heap.size + 1) (w.alloc (Obj.cells #[.int .i64 (n : Int), .slice (some ⟨bb, off, none⟩) l.length c] 50)) w1 := (bW.alloc (by omega) _).grown hg1 (by simp; omega) (fun k hk => (ownW.lt k hk).1); have z0 : w1.cell? ⟨w.heap.size, 0, none⟩ = some (.int .i64 n) := carry bW1 (by simp) (by omega); have z1 : w1.cell? ⟨w.heap.size, 1, none⟩ = some (.slice (some ⟨bb, off, none⟩) l.length c) := carry bW1 (by simp) (by omega))
                go_roundw
                case rel =>
                  refine ⟨b + 1, by omega, by omega, by go_num, ?_, ?_, bW1⟩
                  · rw [Hno.out]
                  · rw [upTo_next hab, meets_snoc, Hc.out, mcells_append, List.length_append]
                    exact hown1
                case measure => simp [intOf]; omega
              · clear hne
                go_wp2
                go_quiet (fail)
                generalize hW : (wr.alloc (Obj.cells #[.int .i64 (a : Int), .int .i64 (b : Int)] 106)).drewN nq = W
                have g0 : W.cell? ⟨wr.heap.size, 0, none⟩ = some (.int .i64 a) := by rw [← hW]; simp
                have g1 : W.cell? ⟨wr.heap.size, 1, none⟩ = some (.int .i64 b) := by rw [← hW]; simp
                have g2 : W.cell? ⟨w.heap.size, 1, none⟩ = some (.slice (some ⟨bb, off, none⟩) l.length c) := by rw [← hW]; exact e0
                have g3 : W.cell? ⟨w.heap.size, 0, none⟩ = some (.int .i64 n) := by rw [← hW]; exact e1
                have ownW : W.ownsRow (w.heap.size + 1) 149 3 u3 (meets l (upTo n a b)).length (mcells (meets l (upTo n a b))) := by rw [← hW]; exact hown.alloc _
                have bW : Below (w.heap.size + 1) (w.alloc (Obj.cells #[.int .i64 (n : Int), .slice (some ⟨bb, off, none⟩) l.length c] 50)) W := by rw [← hW]; exact below_drewN (hb.alloc (by omega) _) _
                have sW : wr.heap.size < W.heap.size := by rw [← hW]; simp
                have sW2 : w.heap.size + 1 ≤ W.heap.size := by omega
                clear hW e0 e1 v0 v1 hown hb hs c0 c1 f0 f1
                go_wp2_with (at_builtin; refine wpList_append_own _ rfl _ _ 144 rfl (w.heap.size + 1) 149 i0 _ 3 24 Tryd.underlying144 hi hz0 hz1 hz2 rfl (by decide) _ _ _ rfl (ownW.alloc _) ⟨W.heap.size, 0, none⟩ 1 1 [.int .i64 a, .int .i64 b, .bool false] rfl rfl (three_cells (by simp) (by simp) (by simp)) (three_one rfl rfl rfl) (by unfold maxLen; omega) (by omega) (by simp; omega) ?_; intro v1 w1 hown1 hg1 _; obtain ⟨A1, d1', rfl, _⟩ := own_shape hown1; have bW1 : Below (w.heap.size + 1) (w.alloc (Obj.cells #[.int .i64 (n : Int), .slice (some ⟨bb, off, none⟩) l.length c] 50)) w1 := (bW.alloc (by omega) _).grown hg1 (by simp; omega) (fun k hk => (ownW.lt k hk).1); have z0 : w1.cell? ⟨w.heap.size, 0, none⟩ = some (.int .i64 n) := carry bW1 (by simp) (by omega); have z1 : w1.cell? ⟨w.heap.size, 1, none⟩ = some (.slice (some ⟨bb, off, none⟩) l.length c) := carry bW1 (by simp) (by omega))
                go_roundw
                case rel =>
                  refine ⟨b + 1, by omega, by omega, by go_num, ?_, ?_, bW1⟩
                  · rw [Hno.out]
                  · rw [upTo_next hab, meets_snoc, Hc.out, mcells_append, List.length_append]
                    exact hown1
                case measure => simp [intOf]; omega
            · have hqd : decide ((q : Int) < (l.length : Int)) = false := by simp; omega
              have hqd' : decide (q < l.length) = false := by simp; omega
              go_wp2
              go_quiet (fail)
              generalize hW : (wr.alloc (Obj.cells #[.int .i64 (a : Int), .int .i64 (b : Int)] 106)).drewN nq = W
              have g0 : W.cell? ⟨wr.heap.size, 0, none⟩ = some (.int .i64 a) := by rw [← hW]; simp
              have g1 : W.cell? ⟨wr.heap.size, 1, none⟩ = some (.int .i64 b) := by rw [← hW]; simp
              have g2 : W.cell? ⟨w.heap.size, 1, none⟩ = some (.slice A l.length c) := by rw [← hW]; exact e0
              have g3 : W.cell? ⟨w.heap.size, 0, none⟩ = some (.int .i64 n) := by rw [← hW]; exact e1
              have ownW : W.ownsRow (w.heap.size + 1) 149 3 u3 (meets l (upTo n a b)).length (mcells (meets l (upTo n a b))) := by rw [← hW]; exact hown.alloc _
              have bW : Below (w.heap.size + 1) (w.alloc (Obj.cells #[.int .i64 (n : Int), .slice A l.length c] 50)) W := by rw [← hW]; exact below_drewN (hb.alloc (by omega) _) _
              have sW : wr.heap.size < W.heap.size := by rw [← hW]; simp
              have sW2 : w.heap.size + 1 ≤ W.heap.size := by omega
              clear hW e0 e1 v0 v1 hown hb hs
              go_wp2_with (at_builtin; refine wpList_append_own _ rfl _ _ 144 rfl (w.heap.size + 1) 149 i0 _ 3 24 Tryd.underlying144 hi hz0 hz1 hz2 rfl (by decide) _ _ _ rfl (ownW.alloc _) ⟨W.heap.size, 0, none⟩ 1 1 [.int .i64 a, .int .i64 b, .bool false] rfl rfl (three_cells (by simp) (by simp) (by simp)) (three_one rfl rfl rfl) (by unfold maxLen; omega) (by omega) (by simp; omega) ?_; intro v1 w1 hown1 hg1 _; obtain ⟨A1, d1', rfl, _⟩ := own_shape hown1; have bW1 : Below (w.heap.size + 1) (w.alloc (Obj.cells #[.int .i64 (n : Int), .slice A l.length c] 50)) w1 := (bW.alloc (by omega) _).grown hg1 (by simp; omega) (fun k hk => (ownW.lt k hk).1); have z0 : w1.cell? ⟨w.heap.size, 0, none⟩ = some (.int .i64 n) := carry bW1 (by simp) (by omega); have z1 : w1.cell? ⟨w.heap.size, 1, none⟩ = some (.slice A l.length c) := carry bW1 (by simp) (by omega))
              go_roundw
              case rel =>
                refine ⟨b + 1, by omega, by omega, by go_num, ?_, ?_, bW1⟩
                · rw [Hno.out]
                · rw [upTo_next hab, meets_snoc, Hc.out, mcells_append, List.length_append]
                  exact hown1
              case measure => simp [intOf]; omega
        · have hbn' : n = b := by omega
          subst hbn'
          have hge : ¬ ((n : Int) < n) := by omega
          go_wp2
          go_roundw
          case rel => exact ⟨a + 1, by omega, by go_num, by rw [← toldTo_row], by rw [← upTo_row]; exact hown, hb⟩
          case measure => simp [intOf]; omega
    · have hal : n = a := by omega
      subst hal
      have hge : ¬ ((n : Int) < n) := by omega
      rw [upTo_all] at hown
      obtain ⟨A', c', rfl, _⟩ := own_shape hown
      have hbw : Below w.heap.size w wr := Below.trans (b := _) (by go_grown) (hb.mono (by omega))
      have Hown := Lib.hid hown
      clear hown
      go_wp2
      go_ret
      exact ⟨A', c', rfl, own_lower Hown.out (Nat.le_succ _), hbw⟩
end Go.Proofs.YtepoabbkalhifaaDoor
/-
  'impl.pairsOf': the pairs of the meetings that are taken, by its contracts: for friends and for strangers.
-/
namespace Go.Proofs.YtepoabbkalhifaaDoor
open Go.RowKit

def taken (f : Bool → Bool) (l : ML) : PL := (l.filter fun m => f m.2.2).map fun m => (m.1, m.2.1)
theorem taken_le (f : Bool → Bool) (l : ML) : (taken f l).length ≤ l.length := by unfold taken; rw [List.length_map]; exact List.length_filter_le _ _
theorem taken_snoc (f : Bool → Bool) (l : ML) (x y : Int) (b : Bool) : taken f (l ++ [(x, y, b)]) = taken f l ++ if f b = true then [(x, y)] else [] := by
  unfold taken
  rw [List.filter_append, List.map_append]
  congr 1
  by_cases h : f b = true
  · rw [if_pos h, List.filter_cons_of_pos (by exact h)]; rfl
  · rw [if_neg h, List.filter_cons_of_neg (by exact h)]; rfl
theorem taken_meets (f : Bool → Bool) (l qs : PL) : taken f (meets l qs) = qs.filter fun q => f (l.contains q) := by
  unfold taken meets
  rw [List.filter_map, List.map_map]
  have e : ((fun m : Int × Int × Bool => (m.1, m.2.1)) ∘ fun q : Int × Int => (q.1, q.2, l.contains q)) = id := rfl
  rw [e, List.map_id]
  rfl

set_option maxHeartbeats 400000 in
theorem ofStrangers_any (x y : Int) (f : Bool) (w : World) : Calls Tryd.prog 118 #[.agg #[.int .i64 x, .int .i64 y, .bool f]] w fun e w' => e = .returned (.bool (!f)) ∧ Below w.heap.size w w' := by
  go_enter Tryd.func118, Tryd.ntmps118
  go_wp2
  go_ret
  exact ⟨by simp, by go_grown⟩

set_option maxHeartbeats 2000000 in
set_option maxRecDepth 100000 in
theorem pairsOf_ofStrangers_any (l : ML) (A : Option Addr) (c : Nat) (w : World) (hl : l.length ≤ 1000) (hA : CRead w w.heap.size A (mcells l)) :
    Calls Tryd.prog 116 #[.slice A l.length c, .func (.func 118) #[] #[]] w fun e w' => ∃ A' c', e = .returned (.slice A' (taken (fun b => !b) l).length c') ∧
      w'.ownsRow w.heap.size 106 2 (.slice A' (taken (fun b => !b) l).length c') (taken (fun b => !b) l).length (pcells (taken (fun b => !b) l)) ∧ Below w.heap.size w w' := by
  obtain ⟨i0, hi, hz0, hz1, hz2⟩ := info_parts Tryd.infoPair
  go_enter Tryd.func116, Tryd.ntmps116
  go_wp2
  go_loopw [5, 10] (fun v i wr => ∃ k : Nat, k ≤ l.length ∧ i = .int .i64 k ∧ wr.ownsRow w.heap.size 106 2 v (taken (fun b => !b) (l.take k)).length (pcells (taken (fun b => !b) (l.take k))) ∧ Below w.heap.size w wr) (fun _ i _ => l.length - (intOf i).toNat)
  case atStart => exact ⟨0, Nat.zero_le _, rfl, World.ownsRow_nil _ _ _ _, Below.refl _ _⟩
  case round =>
    obtain ⟨k, hk, rfl, hown, hb⟩ := hrel
    have hs := hb.size
    by_cases hlt : k < l.length
    · obtain ⟨⟨x, y, f⟩, hx⟩ := getSome l k hlt
      obtain ⟨bb, off, rfl, hbb, c0, c1, c2⟩ := (hA.below hb (Nat.le_refl _)).meet hx
      have hki : (k : Int) < (l.length : Int) := by omega
      have htl := taken_le (fun b => !b) (l.take k)
      have htl2 : (l.take k).length ≤ 1000 := Nat.le_trans (List.length_take_le' _ _) hl
      have hsn := taken_snoc (fun b => !b) (l.take k) x y f
      have Hx := Lib.hid hx
      have Hsn := Lib.hid hsn
      clear hx hsn
      cases hf : !f with
      | false =>
        have Hf := Lib.hid hf
        clear hf
        go_wp2_with fail
        refine (ofStrangers_any x y f _).mono ?_
        rw [Hf.out]
        rintro e w2 ⟨rfl, hb2⟩
        simp only [World.size_alloc] at hb2
        have k2 : Below wr.heap.size wr w2 := Below.trans (b := _) (by go_grown) (hb2.mono (by omega))
        go_wp2
        go_roundw
        case rel =>
          refine ⟨k + 1, by omega, by go_num, ?_, hb.trans (k2.mono hs)⟩
          rw [List.take_add_one, Hx.out, Option.toList_some, Hsn.out, Hf.out]
          simp only [Bool.false_eq_true, if_false, List.append_nil]
          exact own_below hown k2 (Nat.le_refl _)
        case measure => simp [intOf]; omega
      | true =>
        have Hf := Lib.hid hf
        clear hf
        go_wp2_with fail
        refine (ofStrangers_any x y f _).mono ?_
        rw [Hf.out]
        rintro e w2 ⟨rfl, hb2⟩
        simp only [World.size_alloc] at hb2
        have k2 : Below wr.heap.size wr w2 := Below.trans (b := _) (by go_grown) (hb2.mono (by omega))
        have d0 : w2.cell? ⟨wr.heap.size, 0, none⟩ = some (.int .i64 x) := carry hb2 (by simp) (by omega)
        have d1 : w2.cell? ⟨wr.heap.size, 1, none⟩ = some (.int .i64 y) := carry hb2 (by simp) (by omega)
        have own2 := own_below hown k2 (Nat.le_refl _)
        have s2 := k2.size
        clear hown c0 c1 c2
        go_wp2_with (at_builtin; refine wpList_append_own _ rfl _ _ 48 rfl w.heap.size 106 i0 _ 2 16 Tryd.underlying48 hi hz0 hz1 hz2 rfl (by decide) _ _ _ rfl (own2.alloc _) ⟨w2.heap.size, 0, none⟩ 1 1 [.int .i64 x, .int .i64 y] rfl rfl (two_cells (by simp) (by simp)) (two_one rfl rfl) (by unfold maxLen; omega) (by omega) (by simp; omega) ?_; intro v1 w3 hown3 hg3 _; obtain ⟨A1, d1', rfl, _⟩ := own_shape hown3)
        go_roundw
        case rel =>
          refine ⟨k + 1, by omega, by go_num, ?_, ?_⟩
          · rw [List.take_add_one, Hx.out, Option.toList_some, Hsn.out, Hf.out]
            simp only [if_true]
            rw [pcells_append, List.length_append]
            exact hown3
          · exact ((hb.trans (k2.mono hs)).alloc (by omega) _).grown hg3 (by simp; omega) (fun k hk => (own2.lt k hk).1)
        case measure => simp [intOf]; omega
    · have hkl : k = l.length := by omega
      subst hkl
      have hge : ¬ ((l.length : Int) < l.length) := by omega
      rw [List.take_length] at hown
      obtain ⟨A', c', rfl, _⟩ := own_shape hown
      have Hown := Lib.hid hown
      clear hown
      go_wp2
      go_ret
      exact ⟨A', c', rfl, Hown.out, hb⟩
end Go.Proofs.YtepoabbkalhifaaDoor
/-
  'OtherParty' and 'FullParty': the model's and the program's, by their contracts.
-/
namespace Go.Proofs.YtepoabbkalhifaaDoor
open Go.RowKit

set_option maxHeartbeats 2000000 in
set_option maxRecDepth 100000 in
theorem other_any (p : Int) (l : PL) (A : Option Addr) (c : Nat) (w : World) (hp : isP p l = true) (hA : CRead w w.heap.size A (pcells l)) :
    Calls Tryd.prog 105 #[.agg #[.int .i64 p, .slice A l.length c]] w (GotParty w p (otherP p.toNat l)) := by
  have hn := isP_range hp
  have hml : (meets l (allP p.toNat)).length ≤ 1000 := by rw [meets_length]; have := allP_length_le (n := p.toNat) (by omega); omega
  have hrl : (otherP p.toNat l).length ≤ 66 := filter_length_le (by omega) _
  have htk : taken (fun b => !b) (meets l (allP p.toNat)) = otherP p.toNat l := taken_meets _ _ _
  have Htk := Lib.hid htk
  have Hp := Lib.hid hp
  clear hp htk
  go_enter Tryd.func105, Tryd.ntmps105
  go_wp2
  generalize hW : (w.alloc (Obj.cells #[.int .i64 p, .slice A l.length c] 50)).alloc (Obj.cells #[.int .i64 0, .slice none 0 0] 50) = W
  have a0 : W.cell? ⟨w.heap.size, 0, none⟩ = some (.int .i64 p) := by rw [← hW]; simp
  have a1 : W.cell? ⟨w.heap.size, 1, none⟩ = some (.slice A l.length c) := by rw [← hW]; simp
  have x0 : W.cell? ⟨w.heap.size + 1, 0, none⟩ = some (.int .i64 0) := by rw [← hW]; simp
  have x1 : W.cell? ⟨w.heap.size + 1, 1, none⟩ = some (.slice none 0 0) := by rw [← hW]; simp
  have z0 : W.frozen? ⟨w.heap.size + 1, 0, none⟩ = false := by rw [← hW]; simp
  have z1 : W.frozen? ⟨w.heap.size + 1, 1, none⟩ = false := by rw [← hW]; simp
  have kW : Below w.heap.size w W := by rw [← hW]; go_grown
  have sW : w.heap.size + 1 < W.heap.size := by rw [← hW]; simp
  clear hW
  go_region_held3 (fun w' => w'.cell? ⟨w.heap.size, 0, none⟩ = some (.int .i64 p) ∧ w'.cell? ⟨w.heap.size, 1, none⟩ = some (.slice A l.length c)) (first | exact ⟨a0, a1⟩ | exact ⟨b0, b1⟩ | exact ⟨d0, d1⟩ | exact ⟨(World.cell?_setCell_other _ _ _ _ (by simp)).trans ((World.cell?_setCell_other _ _ _ _ (by simp)).trans d0), (World.cell?_setCell_other _ _ _ _ (by simp)).trans ((World.cell?_setCell_other _ _ _ _ (by simp)).trans d1)⟩) ((first
    | (go_at_call 117; refine (meetingsOf_any p l A c _ Hp.out ((hA.below kW.drew (Nat.le_refl _)).more kW.size)).mono ?_; rintro e w1 ⟨A1, c1, rfl, own1, hb1⟩; have g1 : Below W.heap.size W w1 := (Below.refl _ _).drew.trans hb1; have b0 := carry g1 a0 (by omega); have b1 := carry g1 a1 (by omega); have y0 := carry g1 x0 (by omega); have y1 := carry g1 x1 (by omega); have y2 := (g1.frozen (p := ⟨w.heap.size + 1, 0, none⟩) (by simp; omega)).trans z0; have y3 := (g1.frozen (p := ⟨w.heap.size + 1, 1, none⟩) (by simp; omega)).trans z1; have s1 := g1.size)
    | (go_at_call 116; refine (pairsOf_ofStrangers_any (meets l (allP p.toNat)) A1 c1 _ hml (CRead.of_own own1)).mono ?_; rw [Htk.out]; rintro e w2 ⟨A2, c2, rfl, own2, hb2⟩; have d0 := carry hb2 b0 (by omega); have d1 := carry hb2 b1 (by omega); have v0 := carry hb2 y0 (by omega); have v1 := carry hb2 y1 (by omega); have v2 := (hb2.frozen (p := ⟨w.heap.size + 1, 0, none⟩) (by simp; omega)).trans y2; have v3 := (hb2.frozen (p := ⟨w.heap.size + 1, 1, none⟩) (by simp; omega)).trans y3; have s2 := hb2.size)
    | skip))
  go_wp2
  refine bodyPost_ret (v := .agg #[.int .i64 p, .slice A2 (otherP p.toNat l).length c2]) (by simp [results, Tryd.results105, go_sem, v0, v1]) rfl ?_
  exact ⟨A2, c2, rfl, own_lower (ownsRow_setCell_below (ownsRow_setCell_below own2 (a := ⟨w.heap.size + 1, 0, none⟩) (by simp; omega) _) (a := ⟨w.heap.size + 1, 1, none⟩) (by simp; omega) _) (by omega),
    ((kW.trans ((g1.trans (hb2.mono s1)).mono kW.size)).setCell (p := ⟨w.heap.size + 1, 0, none⟩) (by simp) _).setCell (p := ⟨w.heap.size + 1, 1, none⟩) (by simp) _⟩

def resOtherParty (p : Int) (l : PL) : Int × PL × Bool := if isP p l then (p, otherP p.toNat l, true) else (0, [], false)
theorem resOtherParty_len (p : Int) (l : PL) : (resOtherParty p l).2.1.length ≤ 1048576 := by
  unfold resOtherParty
  split
  · rename_i h
    have := isP_range h
    exact Nat.le_trans (filter_length_le (n := p.toNat) (by omega) _) (by omega)
  · simp

end Go.Proofs.YtepoabbkalhifaaDoor
/-
  'AreFriends': the model's and the program's, by their contracts.
-/
namespace Go.Proofs.YtepoabbkalhifaaDoor
open Go.RowKit

/-! ## People -/
def isMan (p a : Int) : Bool := decide (0 ≤ a ∧ a < p)
theorem isMan_yes {p a : Int} (h : 0 ≤ a ∧ a < p) : isMan p a = true := decide_eq_true h
theorem isMan_no {p a : Int} (h : ¬ (0 ≤ a ∧ a < p)) : isMan p a = false := decide_eq_false h
/-- a party and two different people -/
def isTwo (p : Int) (l : PL) (a b : Int) : Bool := isP p l && isMan p a && isMan p b && decide (a ≠ b)
theorem isTwo_parts {p : Int} {l : PL} {a b : Int} (h : isTwo p l a b = true) : isP p l = true ∧ (0 ≤ a ∧ a < p) ∧ (0 ≤ b ∧ b < p) ∧ a ≠ b := by
  simp only [isTwo, isMan, Bool.and_eq_true, decide_eq_true_eq] at h
  exact ⟨h.1.1.1, h.1.1.2, h.1.2, h.2⟩

/-! ## The pair of two people; whether it is among pairs -/
def indexP (x y : Int) (l : PL) : Int := if l.contains (x, y) then (l.idxOf (x, y) : Int) else -1
end Go.Proofs.YtepoabbkalhifaaDoor
/-
  'IsGroup' of the model, by its contract.
-/
namespace Go.Proofs.YtepoabbkalhifaaDoor
open Go.RowKit

theorem getD_is {q : List Int} {k : Nat} {x : Int} (h : q[k]? = some x) : q.getD k 0 = x := by rw [List.getD_eq_getElem?_getD, h]; rfl

set_option maxHeartbeats 1000000 in
set_option maxRecDepth 100000 in
theorem trKnows_any (n a : Nat) (t : Nat → Nat → Bool) (A : Option Addr) (c : Nat) (G : Nat → Nat) (B : Nat) (q : List Int) (Bq : Option Addr) (d : Nat) (w : World) (hn : n ≤ 12) (ha : a < n) (tab : TabG w B (.slice A n c) n n G t)
    (hq : ∀ x ∈ q, 0 ≤ x ∧ x < n) (hlq : q.length ≤ 1048576) (hB : CRead w w.heap.size Bq (icells q)) :
    Calls Tryd.prog 103 #[.slice A n c, .slice Bq q.length d, .int .i64 a] w fun e w' => e = .returned (.bool (q.all fun y => t a y.toNat)) ∧ w = w' := by
  obtain ⟨g, rfl⟩ := own_form tab.own (by omega)
  have d0 := tab.outer ha
  have hai : (a : Int) < n := by omega
  go_enter Tryd.func103, Tryd.ntmps103
  go_wp2
  go_loop [11] (fun i => ∃ k : Nat, k ≤ q.length ∧ i = .int .i64 k ∧ ∀ (j : Nat) (x : Int), j < k → q[j]? = some x → t a x.toNat = true) (fun i => q.length - (intOf i).toNat)
  case atStart => exact ⟨0, Nat.zero_le _, rfl, fun j x hj => by omega⟩
  case round =>
    obtain ⟨k, hk, rfl, hg⟩ := hrel
    have Hg := Lib.hid hg
    clear hg
    by_cases hlt : k < q.length
    · obtain ⟨x, hx⟩ := getSome q k hlt
      obtain ⟨b, off, rfl, hbb, c0⟩ := hB.int hx
      have hx0 := hq x (List.mem_of_getElem? hx)
      obtain ⟨y, rfl⟩ : ∃ y : Nat, x = y := ⟨x.toNat, by omega⟩
      have hki : (k : Int) < (q.length : Int) := by omega
      have hyi : (y : Int) < n := by omega
      have d1 := tab.cell ha (show y < n by omega)
      have Hx := Lib.hid hx
      clear hx
      cases ht : t a y with
      | false =>
        have e : (q.all fun y => t a y.toNat) = false := by
          rw [List.all_eq_false]
          exact ⟨_, List.mem_of_getElem? Hx.out, by simp [ht]⟩
        have He := Lib.hid e
        rw [ht] at d1
        clear e ht
        go_wp2
        go_ret
        exact ⟨by rw [He.out]; rfl, rfl⟩
      | true =>
        rw [ht] at d1
        have Ht := Lib.hid ht
        clear ht
        go_wp2
        go_round
        case rel =>
          refine ⟨k + 1, by omega, by go_num, fun j z hj hz => ?_⟩
          by_cases hjk : j = k
          · subst hjk
            rw [Hx.out] at hz
            simp only [Option.some.injEq] at hz
            subst hz
            exact Ht.out
          · exact Hg.out j z (by omega) hz
        case measure => simp [intOf]; omega
    · have hkl : k = q.length := by omega
      have hge : ¬ ((k : Int) < (q.length : Int)) := by omega
      have e : (q.all fun y => t a y.toNat) = true := by
        rw [List.all_eq_true]
        intro x hx
        obtain ⟨j, hj, e⟩ := List.getElem_of_mem hx
        exact Hg.out j x (by omega) (by rw [List.getElem?_eq_getElem hj, e])
      have He := Lib.hid e
      clear e
      go_wp2
      go_ret
      exact ⟨by rw [He.out]; rfl, rfl⟩

end Go.Proofs.YtepoabbkalhifaaDoor
/-
  THE MODEL's GROUPS OF A SIZE ('spec.trGroups'), by its contract: induction on how many are still to come.
-/
namespace Go.Proofs.YtepoabbkalhifaaDoor
open Go.RowKit

theorem candR_set {t : Nat → Nat → Bool} {n : Nat} (hn : n ≤ 12) (q : List Int) (a : Nat) : (candR t n q a).length ≤ 12 := by
  unfold candR
  refine Nat.le_trans (List.length_filter_le _ _) ?_
  simp only [List.length_range']
  omega
theorem lists_candR {t : Nat → Nat → Bool} {n k : Nat} (hn : n ≤ 12) (q : List Int) (a : Nat) : (listsC t k q (candR t n q a)).length ≤ 4096 := by
  have h1 := listsC_length_le t k q (candR t n q a)
  have h2 : 2 ^ (candR t n q a).length ≤ 2 ^ 12 := Nat.pow_le_pow_right (by omega) (candR_set hn q a)
  omega
theorem Tryd.infoIntsG : (Tryd.prog.info? 22).map (fun i => (i.zero, i.size, i.bytes)) = some (some (.slice none 0 0), 1, 24) := by kernel_rfl

set_option maxHeartbeats 4000000 in
set_option maxRecDepth 100000 in
theorem trGroups_any (n : Nat) (hn : n ≤ 12) (t : Nat → Nat → Bool) (hsym : ∀ i j, t i j = t j i) (At : Option Addr) (ct : Nat) (G : Nat → Nat) (B0 : Nat) : ∀ (need : Nat) (q : List Int) (A : Option Addr) (c : Nat) (w : World),
    TabG w B0 (.slice At n ct) n n G t → (∀ x ∈ q, 0 ≤ x ∧ x < n) → q.length + need ≤ 100 → CRead w w.heap.size A (icells q) → (q = [] → A = none ∧ c = 0) →
    Calls Tryd.prog 85 #[.slice At n ct, .slice A q.length c, .int .i64 ((q.length + need : Nat) : Int)] w (GotLL w (listsC t need q (candR t n q (fromQ q)))) := by
  obtain ⟨i0, hi, hz0, hz1, hz2⟩ := info_parts Tryd.infoInt
  obtain ⟨i1, hj, hy0, hy1, hy2⟩ := info_parts Tryd.infoIntsG
  intro need
  induction need with
  | zero =>
    intro q A c w tab hq h100 hA hnil
    rw [listsC_zero]
    have hown := l1Own_all q A c w (by omega) hA hnil
    have Hown := Lib.hid hown
    clear hown tab
    rw [Nat.add_zero]
    go_enter Tryd.func85, Tryd.ntmps85
    go_wp2_with fail
    refine Hown.out.mono ?_
    rintro e w1 ⟨A1, c1, rfl, own1, hb1⟩
    go_wp2
    go_ret
    refine ⟨_, _, [.slice A1 q.length c1], rfl, ⟨?_, fun i l hl => ?_, fun e => by simp at e⟩, hb1.alloc hb1.size _⟩
    · refine ⟨by simp, .inr ⟨w1.heap.size, 1, #[.slice A1 q.length c1], rfl, hb1.size, heap_alloc_new w1 _, by simp, by simp [maxLen], by simp, by simp⟩⟩
    · match i, hl with
      | 0, hl =>
        simp at hl
        subst hl
        exact ⟨A1, c1, by simp, own_below own1 ((Below.refl _ w1).alloc (Nat.le_refl _) _) (Nat.le_refl _)⟩
  | succ need ih =>
    intro q A c w tab hq h100 hA hnil
    obtain ⟨L, hL⟩ : ∃ L, listsC t (need + 1) q (candR t n q (fromQ q)) = L := ⟨_, rfl⟩
    have hL4096 := lists_candR (t := t) (k := need + 1) hn q (fromQ q)
    rw [hL] at hL4096 ⊢
    obtain ⟨sz, hsz⟩ : ∃ sz : Int, ((q.length + (need + 1) : Nat) : Int) = sz := ⟨_, rfl⟩
    have hne : ((q.length : Int) == sz) = false := by simp only [beq_eq_false_iff_ne, ne_eq]; omega
    rw [hsz]
    have HSZ := Lib.hid hsz
    clear hsz
    have Tab := Lib.hid tab
    have Hq := Lib.hid hq
    rcases List.eq_nil_or_concat q with hq0 | ⟨q', x, hqx⟩
    · obtain ⟨rfl, rfl⟩ := hnil hq0
      subst hq0
      have HL := Lib.hid (show listsC t (need + 1) [] (candR t n [] 0) = L from hL)
      clear hL tab hq hnil
      generalize hqq : ([] : List Int) = q at *
      have hq0 : ¬ (0 : Int) < (q.length : Int) := by rw [← hqq]; simp
      go_enter Tryd.func85, Tryd.ntmps85
      go_wp2
      go_loopw [8, 9] (fun v i wr => ∃ (a : Nat) (done : List (List Int)) (hs : List Value), a ≤ n ∧ i = .int .i64 a ∧ L = done ++ listsC t (need + 1) q (candR t n q a) ∧ LRows wr w.heap.size v done hs ∧ Below w.heap.size w wr) (fun _ i _ => n - (intOf i).toNat)
      case atStart => exact ⟨0, [], [], by omega, by go_num, by rw [HL.out]; rfl, LRows.none _ _, Below.refl _ _⟩
      case round =>
        obtain ⟨a, done, hs, han, rfl, hL, rows, hb⟩ := hrel
        have s0 := hb.size
        have hLl := congrArg List.length hL
        rw [List.length_append] at hLl
        have HL' := Lib.hid hL
        clear hL
        by_cases hlt : a < n
        · have hai : (a : Int) < n := by omega
          go_wp2_with fail
          refine (trKnows_any n a t At ct G B0 q none 0 _ hn hlt (Tab.out.below hb (Nat.le_refl _)) Hq.out (by omega) ((hA.below hb (Nat.le_refl _)).more s0)).mono ?_
          rintro e w1 ⟨rfl, rfl⟩
          cases hk : (q.all fun y => t a y.toNat) with
          | false =>
            have Hk := Lib.hid hk
            clear hk
            go_wp2
            go_roundw
            case rel => exact ⟨a + 1, done, hs, by omega, by go_num, by rw [HL'.out, candR_no hlt Hk.out], rows, hb⟩
            case measure => simp [intOf]; omega
          | true =>
            have Hk := Lib.hid hk
            clear hk
            go_wp2_with fail
            refine (l1Own_all q none 0 _ (by omega) ((hA.below hb (Nat.le_refl _)).more s0) (fun _ => ⟨rfl, rfl⟩)).mono ?_
            rintro e w2 ⟨A2, c2, rfl, own2, hb2⟩
            have s2 := hb2.size
            go_wp2_with (at_builtin; refine wpList_append_own _ rfl _ _ 22 rfl wr.heap.size 3 i0 _ 1 8 Tryd.underlying22 hi hz0 hz1 hz2 rfl (by decide) _ _ _ rfl (own2.alloc _) ⟨w2.heap.size, 0, none⟩ 1 1 [.int .i64 a] rfl rfl (one_cell (by simp)) (one_one rfl) (by unfold maxLen; omega) (by omega) (by simp; omega) ?_; intro v3 w3 own3 gr3 _; obtain ⟨A3, c3, rfl, _⟩ := own_shape own3)
            have hb3 : Below wr.heap.size wr w3 := (hb2.alloc s2 _).grown gr3 (by simp; omega) (fun k hk => (own2.lt k hk).1)
            have s3 := hb3.size
            have k3 := hb.trans (hb3.mono s0)
            have hll : (q ++ [(a : Int)]).length = q.length + 1 := by simp
            have ihc := ih (q ++ [(a : Int)]) A3 c3 w3 (Tab.out.below k3 (Nat.le_refl _)) (fun x hx => by rcases List.mem_append.1 hx with h | h; exact Hq.out x h; simp at h; omega) (by rw [hll]; omega) (by rw [icells_append]; exact CRead.of_own own3) (fun e => by simp at e)
            rw [← candR_tied hsym, hll, show q.length + 1 + need = q.length + (need + 1) from by omega, HSZ.out] at ihc
            have e1 := candR_yes hlt Hk.out
            have hL2 := HL'.out
            rw [e1, listsC_cons, ← List.append_assoc] at hL2
            obtain ⟨L4, hL4⟩ : ∃ L4, listsC t need (q ++ [(a : Int)]) ((candR t n q (a + 1)).filter (t a)) = L4 := ⟨_, rfl⟩
            rw [hL4] at ihc hL2
            have hl4 := congrArg List.length hL2
            simp only [List.length_append] at hl4
            have HL2 := Lib.hid hL2
            have rows3 := rows.below (hb3.mono (Nat.le_refl _))
            have IHC := Lib.hid ihc
            clear ihc e1 hL4 hL2 own2 own3 gr3 rows hLl HL'
            go_wp2_with fail
            refine IHC.out.mono ?_
            rintro e w4 ⟨A4, c4, hs4, rfl, rows4, hb4⟩
            have s4 := hb4.size
            have k4 := k3.trans (hb4.mono k3.size)
            have rows3' := rows3.below hb4
            have rows4' := rows4.lower (B' := w.heap.size) (by omega)
            clear rows3 rows4 IHC
            by_cases hz4 : L4 = []
            · have e4 := rows4'.nil hz4
              subst hz4
              simp only [List.length_nil, Value.slice.injEq, true_and] at e4
              obtain ⟨rfl, rfl⟩ := e4
              go_wp2_with (at_builtin; refine wpList_append_own_none rfl _ _ 59 rfl w.heap.size 22 i1 1 Tryd.underlying59 hj _ done.length hs rfl rows3'.own rfl ?_)
              go_roundw
              case rel => exact ⟨a + 1, done, hs, by omega, by go_num, by rw [HL2.out, List.append_nil], rows3', k4⟩
              case measure => simp [intOf]; omega
            · have hp4 : 0 < L4.length := by cases L4 with | nil => exact absurd rfl hz4 | cons x y => simp
              obtain ⟨g4, rfl⟩ := own_form rows4'.own hp4
              have rd4 := CRead.of_own rows4'.own
              have hc4 : ∀ j u, hs4[j]? = some u → w4.cell? ((⟨g4, 0, none⟩ : Addr).add j) = some u := fun j u hj => by
                obtain ⟨b, off, e, _, hcell⟩ := rd4 j u hj
                simp only [Option.some.injEq, Addr.mk.injEq, and_true] at e
                obtain ⟨rfl, rfl⟩ := e
                rw [Addr.add_lit]
                exact hcell
              go_wp2_with (at_builtin; refine wpList_append_own _ rfl _ _ 59 rfl w.heap.size 22 i1 _ 1 24 Tryd.underlying59 hj hy0 hy1 hy2 rfl (by decide) _ _ _ rfl rows3'.own ⟨g4, 0, none⟩ L4.length c4 hs4 rfl (by rw [rows4'.length, Nat.mul_one]) hc4 rows4'.one (by unfold maxLen; omega) (by omega) (by omega) ?_; intro v5 w5 own5 gr5 _; obtain ⟨A5, c5, rfl, _⟩ := own_shape own5)
              have rows5 := rows3'.append rows4' own5 gr5 hz4
              have k5 := k4.grown gr5 (by omega) (fun k hk => (rows3'.own.lt k hk).1)
              go_roundw
              case rel => exact ⟨a + 1, _, _, by omega, by go_num, HL2.out, rows5, k5⟩
              case measure => simp [intOf]; omega
        · have hal : a = n := by omega
          subst hal
          have hge : ¬ ((a : Int) < a) := by omega
          have e := HL'.out
          rw [candR_end _ _ _ (Nat.le_refl _), listsC_nil, List.append_nil] at e
          obtain ⟨A5, c5, rfl, _⟩ := own_shape rows.own
          have HE := Lib.hid e
          clear e HL'
          go_wp2
          go_ret
          rw [HE.out]
          exact ⟨A5, c5, hs, rfl, rows, hb⟩
    · have hx : q[q.length - 1]? = some x := by rw [hqx]; simp
      have hxn := hq x (List.mem_of_getElem? hx)
      have hqpos : 0 < q.length := by rw [hqx]; simp
      have hfrom : fromQ q = x.toNat + 1 := by rw [hqx]; unfold fromQ; simp
      obtain ⟨y, rfl⟩ : ∃ y : Nat, x = y := ⟨x.toNat, by omega⟩
      rw [Int.toNat_natCast] at hfrom
      rw [hfrom] at hL
      have HL := Lib.hid hL
      have hqi : (0 : Int) < (q.length : Int) := by omega
      have hq1 : (0 : Int) ≤ (q.length : Int) - 1 := by omega
      have hq2 : ((q.length : Int) - 1).toNat = q.length - 1 := by omega
      obtain ⟨b, off, rfl, hbb, cx⟩ := hA.int hx
      clear hL tab hq hqx hfrom hx
      have Hqpos := Lib.hid hqpos
      go_enter Tryd.func85, Tryd.ntmps85
      go_wp2
      clear hqi hq1 hq2 cx
      go_loopw [8, 9] (fun v i wr => ∃ (a : Nat) (done : List (List Int)) (hs : List Value), a ≤ n ∧ i = .int .i64 a ∧ L = done ++ listsC t (need + 1) q (candR t n q a) ∧ LRows wr w.heap.size v done hs ∧ Below w.heap.size w wr) (fun _ i _ => n - (intOf i).toNat)
      case atStart => exact ⟨y + 1, [], [], by omega, by go_num, by rw [HL.out]; rfl, LRows.none _ _, Below.refl _ _⟩
      case round =>
        obtain ⟨a, done, hs, han, rfl, hL, rows, hb⟩ := hrel
        have s0 := hb.size
        have hLl := congrArg List.length hL
        rw [List.length_append] at hLl
        have HL' := Lib.hid hL
        clear hL
        by_cases hlt : a < n
        · have hai : (a : Int) < n := by omega
          go_wp2_with fail
          refine (trKnows_any n a t At ct G B0 q (some ⟨b, off, none⟩) c _ hn hlt (Tab.out.below hb (Nat.le_refl _)) Hq.out (by omega) ((hA.below hb (Nat.le_refl _)).more s0)).mono ?_
          rintro e w1 ⟨rfl, rfl⟩
          cases hk : (q.all fun y => t a y.toNat) with
          | false =>
            have Hk := Lib.hid hk
            clear hk
            go_wp2
            go_roundw
            case rel => exact ⟨a + 1, done, hs, by omega, by go_num, by rw [HL'.out, candR_no hlt Hk.out], rows, hb⟩
            case measure => simp [intOf]; omega
          | true =>
            have Hk := Lib.hid hk
            clear hk
            go_wp2_with fail
            refine (l1Own_all q (some ⟨b, off, none⟩) c _ (by omega) ((hA.below hb (Nat.le_refl _)).more s0) (fun e => by have h := Hqpos.out; rw [e] at h; simp at h)).mono ?_
            rintro e w2 ⟨A2, c2, rfl, own2, hb2⟩
            have s2 := hb2.size
            go_wp2_with (at_builtin; refine wpList_append_own _ rfl _ _ 22 rfl wr.heap.size 3 i0 _ 1 8 Tryd.underlying22 hi hz0 hz1 hz2 rfl (by decide) _ _ _ rfl (own2.alloc _) ⟨w2.heap.size, 0, none⟩ 1 1 [.int .i64 a] rfl rfl (one_cell (by simp)) (one_one rfl) (by unfold maxLen; omega) (by omega) (by simp; omega) ?_; intro v3 w3 own3 gr3 _; obtain ⟨A3, c3, rfl, _⟩ := own_shape own3)
            have hb3 : Below wr.heap.size wr w3 := (hb2.alloc s2 _).grown gr3 (by simp; omega) (fun k hk => (own2.lt k hk).1)
            have s3 := hb3.size
            have k3 := hb.trans (hb3.mono s0)
            have hll : (q ++ [(a : Int)]).length = q.length + 1 := by simp
            have ihc := ih (q ++ [(a : Int)]) A3 c3 w3 (Tab.out.below k3 (Nat.le_refl _)) (fun x hx => by rcases List.mem_append.1 hx with h | h; exact Hq.out x h; simp at h; omega) (by rw [hll]; omega) (by rw [icells_append]; exact CRead.of_own own3) (fun e => by simp at e)
            rw [← candR_tied hsym, hll, show q.length + 1 + need = q.length + (need + 1) from by omega, HSZ.out] at ihc
            have e1 := candR_yes hlt Hk.out
            have hL2 := HL'.out
            rw [e1, listsC_cons, ← List.append_assoc] at hL2
            obtain ⟨L4, hL4⟩ : ∃ L4, listsC t need (q ++ [(a : Int)]) ((candR t n q (a + 1)).filter (t a)) = L4 := ⟨_, rfl⟩
            rw [hL4] at ihc hL2
            have hl4 := congrArg List.length hL2
            simp only [List.length_append] at hl4
            have HL2 := Lib.hid hL2
            have rows3 := rows.below (hb3.mono (Nat.le_refl _))
            have IHC := Lib.hid ihc
            clear ihc e1 hL4 hL2 own2 own3 gr3 rows hLl HL'
            go_wp2_with fail
            refine IHC.out.mono ?_
            rintro e w4 ⟨A4, c4, hs4, rfl, rows4, hb4⟩
            have s4 := hb4.size
            have k4 := k3.trans (hb4.mono k3.size)
            have rows3' := rows3.below hb4
            have rows4' := rows4.lower (B' := w.heap.size) (by omega)
            clear rows3 rows4 IHC
            by_cases hz4 : L4 = []
            · have e4 := rows4'.nil hz4
              subst hz4
              simp only [List.length_nil, Value.slice.injEq, true_and] at e4
              obtain ⟨rfl, rfl⟩ := e4
              go_wp2_with (at_builtin; refine wpList_append_own_none rfl _ _ 59 rfl w.heap.size 22 i1 1 Tryd.underlying59 hj _ done.length hs rfl rows3'.own rfl ?_)
              go_roundw
              case rel => exact ⟨a + 1, done, hs, by omega, by go_num, by rw [HL2.out, List.append_nil], rows3', k4⟩
              case measure => simp [intOf]; omega
            · have hp4 : 0 < L4.length := by cases L4 with | nil => exact absurd rfl hz4 | cons x y => simp
              obtain ⟨g4, rfl⟩ := own_form rows4'.own hp4
              have rd4 := CRead.of_own rows4'.own
              have hc4 : ∀ j u, hs4[j]? = some u → w4.cell? ((⟨g4, 0, none⟩ : Addr).add j) = some u := fun j u hj => by
                obtain ⟨b, off, e, _, hcell⟩ := rd4 j u hj
                simp only [Option.some.injEq, Addr.mk.injEq, and_true] at e
                obtain ⟨rfl, rfl⟩ := e
                rw [Addr.add_lit]
                exact hcell
              go_wp2_with (at_builtin; refine wpList_append_own _ rfl _ _ 59 rfl w.heap.size 22 i1 _ 1 24 Tryd.underlying59 hj hy0 hy1 hy2 rfl (by decide) _ _ _ rfl rows3'.own ⟨g4, 0, none⟩ L4.length c4 hs4 rfl (by rw [rows4'.length, Nat.mul_one]) hc4 rows4'.one (by unfold maxLen; omega) (by omega) (by omega) ?_; intro v5 w5 own5 gr5 _; obtain ⟨A5, c5, rfl, _⟩ := own_shape own5)
              have rows5 := rows3'.append rows4' own5 gr5 hz4
              have k5 := k4.grown gr5 (by omega) (fun k hk => (rows3'.own.lt k hk).1)
              go_roundw
              case rel => exact ⟨a + 1, _, _, by omega, by go_num, HL2.out, rows5, k5⟩
              case measure => simp [intOf]; omega
        · have hal : a = n := by omega
          subst hal
          have hge : ¬ ((a : Int) < a) := by omega
          have e := HL'.out
          rw [candR_end _ _ _ (Nat.le_refl _), listsC_nil, List.append_nil] at e
          obtain ⟨A5, c5, rfl, _⟩ := own_shape rows.own
          have HE := Lib.hid e
          clear e HL'
          go_wp2
          go_ret
          rw [HE.out]
          exact ⟨A5, c5, hs, rfl, rows, hb⟩
end Go.Proofs.YtepoabbkalhifaaDoor
/-
  'CountGroups': the model's and the program's, by their contracts.
-/
namespace Go.Proofs.YtepoabbkalhifaaDoor
open Go.RowKit

theorem friendsT_of {n : Int} {l : PL} (h : isP n l = true) : TiesOf (friendsT l) (adj l) := by
  have hn := isP_range h
  have hl := (isP_list h).2.2.1
  have key : ∀ m, m ≤ l.length → TiesOf (friendsT (l.take m)) (adj (l.take m)) := by
    intro m
    induction m with
    | zero => intro _; exact TiesOf.none
    | succ m ih =>
      intro hm
      obtain ⟨⟨x, y⟩, hx⟩ := getSome l m (by omega)
      have h0 := hl _ (List.mem_of_getElem? hx)
      simp only at h0
      obtain ⟨a, rfl⟩ : ∃ a : Nat, x = a := ⟨x.toNat, by omega⟩
      obtain ⟨b, rfl⟩ : ∃ b : Nat, y = b := ⟨y.toNat, by omega⟩
      rw [List.take_add_one, hx, Option.toList_some, friendsT_snoc, adj_snoc]
      exact (ih (by omega)).with (by omega) (by omega) (by omega)
  have := key l.length (Nat.le_refl _)
  rwa [List.take_length] at this
theorem candR_all (t : Nat → Nat → Bool) (n : Nat) : candR t n [] 0 = List.range n := by
  unfold candR
  rw [List.filter_eq_self.2 (by simp), Nat.sub_zero, List.range_eq_range']
/-- the groups of a size -/
def groupsL (n : Nat) (l : PL) (k : Nat) : List (List Int) := listsC (adj l) k [] (List.range n)
theorem groupsL_few {n : Nat} (hn : n ≤ 12) (l : PL) (k : Nat) : (groupsL n l k).length ≤ 4096 := lists_few (IsSet.people (n := n) (by omega)) (fun b hb => by have := List.mem_range.1 hb; omega)
def resCountGroups (p : Int) (l : PL) (k : Int) : Int × Bool := if isP p l && decide (0 ≤ k ∧ k ≤ 12) then ((groupsL p.toNat l k.toNat).length, true) else (0, false)

end Go.Proofs.YtepoabbkalhifaaDoor
/-
  TIES THAT ARE MISSING ('missing', 'strangersIn'), by their contracts. Written by wip/tools/gen_ties3.py.
-/
namespace Go.Proofs.YtepoabbkalhifaaDoor
open Go.RowKit

def missT (T : Nat → Nat) (n : Nat) : Nat → Nat := fun i => if i < n then (2 ^ n - 1) &&& (65535 - (T i ||| 2 ^ i)) else 0
def strangeF (n : Nat) (t : Nat → Nat → Bool) : Nat → Nat → Bool := fun a b => decide (a < n) && decide (b < n) && decide (a ≠ b) && !t a b
theorem not_bits (x : Nat) (hx : x < 65536) (b : Nat) (hb : b < 16) : (65535 - x).testBit b = !x.testBit b := by
  have := Nat.testBit_two_pow_sub_succ (n := 16) (x := x) hx b
  rw [show 2 ^ 16 - (x + 1) = 65535 - x from by omega] at this
  rw [this]
  simp [hb]
theorem miss_of {T : Nat → Nat} {t : Nat → Nat → Bool} (h : TiesOf T t) {n : Nat} (hn : n ≤ 12) : TiesOf (missT T n) (strangeF n t) := by
  refine ⟨fun a b ha hb => ?_, fun a ha => ?_⟩
  · unfold missT strangeF
    by_cases hlt : a < n
    · rw [if_pos hlt, Nat.testBit_and, Nat.testBit_two_pow_sub_one, not_bits _ (or_lt (h.lt a ha) (by omega)) b hb, Nat.testBit_or, Nat.testBit_two_pow, h.bit a b ha hb]
      by_cases h1 : a = b
      · simp [h1]
      · simp [hlt, h1]
    · rw [if_neg hlt, Nat.zero_testBit]
      simp [hlt]
  · unfold missT
    split
    · have := Nat.and_le_left (n := 2 ^ n - 1) (m := 65535 - (T a ||| 2 ^ a))
      have h2 := two_lt (a := n) (by omega)
      omega
    · omega

set_option maxHeartbeats 4000000 in
set_option maxRecDepth 100000 in
theorem missing_any (T : Nat → Nat) (hT : ∀ i, i < 12 → T i < 65536) (n : Nat) (hn : n ≤ 12) (w : World) :
    Calls Tryd.prog 91 #[.agg (tcells T), .int .i64 n] w fun e w' => e = .returned (.agg (tcells (missT T n))) ∧ Below w.heap.size w w' := by
  obtain ⟨W, hW⟩ : ∃ W, ((w.alloc (Obj.cells (tcells T) 64)).alloc (Obj.cells #[.int .u16 0, .int .u16 0, .int .u16 0, .int .u16 0, .int .u16 0, .int .u16 0, .int .u16 0, .int .u16 0, .int .u16 0, .int .u16 0, .int .u16 0, .int .u16 0] 64)).alloc (Obj.cells #[.int .u16 0, .int .u16 0, .int .u16 0, .int .u16 0, .int .u16 0, .int .u16 0, .int .u16 0, .int .u16 0, .int .u16 0, .int .u16 0, .int .u16 0, .int .u16 0] 64) = W := ⟨_, rfl⟩
  have kW : Below w.heap.size w W := by rw [← hW]; go_grown
  have zW : W.heap.size = w.heap.size + 3 := by rw [← hW]; simp
  have row0 : W.rowIs w.heap.size 64 12 (fun j => .int .u16 (T j)) := by rw [← hW]; exact ((rowIs_u16 w T _).alloc _).alloc _
  have rowR : W.rowIs (w.heap.size + 1) 64 12 (fun _ => .int .u16 0) := by
    rw [← hW]
    have := rowIs_u16 (w.alloc (Obj.cells (tcells T) 64)) (fun _ => 0) 64
    simp only [World.size_alloc] at this
    exact this.alloc _
  have rowU : W.rowIs (w.heap.size + 2) 64 12 (fun _ => .int .u16 0) := by
    rw [← hW]
    have := rowIs_u16 ((w.alloc (Obj.cells (tcells T) 64)).alloc (Obj.cells #[.int .u16 0, .int .u16 0, .int .u16 0, .int .u16 0, .int .u16 0, .int .u16 0, .int .u16 0, .int .u16 0, .int .u16 0, .int .u16 0, .int .u16 0, .int .u16 0] 64)) (fun _ => 0) 64
    simp only [World.size_alloc] at this
    exact this
  obtain ⟨E, hE⟩ : ∃ E, 2 ^ n - 1 = E := ⟨_, rfl⟩
  have hEl : E < 65536 := by have := two_lt (a := n) (by omega); omega
  have ev := fun (X : World) => everybody_any n hn X
  simp only [hE] at ev
  have EV := Lib.hid ev
  have HE := Lib.hid hE
  have R0 := Lib.hid row0
  have RR := Lib.hid rowR
  have RU := Lib.hid rowU
  have HW := Lib.hid hW
  have KW := Lib.hid kW
  clear ev hE row0 rowR rowU hW kW
  unfold tcells at HW ⊢
  go_enter Tryd.func91, Tryd.ntmps91
  go_upto_region 2 with fail
  rw [HW.out]
  go_wp2_with fail
  go_loopw [8] (fun i wr => ∃ a : Nat, a ≤ n ∧ i = .int .i64 a ∧ wr.rowIs (w.heap.size + 2) 64 12 (fun j => .int .u16 ((if j < a then missT T n j else 0 : Nat) : Int)) ∧ Below (w.heap.size + 2) W wr) (fun i _ => n - (intOf i).toNat)
  case atStart => exact ⟨0, Nat.zero_le _, rfl, RU.out.congr fun j _ => by simp, Below.refl _ _⟩
  case round =>
    obtain ⟨a, ha, rfl, rowU, hb⟩ := hrel
    have s0 := hb.size
    by_cases hlt : a < n
    · have hai : (a : Int) < n := by omega
      have ha12 : a < 12 := by omega
      have hai12 : (a : Int) < 12 := by omega
      have row := R0.out.of_block (hb.block w.heap.size (by omega))
      have q0 := row.cell ha12
      have f0 := rowU.frozen a
      have c0 := rowU.cell ha12
      have o1 := or_bit2 (hT a ha12) (show a < 16 by omega)
      have l1 := or_lt (hT a ha12) (show a < 16 by omega)
      have hm : missT T n a = E &&& (65535 - (T a ||| 2 ^ a)) := by unfold missT; rw [if_pos hlt, HE.out]
      obtain ⟨r, hr⟩ : ∃ r, T a ||| 2 ^ a = r := ⟨_, rfl⟩
      rw [hr] at o1 l1 hm
      have o2 := u16_andNot_nat E r hEl l1
      rw [← hm] at o2
      have rowN := rowU.set a (.int .u16 ((missT T n a : Nat) : Int))
      have rowN' : (wr.setCell ⟨w.heap.size + 2, a, none⟩ (.int .u16 ((missT T n a : Nat) : Int))).rowIs (w.heap.size + 2) 64 12 (fun j => .int .u16 ((if j < a + 1 then missT T n j else 0 : Nat) : Int)) := rowN.congr fun j _ => by
        by_cases h : j = a
        · rw [if_pos h, if_pos (by omega), h]
        · rw [if_neg h]
          have : (j < a) ↔ (j < a + 1) := by omega
          simp only [this]
      have kN := hb.setCell (p := ⟨w.heap.size + 2, a, none⟩) (Nat.le_refl _) (.int .u16 ((missT T n a : Nat) : Int))
      generalize missT T n a = s at *
      have kD := hb.drew.setCell (p := ⟨w.heap.size + 2, a, none⟩) (Nat.le_refl _) (.int .u16 (s : Int))
      have KD := Lib.hid kD
      have ROWN := Lib.hid rowN'
      have KN := Lib.hid kN
      clear rowN rowN' kN kD hm hr row rowU hb
      go_wp2
      go_region_law (first
        | (go_simp; go_at_call 74; refine (EV.out _).mono ?_; rintro e w' ⟨rfl, rfl⟩)
        | fail)
      all_goals (go_wp2_with fail)
      all_goals (go_roundw)
      all_goals first
        | exact ⟨a + 1, by omega, by go_num, ROWN.out, KN.out⟩
        | exact ⟨a + 1, by omega, by go_num, ROWN.out, KD.out⟩
        | exact ⟨a + 1, by omega, by go_num, ROWN.out, KN.out.drew⟩
        | (simp [intOf]; omega)
    · have hal : a = n := by omega
      subst hal
      have hge : ¬ ((a : Int) < a) := by omega
      have rowM : wr.rowIs (w.heap.size + 2) 64 12 (fun j => .int .u16 ((missT T a j : Nat) : Int)) := rowU.congr fun j _ => by unfold missT; by_cases h : j < a <;> simp [h]
      have rowR := RR.out.of_block (hb.block _ (by omega))
      have kr : Below w.heap.size w wr := KW.out.trans (hb.mono (by omega))
      obtain ⟨M, hM⟩ : ∃ M, missT T a = M := ⟨_, rfl⟩
      rw [hM] at rowM
      have HM := Lib.hid hM
      clear hM
      clear hb rowU
      have r0 := rowM.cell (i := 0) (by omega)
      have r1 := rowM.cell (i := 1) (by omega)
      have r2 := rowM.cell (i := 2) (by omega)
      have r3 := rowM.cell (i := 3) (by omega)
      have r4 := rowM.cell (i := 4) (by omega)
      have r5 := rowM.cell (i := 5) (by omega)
      have r6 := rowM.cell (i := 6) (by omega)
      have r7 := rowM.cell (i := 7) (by omega)
      have r8 := rowM.cell (i := 8) (by omega)
      have r9 := rowM.cell (i := 9) (by omega)
      have r10 := rowM.cell (i := 10) (by omega)
      have r11 := rowM.cell (i := 11) (by omega)
      have g0 := rowR.cell (i := 0) (by omega)
      have g1 := rowR.cell (i := 1) (by omega)
      have g2 := rowR.cell (i := 2) (by omega)
      have g3 := rowR.cell (i := 3) (by omega)
      have g4 := rowR.cell (i := 4) (by omega)
      have g5 := rowR.cell (i := 5) (by omega)
      have g6 := rowR.cell (i := 6) (by omega)
      have g7 := rowR.cell (i := 7) (by omega)
      have g8 := rowR.cell (i := 8) (by omega)
      have g9 := rowR.cell (i := 9) (by omega)
      have g10 := rowR.cell (i := 10) (by omega)
      have g11 := rowR.cell (i := 11) (by omega)
      have e0 := rowR.frozen 0
      have e1 := rowR.frozen 1
      have e2 := rowR.frozen 2
      have e3 := rowR.frozen 3
      have e4 := rowR.frozen 4
      have e5 := rowR.frozen 5
      have e6 := rowR.frozen 6
      have e7 := rowR.frozen 7
      have e8 := rowR.frozen 8
      have e9 := rowR.frozen 9
      have e10 := rowR.frozen 10
      have e11 := rowR.frozen 11
      have KR := Lib.hid kr
      clear rowM rowR kr
      go_wp2
      refine bodyPost_ret (v := .agg #[.int .u16 (M 0), .int .u16 (M 1), .int .u16 (M 2), .int .u16 (M 3), .int .u16 (M 4), .int .u16 (M 5), .int .u16 (M 6), .int .u16 (M 7), .int .u16 (M 8), .int .u16 (M 9), .int .u16 (M 10), .int .u16 (M 11)]) (by simp [results, Tryd.results91, go_sem, g0, g1, g2, g3, g4, g5, g6, g7, g8, g9, g10, g11]) rfl ?_
      rw [HM.out]
      exact ⟨rfl, ((((((((((((KR.out.setCell (p := ⟨w.heap.size + 1, 0, none⟩) (by simp) _).setCell (p := ⟨w.heap.size + 1, 1, none⟩) (by simp) _).setCell (p := ⟨w.heap.size + 1, 2, none⟩) (by simp) _).setCell (p := ⟨w.heap.size + 1, 3, none⟩) (by simp) _).setCell (p := ⟨w.heap.size + 1, 4, none⟩) (by simp) _).setCell (p := ⟨w.heap.size + 1, 5, none⟩) (by simp) _).setCell (p := ⟨w.heap.size + 1, 6, none⟩) (by simp) _).setCell (p := ⟨w.heap.size + 1, 7, none⟩) (by simp) _).setCell (p := ⟨w.heap.size + 1, 8, none⟩) (by simp) _).setCell (p := ⟨w.heap.size + 1, 9, none⟩) (by simp) _).setCell (p := ⟨w.heap.size + 1, 10, none⟩) (by simp) _).setCell (p := ⟨w.heap.size + 1, 11, none⟩) (by simp) _)⟩

theorem strangersIn_fact {n : Nat} {l : PL} (h : isP n l = true) : TiesOf (missT (friendsT l) n) (strangeF n (adj l)) := miss_of (friendsT_of h) (by have := (isP_range h).2; omega)
end Go.Proofs.YtepoabbkalhifaaDoor
/-
  TRIPLES COUNTED ONE AFTER THE OTHER, as plain numbers: what is counted and what is still to come. Nothing here speaks of the program.
-/
namespace Go.Proofs.YtepoabbkalhifaaDoor
open Go.RowKit

def c1 (Q : Nat → Bool) (n c : Nat) : Nat := (List.range' c (n - c)).countP Q
def c2 (Q : Nat → Nat → Bool) (n b : Nat) : Nat := cnt2 Q (List.range' b (n - b))
def c3 (P : Nat → Nat → Nat → Bool) (n a : Nat) : Nat := cnt3 P (List.range' a (n - a))
theorem range_step {n a : Nat} (h : a < n) : List.range' a (n - a) = a :: List.range' (a + 1) (n - (a + 1)) := by
  have : n - a = (n - (a + 1)) + 1 := by omega
  rw [this, List.range'_succ]
theorem c1_step {Q : Nat → Bool} {n c : Nat} (h : c < n) : c1 Q n c = (if Q c then 1 else 0) + c1 Q n (c + 1) := by
  unfold c1
  rw [range_step h, List.countP_cons]
  omega
theorem c1_end {Q : Nat → Bool} {n c : Nat} (h : n ≤ c) : c1 Q n c = 0 := by
  unfold c1
  rw [show n - c = 0 by omega]
  rfl
theorem c2_step {Q : Nat → Nat → Bool} {n b : Nat} (h : b < n) : c2 Q n b = c1 (Q b) n (b + 1) + c2 Q n (b + 1) := by
  unfold c2 c1
  rw [range_step h, cnt2]
theorem c2_end {Q : Nat → Nat → Bool} {n b : Nat} (h : n ≤ b) : c2 Q n b = 0 := by
  unfold c2
  rw [show n - b = 0 by omega]
  rfl
theorem c3_step {P : Nat → Nat → Nat → Bool} {n a : Nat} (h : a < n) : c3 P n a = c2 (P a) n (a + 1) + c3 P n (a + 1) := by
  unfold c3 c2
  rw [range_step h, cnt3]
theorem c3_end {P : Nat → Nat → Nat → Bool} {n a : Nat} (h : n ≤ a) : c3 P n a = 0 := by
  unfold c3
  rw [show n - a = 0 by omega]
  rfl
/-- how many triples have so many pairs tied -/
def totT (t : Nat → Nat → Bool) (n i : Nat) : Nat := cnt3 (triB t i) (List.range n)
theorem totT_start (t : Nat → Nat → Bool) (n i : Nat) : c3 (triB t i) n 0 = totT t n i := by
  unfold c3 totT
  rw [Nat.sub_zero, List.range_eq_range']
theorem totT_sum (t : Nat → Nat → Bool) {n : Nat} (hn : n ≤ 12) : (totT t n 0 : Int) + totT t n 1 + totT t n 2 + totT t n 3 = waysI n 3 := by
  have h1 := cnt3_sum t (List.range n)
  have h2 := cnt3_ways ⟨n, by omega⟩
  simp only at h2
  unfold totT
  omega
theorem totT_le (t : Nat → Nat → Bool) {n : Nat} (hn : n ≤ 12) (i : Nat) (hi : i < 4) : totT t n i ≤ 10000 := by
  have h := totT_sum t hn
  have h2 := (waysI_bound (n := (n : Int)) (k := 3) (.inl ⟨by omega, by omega, by omega⟩)).2
  match i, hi with
  | 0, _ => omega
  | 1, _ => omega
  | 2, _ => omega
  | 3, _ => omega
theorem tri_le (t : Nat → Nat → Bool) (a b c : Nat) : tri t a b c < 4 := by
  unfold tri
  split <;> split <;> split <;> omega
/-- the four counts -/
def quad (f : Nat → Nat) : List Int := [(f 0 : Int), (f 1 : Int), (f 2 : Int), (f 3 : Int)]
theorem quad_at (f : Nat → Nat) {k : Nat} (h : k < 4) : (quad f)[k]? = some (f k : Int) := by
  match k, h with
  | 0, _ => rfl
  | 1, _ => rfl
  | 2, _ => rfl
  | 3, _ => rfl
theorem quad_set (f : Nat → Nat) {k : Nat} (h : k < 4) : (quad f).set k ((f k : Int) + 1) = quad (upN f k (f k + 1)) := by
  match k, h with
  | 0, _ => simp [quad, upN]
  | 1, _ => simp [quad, upN]
  | 2, _ => simp [quad, upN]
  | 3, _ => simp [quad, upN]
theorem upN_count (f : Nat → Nat) (k i : Nat) : upN f k (f k + 1) i = f i + (if k = i then 1 else 0) := by
  by_cases h : k = i
  · subst h; simp [upN]
  · rw [upN_ne _ _ (fun e => h e.symm), if_neg h]; rfl
theorem cnt2_congr {Q Q' : Nat → Nat → Bool} : ∀ (cs : List Nat), cs.Pairwise (· < ·) → (∀ b c, b ∈ cs → c ∈ cs → b < c → Q b c = Q' b c) → cnt2 Q cs = cnt2 Q' cs := by
  intro cs
  induction cs with
  | nil => intro _ _; rfl
  | cons b cs ih =>
    intro hs h
    obtain ⟨hb, hs'⟩ := List.pairwise_cons.1 hs
    rw [cnt2, cnt2, ih hs' fun x y hx hy hxy => h x y (List.mem_cons_of_mem _ hx) (List.mem_cons_of_mem _ hy) hxy]
    congr 1
    exact List.countP_congr fun c hc => by rw [h b c List.mem_cons_self (List.mem_cons_of_mem _ hc) (hb c hc)]
theorem cnt3_congr {P P' : Nat → Nat → Nat → Bool} : ∀ (cs : List Nat), cs.Pairwise (· < ·) → (∀ a b c, a ∈ cs → b ∈ cs → c ∈ cs → a < b → b < c → P a b c = P' a b c) → cnt3 P cs = cnt3 P' cs := by
  intro cs
  induction cs with
  | nil => intro _ _; rfl
  | cons a cs ih =>
    intro hs h
    obtain ⟨ha, hs'⟩ := List.pairwise_cons.1 hs
    rw [cnt3, cnt3, ih hs' fun x y z hx hy hz hxy hyz => h x y z (List.mem_cons_of_mem _ hx) (List.mem_cons_of_mem _ hy) (List.mem_cons_of_mem _ hz) hxy hyz]
    congr 1
    exact cnt2_congr cs hs' fun b c hb hc hbc => h a b c List.mem_cons_self (List.mem_cons_of_mem _ hb) (List.mem_cons_of_mem _ hc) (ha b hb) hbc
theorem threes_friends (n : Nat) (l : PL) : (listsC (adj l) 3 [] (List.range n)).length = totT (adj l) n 3 := lists3 _ _ _
theorem threes_strange (n : Nat) (l : PL) : (listsC (strangeF n (adj l)) 3 [] (List.range n)).length = totT (adj l) n 0 := by
  rw [lists3]
  unfold totT
  refine cnt3_congr _ List.pairwise_lt_range fun a b c ha hb hc hab hbc => ?_
  have ha' := List.mem_range.1 ha
  have hb' := List.mem_range.1 hb
  have hc' := List.mem_range.1 hc
  unfold triB tri strangeF
  have e1 : a ≠ b := by omega
  have e2 : a ≠ c := by omega
  have e3 : b ≠ c := by omega
  simp only [ha', hb', hc', decide_true, Bool.true_and, ne_eq, e1, e2, e3, not_false_eq_true]
  cases adj l a b <;> cases adj l a c <;> cases adj l b c <;> rfl
def resCountThrees (p : Int) (l : PL) : Int × Int × Int × Bool :=
  if isP p l then ((totT (adj l) p.toNat 3 : Int), (totT (adj l) p.toNat 0 : Int), (totT (adj l) p.toNat 1 : Int) + (totT (adj l) p.toNat 2 : Int), true) else (0, 0, 0, false)
end Go.Proofs.YtepoabbkalhifaaDoor
