/-
  Texts put together for the claim of 'IsFriendly' (pack 4): GroupP, GroupS, TrG, CountG, Threes, ThreesAt, NameP, Are, ExchP, Shelf, ContI, Diff, CountCm, Some, Nums, NumsW, PaintP, Ints, SzI, Paint, PaintG, Every.
-/
import Derived.Test.YthpapkfpcijpoaaIsFriendlyP1
import Derived.Test.YthpapkfpcijpoaaIsFriendlyP2
import Derived.Test.YthpapkfpcijpoaaIsFriendlyP3
import Derived.Shelf.SlicesE.Clone
import Derived.Shelf.SlicesG.SearchI
import Derived.Shelf.SlicesG.Turned
import Derived.Shelf.SlGeneric
import Derived.Ground.SlgnProg
import Derived.Test.YthpapkfpcijpoaaProg
import Derived.BigQuiet
/-
  GROUPS AS PLAIN LISTS: a list is a group just if all of its pairs are chosen. Nothing here speaks of the program.
-/
namespace Go.Proofs.Ythpapkfpcijpoaa
open Go.RowKit

/-- a person who is a friend of all of a list -/
def knowsI (l : PL) (q : List Int) (x : Int) : Bool := q.all fun y => adj l x.toNat y.toNat
def groupAt (p : Int) (l : PL) (q : List Int) (k : Nat) : Bool := choiceAt p q k && knowsI l (q.take k) (q.getD k 0)
def isGroupI (p : Int) (l : PL) (q : List Int) : Bool := (List.range q.length).all (groupAt p l q)
theorem isGroupI_of {p : Int} {l : PL} {q : List Int} (h : ∀ i, i < q.length → groupAt p l q i = true) : isGroupI p l q = true := by
  simp only [isGroupI, List.all_eq_true, List.mem_range]
  exact h
theorem isGroupI_no {p : Int} {l : PL} {q : List Int} {i : Nat} (hi : i < q.length) (h : groupAt p l q i = false) : isGroupI p l q = false := by
  cases he : isGroupI p l q with
  | false => rfl
  | true =>
    simp only [isGroupI, List.all_eq_true, List.mem_range] at he
    rw [he i hi] at h
    cases h
theorem allP_length : ∀ n : Fin 13, ((allP n.val).length : Int) = waysI n.val 2 := by decide +kernel
theorem allP_ways {n : Nat} (hn : n ≤ 12) : ((allP n).length : Int) = waysI n 2 := allP_length ⟨n, by omega⟩
theorem groups_all {p : Int} {l : PL} {q : List Int} (hp : isP p l = true) (hq : isChoiceI p q = true) : isGroupI p l q = decide (((chooseP l q).length : Int) = waysI q.length 2) := by
  have hlen : q.length ≤ 12 := by have := isP_range hp; rcases isChoiceI_long hq with h | h; (· omega); (· simp [h])
  have hall : ((chooseP l q).length : Int) = waysI q.length 2 ↔ ∀ i j, i < j → j < q.length → chosenT l q i j = true := by
    rw [← tabP_choose hp hq, ← allP_ways hlen]
    unfold tabP
    constructor
    · intro h
      have h2 := List.length_filter_eq_length_iff.1 (Int.ofNat_inj.1 h)
      intro i j hij hj
      have := h2 ((i : Int), (j : Int)) (mem_allP.2 ⟨by simp, by simp; omega, by simp; omega⟩)
      simpa using this
    · intro h
      congr 1
      rw [List.length_filter_eq_length_iff]
      intro r hr
      have h3 := mem_allP.1 hr
      exact h r.1.toNat r.2.toNat (by omega) (by omega)
  have hat : ∀ k, k < q.length → (groupAt p l q k = true ↔ ∀ i, i < k → chosenT l q i k = true) := by
    intro k hk
    unfold groupAt knowsI
    rw [isChoiceI_good hq hk, Bool.true_and, List.all_eq_true]
    constructor
    · intro h i hi
      obtain ⟨y, hy⟩ := getSome q i (by omega)
      have := h y (List.mem_of_getElem? (l := q.take k) (i := i) (by rw [List.getElem?_take, if_pos hi]; exact hy))
      unfold chosenT gI
      rw [adj_comm, show q.getD i 0 = y by rw [List.getD_eq_getElem?_getD, hy]; rfl]
      exact this
    · intro h y hy
      obtain ⟨i, hi, e⟩ := List.getElem_of_mem hy
      rw [List.length_take] at hi
      rw [List.getElem_take] at e
      have := h i (by omega)
      unfold chosenT gI at this
      rw [adj_comm, show q.getD i 0 = y by rw [List.getD_eq_getElem?_getD, List.getElem?_eq_getElem (by omega), e]; rfl] at this
      exact this
  by_cases h : ((chooseP l q).length : Int) = waysI q.length 2
  · rw [decide_eq_true h]
    exact isGroupI_of fun k hk => (hat k hk).2 fun i hi => hall.1 h i k hi hk
  · rw [decide_eq_false h]
    cases he : isGroupI p l q with
    | false => rfl
    | true =>
      refine absurd (hall.2 fun i j hij hj => ?_) h
      simp only [isGroupI, List.all_eq_true, List.mem_range] at he
      exact (hat j hj).1 (he j hj) i hij
theorem groups_not {p : Int} {l : PL} {q : List Int} (hq : isChoiceI p q = false) : isGroupI p l q = false := by
  simp only [isChoiceI, List.all_eq_false, List.mem_range] at hq
  obtain ⟨k, hk, h⟩ := hq
  exact isGroupI_no hk (by unfold groupAt; simp only [Bool.not_eq_true] at h; rw [h, Bool.false_and])
def resIsGroup (p : Int) (l : PL) (q : List Int) : Bool × Bool := if isP p l then (isGroupI p l q, true) else (false, false)
end Go.Proofs.Ythpapkfpcijpoaa
/-
  'IsGroup' of the model, by its contract.
-/
namespace Go.Proofs.Ythpapkfpcijpoaa
open Go.RowKit

theorem getD_is {q : List Int} {k : Nat} {x : Int} (h : q[k]? = some x) : q.getD k 0 = x := by rw [List.getD_eq_getElem?_getD, h]; rfl

end Go.Proofs.Ythpapkfpcijpoaa
/-
  THE MODEL's GROUPS OF A SIZE ('spec.trGroups'), by its contract: induction on how many are still to come.
-/
namespace Go.Proofs.Ythpapkfpcijpoaa
open Go.RowKit

theorem candR_set {t : Nat → Nat → Bool} {n : Nat} (hn : n ≤ 12) (q : List Int) (a : Nat) : (candR t n q a).length ≤ 12 := by
  unfold candR
  refine Nat.le_trans (List.length_filter_le _ _) ?_
  simp only [List.length_range']
  omega
theorem lists_candR {t : Nat → Nat → Bool} {n k : Nat} (hn : n ≤ 12) (q : List Int) (a : Nat) : (listsC t k q (candR t n q a)).length ≤ 4096 := by
  have h1 := listsC_length_le t k q (candR t n q a)
  have h2 : 2 ^ (candR t n q a).length ≤ 2 ^ 12 := Nat.pow_le_pow_right (by omega) (candR_set hn q a)
  omega
theorem Try.infoIntsG : (Try.prog.info? 45).map (fun i => (i.zero, i.size, i.bytes)) = some (some (.slice none 0 0), 1, 24) := by kernel_rfl

end Go.Proofs.Ythpapkfpcijpoaa
/-
  'CountGroups': the model's and the program's, by their contracts.
-/
namespace Go.Proofs.Ythpapkfpcijpoaa
open Go.RowKit

theorem friendsT_of {n : Int} {l : PL} (h : isP n l = true) : TiesOf (friendsT l) (adj l) := by
  have hn := isP_range h
  have hl := (isP_list h).2.2.1
  have key : ∀ m, m ≤ l.length → TiesOf (friendsT (l.take m)) (adj (l.take m)) := by
    intro m
    induction m with
    | zero => intro _; exact TiesOf.none
    | succ m ih =>
      intro hm
      obtain ⟨⟨x, y⟩, hx⟩ := getSome l m (by omega)
      have h0 := hl _ (List.mem_of_getElem? hx)
      simp only at h0
      obtain ⟨a, rfl⟩ : ∃ a : Nat, x = a := ⟨x.toNat, by omega⟩
      obtain ⟨b, rfl⟩ : ∃ b : Nat, y = b := ⟨y.toNat, by omega⟩
      rw [List.take_add_one, hx, Option.toList_some, friendsT_snoc, adj_snoc]
      exact (ih (by omega)).with (by omega) (by omega) (by omega)
  have := key l.length (Nat.le_refl _)
  rwa [List.take_length] at this
theorem candR_all (t : Nat → Nat → Bool) (n : Nat) : candR t n [] 0 = List.range n := by
  unfold candR
  rw [List.filter_eq_self.2 (by simp), Nat.sub_zero, List.range_eq_range']
/-- the groups of a size -/
def groupsL (n : Nat) (l : PL) (k : Nat) : List (List Int) := listsC (adj l) k [] (List.range n)
theorem groupsL_few {n : Nat} (hn : n ≤ 12) (l : PL) (k : Nat) : (groupsL n l k).length ≤ 4096 := lists_few (IsSet.people (n := n) (by omega)) (fun b hb => by have := List.mem_range.1 hb; omega)
def resCountGroups (p : Int) (l : PL) (k : Int) : Int × Bool := if isP p l && decide (0 ≤ k ∧ k ≤ 12) then ((groupsL p.toNat l k.toNat).length, true) else (0, false)

end Go.Proofs.Ythpapkfpcijpoaa
/-
  HOW MANY LISTS OF TIED PEOPLE HAVE A PERSON. Nothing here speaks of the program.
-/
namespace Go.Proofs.Ythpapkfpcijpoaa
open Go.RowKit

theorem listsC_told (t : Nat → Nat → Bool) : ∀ (k : Nat) (told : List Int) (cs : List Nat), listsC t k told cs = (listsC t k [] cs).map (told ++ ·) := by
  intro k told cs
  induction h : k + cs.length using Nat.strongRecOn generalizing k told cs with
  | _ n ih =>
    match k, cs with
    | 0, cs => rw [listsC_zero, listsC_zero]; simp
    | k + 1, [] => rw [listsC_nil, listsC_nil]; rfl
    | k + 1, a :: cs =>
      simp only [List.length_cons] at h
      have h0 : (cs.filter (t a)).length ≤ cs.length := List.length_filter_le _ _
      rw [listsC_cons, listsC_cons, List.map_append, ih (k + (cs.filter (t a)).length) (by omega) k (told ++ [(a : Int)]) _ rfl, ih (k + 1 + cs.length) (by omega) (k + 1) told cs rfl,
        ih (k + (cs.filter (t a)).length) (by omega) k ([] ++ [(a : Int)]) _ rfl, List.map_map]
      congr 1
      refine List.map_congr_left fun x _ => ?_
      simp
theorem listsC_len (t : Nat → Nat → Bool) (k : Nat) (told : List Int) (cs : List Nat) : (listsC t k told cs).length = (listsC t k [] cs).length := by rw [listsC_told, List.length_map]
theorem listsC_size (t : Nat → Nat → Bool) : ∀ (k : Nat) (told : List Int) (cs : List Nat), ∀ l ∈ listsC t k told cs, l.length = told.length + k := by
  intro k told cs
  induction h : k + cs.length using Nat.strongRecOn generalizing k told cs with
  | _ n ih =>
    match k, cs with
    | 0, cs => rw [listsC_zero]; simp
    | k + 1, [] => rw [listsC_nil]; simp
    | k + 1, a :: cs =>
      simp only [List.length_cons] at h
      have h0 : (cs.filter (t a)).length ≤ cs.length := List.length_filter_le _ _
      rw [listsC_cons]
      intro l hl
      rcases List.mem_append.1 hl with hl | hl
      · have := ih (k + (cs.filter (t a)).length) (by omega) k _ _ rfl l hl
        simp at this
        omega
      · have := ih (k + 1 + cs.length) (by omega) (k + 1) _ _ rfl l hl
        omega
/-- whom a list has -/
theorem listsC_mem (t : Nat → Nat → Bool) : ∀ (k : Nat) (told : List Int) (cs : List Nat), ∀ l ∈ listsC t k told cs, ∀ x ∈ l, x ∈ told ∨ ∃ b ∈ cs, x = ((b : Nat) : Int) := by
  intro k told cs
  induction h : k + cs.length using Nat.strongRecOn generalizing k told cs with
  | _ n ih =>
    match k, cs with
    | 0, cs => rw [listsC_zero]; intro l hl x hx; simp at hl; subst hl; exact .inl hx
    | k + 1, [] => rw [listsC_nil]; simp
    | k + 1, a :: cs =>
      simp only [List.length_cons] at h
      have h0 : (cs.filter (t a)).length ≤ cs.length := List.length_filter_le _ _
      rw [listsC_cons]
      intro l hl x hx
      rcases List.mem_append.1 hl with hl | hl
      · rcases ih (k + (cs.filter (t a)).length) (by omega) k _ _ rfl l hl x hx with h1 | ⟨b, hb, h1⟩
        · rcases List.mem_append.1 h1 with h1 | h1
          · exact .inl h1
          · simp at h1
            exact .inr ⟨a, by simp, h1⟩
        · exact .inr ⟨b, by simp [(List.mem_filter.1 hb).1], h1⟩
      · rcases ih (k + 1 + cs.length) (by omega) (k + 1) _ _ rfl l hl x hx with h1 | ⟨b, hb, h1⟩
        · exact .inl h1
        · exact .inr ⟨b, by simp [hb], h1⟩
/-- how many lists have a person -/
def hasN (L : List (List Int)) (a : Nat) : Nat := L.countP (hasI · a)
theorem hasN_append (L M : List (List Int)) (a : Nat) : hasN (L ++ M) a = hasN L a + hasN M a := List.countP_append
theorem hasN_none {t : Nat → Nat → Bool} {k : Nat} {told : List Int} {cs : List Nat} {a : Nat} (h0 : (a : Int) ∉ told) (h : a ∉ cs) : hasN (listsC t k told cs) a = 0 := by
  refine List.countP_eq_zero.2 fun l hl hc => ?_
  rcases listsC_mem t k told cs l hl _ (hasI_mem.1 hc) with h1 | ⟨b, hb, h1⟩
  · exact h0 h1
  · have : a = b := by omega
    exact h (this ▸ hb)
theorem hasN_all {t : Nat → Nat → Bool} {k : Nat} {told : List Int} {cs : List Nat} {a : Nat} (h0 : (a : Int) ∈ told) : hasN (listsC t k told cs) a = (listsC t k told cs).length := by
  refine List.countP_eq_length.2 fun l hl => ?_
  rw [listsC_told] at hl
  obtain ⟨m, _, rfl⟩ := List.mem_map.1 hl
  exact hasI_mem.2 (List.mem_append_left _ h0)
theorem hasN_listsC {t : Nat → Nat → Bool} (hsym : ∀ i j, t i j = t j i) {a : Nat} (hirr : t a a = false) : ∀ (k : Nat) (told : List Int) (cs : List Nat),
    cs.Pairwise (· < ·) → a ∈ cs → (a : Int) ∉ told → hasN (listsC t (k + 1) told cs) a = (listsC t k [] (cs.filter (t a))).length := by
  intro k told cs
  induction h : k + cs.length using Nat.strongRecOn generalizing k told cs with
  | _ n ih =>
    intro hs ha h0
    match cs with
    | [] => simp at ha
    | x :: cs =>
      simp only [List.length_cons] at h
      obtain ⟨hx, hs'⟩ := List.pairwise_cons.1 hs
      have hl0 : (cs.filter (t x)).length ≤ cs.length := List.length_filter_le _ _
      rw [listsC_cons, hasN_append]
      by_cases e : x = a
      · subst e
        have hn : x ∉ cs := fun hc => by have := hx x hc; omega
        rw [hasN_all (by simp), hasN_none h0 hn, listsC_len, List.filter_cons_of_neg (by simp [hirr])]
        omega
      · have ha' : a ∈ cs := by rcases List.mem_cons.1 ha with h | h; exact absurd h.symm e; exact h
        have h1 : (a : Int) ∉ told ++ [(x : Int)] := by simp [h0]; omega
        rw [ih (k + cs.length) (by omega) k told cs rfl hs' ha' h0]
        match k with
        | 0 =>
          rw [listsC_zero, listsC_zero, listsC_zero]
          have : hasN [told ++ [(x : Int)]] a = 0 := List.countP_eq_zero.2 fun l hl hc => by
            simp only [List.mem_singleton] at hl
            subst hl
            exact h1 (hasI_mem.1 hc)
          rw [this]
          simp
        | k + 1 =>
          cases hxa : t x a with
          | true =>
            have hax : t a x = true := by rw [hsym, hxa]
            rw [ih (k + (cs.filter (t x)).length) (by omega) k _ _ rfl (hs'.filter _) (List.mem_filter.2 ⟨ha', hxa⟩) h1, List.filter_cons_of_pos hax, listsC_cons, List.length_append, listsC_len t k ([] ++ [(x : Int)])]
            congr 2
            rw [List.filter_filter, List.filter_filter]
            congr 1
            exact List.filter_congr fun b _ => Bool.and_comm _ _
          | false =>
            have hax : ¬ t a x = true := by rw [hsym, hxa]; simp
            rw [hasN_none h1 (fun hc => by have := (List.mem_filter.1 hc).2; simp [hxa] at this), List.filter_cons_of_neg hax]
            omega
end Go.Proofs.Ythpapkfpcijpoaa
/-
  'ThreesAt': the model's and the program's, by their contracts.
-/
namespace Go.Proofs.Ythpapkfpcijpoaa
open Go.RowKit

theorem adj_of {n : Nat} {l : PL} (h : isP n l = true) {a b : Nat} (hab : adj l a b = true) : a < n ∧ b < n ∧ a ≠ b := by
  have hl := (isP_list h).2.2.1
  unfold adj at hab
  simp only [Bool.or_eq_true, List.contains_iff_mem] at hab
  rcases hab with hab | hab
  · have := hl _ hab; simp only at this; omega
  · have := hl _ hab; simp only at this; omega
theorem adj_self {n : Nat} {l : PL} (h : isP n l = true) (a : Nat) : adj l a a = false := by
  cases e : adj l a a with
  | false => rfl
  | true => exact absurd rfl (adj_of h e).2.2
theorem friends_set {n : Nat} {l : PL} (h : isP n l = true) {T : Nat → Nat} (hT : TiesOf T (adj l)) {a : Nat} (ha : a < n) : IsSet (T a) ((List.range n).filter (adj l a)) := by
  have hn := isP_range h
  refine ⟨List.pairwise_lt_range.filter _, fun b hb => by have := List.mem_range.1 (List.mem_filter.1 hb).1; omega, fun b => ?_⟩
  rw [List.mem_filter, List.mem_range]
  by_cases hb : b < 16
  · rw [hT.bit a b (by omega) hb]
    exact ⟨fun e => ⟨(adj_of h e).2.1, e⟩, fun e => e.2⟩
  · have : (T a).testBit b = false := Nat.testBit_lt_two_pow (Nat.lt_of_lt_of_le (hT.lt a (by omega)) (Nat.pow_le_pow_right (n := 2) (i := 16) (by omega) (by omega)))
    rw [this]
    simp
    omega
def threesAtN (n : Nat) (l : PL) (a : Nat) : Nat := hasN (groupsL n l 3) a
theorem threesAt_eq {n : Nat} {l : PL} (h : isP n l = true) {a : Nat} (ha : a < n) : (listsC (adj l) 2 [] ((List.range n).filter (adj l a))).length = threesAtN n l a := by
  unfold threesAtN groupsL
  rw [hasN_listsC (adj_comm l) (adj_self h a) 2 [] _ List.pairwise_lt_range (List.mem_range.2 ha) (by simp)]
def resThreesAt (p : Int) (l : PL) (a : Int) : Int × Bool := if isP p l && isMan p a then (threesAtN p.toNat l a.toNat, true) else (0, false)

end Go.Proofs.Ythpapkfpcijpoaa
/-
  PEOPLE RENAMED, as plain lists and as tables. Nothing here speaks of the program.
-/
namespace Go.Proofs.Ythpapkfpcijpoaa
open Go.RowKit

/-- a list of all p people, each once -/
def isNamingI (p : Int) (q : List Int) : Bool := decide ((q.length : Int) = p) && (q.all (fun x => decide (0 ≤ x ∧ x < p)) && decide q.Nodup)
theorem isNamingI_len {p : Int} {q : List Int} (h : (q.length : Int) ≠ p) : isNamingI p q = false := by simp [isNamingI, h]
theorem isNamingI_bad {p : Int} {q : List Int} {k : Nat} {x : Int} (hx : q[k]? = some x) (h : ¬ (0 ≤ x ∧ x < p)) : isNamingI p q = false := by
  cases he : isNamingI p q with
  | false => rfl
  | true =>
    simp only [isNamingI, Bool.and_eq_true, decide_eq_true_eq, List.all_eq_true] at he
    exact absurd (he.2.1 x (List.mem_of_getElem? hx)) h
theorem isNamingI_dup {p : Int} {q : List Int} {k : Nat} {x : Int} (hx : q[k]? = some x) (h : x ∈ q.take k) : isNamingI p q = false := by
  cases he : isNamingI p q with
  | false => rfl
  | true =>
    simp only [isNamingI, Bool.and_eq_true, decide_eq_true_eq] at he
    have hn := he.2.2
    rw [List.Nodup, List.pairwise_iff_getElem] at hn
    obtain ⟨i, hi, e⟩ := List.getElem_of_mem h
    rw [List.length_take] at hi
    rw [List.getElem_take] at e
    have hk : k < q.length := (List.getElem?_eq_some_iff.1 hx).1
    rw [List.getElem?_eq_getElem hk] at hx
    simp only [Option.some.injEq] at hx
    exact absurd (e.trans hx.symm) (hn i k (by omega) hk (by omega))
theorem isNamingI_of {p : Int} {q : List Int} (hl : (q.length : Int) = p) (h : ∀ (k : Nat) (x : Int), k < q.length → q[k]? = some x → (0 ≤ x ∧ x < p) ∧ x ∉ q.take k) : isNamingI p q = true := by
  simp only [isNamingI, Bool.and_eq_true, decide_eq_true_eq, List.all_eq_true]
  refine ⟨hl, fun x hx => ?_, ?_⟩
  · obtain ⟨i, hi, rfl⟩ := List.getElem_of_mem hx
    exact (h i _ hi (List.getElem?_eq_getElem hi)).1
  · rw [List.Nodup, List.pairwise_iff_getElem]
    intro i j hi hj hij e
    refine (h j _ hj (List.getElem?_eq_getElem hj)).2 ?_
    rw [← e, List.mem_iff_getElem?]
    exact ⟨i, by rw [List.getElem?_take, if_pos hij, List.getElem?_eq_getElem hi]⟩
theorem isNamingI_parts {p : Int} {q : List Int} (h : isNamingI p q = true) : (q.length : Int) = p ∧ (∀ x ∈ q, 0 ≤ x ∧ x < p) ∧ q.Nodup := by
  simp only [isNamingI, Bool.and_eq_true, decide_eq_true_eq, List.all_eq_true] at h
  exact h

theorem nodup_le : ∀ (l m : List Int), l.Nodup → (∀ x ∈ l, x ∈ m) → l.length ≤ m.length
  | [], m, _, _ => Nat.zero_le _
  | a :: l, m, hn, hs => by
    rw [List.nodup_cons] at hn
    have h1 := nodup_le l (m.erase a) hn.2 fun x hx => by
      have hne : x ≠ a := by rintro rfl; exact hn.1 hx
      exact (List.mem_erase_of_ne hne).2 (hs x (List.mem_cons_of_mem _ hx))
    have ha := hs a (List.mem_cons_self ..)
    have h2 := List.length_erase_of_mem ha
    have h3 := List.length_pos_of_mem ha
    rw [List.length_cons]
    omega
theorem naming_all {p : Int} {q : List Int} (h : isNamingI p q = true) {i : Nat} (hi : (i : Int) < p) : (i : Int) ∈ q := by
  obtain ⟨hl, hm, hn⟩ := isNamingI_parts h
  apply Classical.byContradiction
  intro hc
  have := nodup_le ((i : Int) :: q) ((List.range q.length).map fun k : Nat => (k : Int)) (List.nodup_cons.2 ⟨hc, hn⟩) (by
    intro x hx
    rw [List.mem_map]
    rcases List.mem_cons.1 hx with rfl | hx
    · exact ⟨i, by rw [List.mem_range]; omega, rfl⟩
    · have := hm x hx
      exact ⟨x.toNat, by rw [List.mem_range]; omega, by omega⟩)
  rw [List.length_cons, List.length_map, List.length_range] at this
  omega

/-- the name of a person -/
def nameI (q : List Int) (x : Int) : Int := q.getD x.toNat 0
theorem nameI_at {q : List Int} {i : Nat} {x : Int} (hx : q[i]? = some x) : nameI q i = x := by
  unfold nameI
  rw [List.getD_eq_getElem?_getD, Int.toNat_natCast, hx]
  rfl
/-- who has a name -/
def whoI (q : List Int) (i : Nat) : Nat := q.idxOf (i : Int)
theorem whoI_at {q : List Int} (hn : q.Nodup) {a i : Nat} (h : q[a]? = some (i : Int)) : whoI q i = a := by
  have ha : a < q.length := (List.getElem?_eq_some_iff.1 h).1
  rw [List.getElem?_eq_getElem ha] at h
  simp only [Option.some.injEq] at h
  unfold whoI
  rw [← h]
  exact hn.idxOf_getElem a ha
theorem whoI_name {p : Int} {q : List Int} (h : isNamingI p q = true) {i : Nat} (hi : (i : Int) < p) : q[whoI q i]? = some (i : Int) := by
  have hm := naming_all h hi
  unfold whoI
  have hlt := List.idxOf_lt_length_of_mem hm
  rw [List.getElem?_eq_getElem hlt, List.getElem_idxOf]
theorem whoI_lt {p : Int} {q : List Int} (h : isNamingI p q = true) {i : Nat} (hi : (i : Int) < p) : (whoI q i : Int) < p := by
  have := (List.getElem?_eq_some_iff.1 (whoI_name h hi)).1
  have hl := (isNamingI_parts h).1
  omega

/-- the table renamed -/
def namedT (q : List Int) (t : Nat → Nat → Bool) : Nat → Nat → Bool := fun i j => t (whoI q i) (whoI q j)
/-- in the middle of being filled -/
def namedTo (q : List Int) (t : Nat → Nat → Bool) (a b : Nat) : Nat → Nat → Bool := fun i j => if whoI q i < a ∨ whoI q i = a ∧ whoI q j < b then t (whoI q i) (whoI q j) else false
theorem namedTo_start (q : List Int) (t : Nat → Nat → Bool) : namedTo q t 0 0 = fun _ _ => false := by funext i j; simp [namedTo]
theorem namedTo_next {n : Nat} {q : List Int} (h : isNamingI n q = true) (t : Nat → Nat → Bool) {a b x y : Nat} (hx : q[a]? = some (x : Int)) (hy : q[b]? = some (y : Int)) :
    ∀ i j, i < n → j < n → upd (namedTo q t a b) x y (t a b) i j = namedTo q t a (b + 1) i j := by
  intro i j hi hj
  have hn := (isNamingI_parts h).2.2
  unfold upd namedTo
  have ex := whoI_at hn hx
  have ey := whoI_at hn hy
  by_cases hc : i = x ∧ j = y
  · obtain ⟨rfl, rfl⟩ := hc
    rw [if_pos ⟨rfl, rfl⟩, ex, ey, if_pos (by omega)]
  · rw [if_neg hc]
    have hne : ¬ (whoI q i = a ∧ whoI q j = b) := by
      rintro ⟨e1, e2⟩
      have h1 := whoI_name h (i := i) (by omega)
      have h2 := whoI_name h (i := j) (by omega)
      rw [e1, hx] at h1
      rw [e2, hy] at h2
      simp only [Option.some.injEq] at h1 h2
      exact hc ⟨by omega, by omega⟩
    have : (whoI q i < a ∨ whoI q i = a ∧ whoI q j < b) ↔ (whoI q i < a ∨ whoI q i = a ∧ whoI q j < b + 1) := by omega
    simp only [this]
theorem namedTo_row {n : Nat} {q : List Int} (h : isNamingI n q = true) (t : Nat → Nat → Bool) (a : Nat) : ∀ i j, i < n → j < n → namedTo q t a n i j = namedTo q t (a + 1) 0 i j := by
  intro i j hi hj
  have := whoI_lt h (i := j) (by omega)
  unfold namedTo
  have : (whoI q i < a ∨ whoI q i = a ∧ whoI q j < n) ↔ (whoI q i < a + 1 ∨ whoI q i = a + 1 ∧ whoI q j < 0) := by omega
  simp only [this]
theorem namedTo_all {n : Nat} {q : List Int} (h : isNamingI n q = true) (t : Nat → Nat → Bool) : ∀ i j, i < n → j < n → namedTo q t n 0 i j = namedT q t i j := by
  intro i j hi hj
  have := whoI_lt h (i := i) (by omega)
  unfold namedTo namedT
  rw [if_pos (by omega)]

/-! ## Pairs, sorted -/
def pairI (a b : Int) : Int × Int := (min a b, max a b)
def sortP (l : PL) : PL := l.mergeSort fun x y => !pairLess y x
theorem pairLess_plt {a b : Int × Int} : pairLess a b = true ↔ plt a b := by unfold pairLess plt; simp
theorem sortP_perm (l : PL) : (sortP l).Perm l := List.mergeSort_perm _ _
theorem sortP_mem {l : PL} {r : Int × Int} : r ∈ sortP l ↔ r ∈ l := (sortP_perm l).mem_iff
theorem sortP_length (l : PL) : (sortP l).length = l.length := (sortP_perm l).length_eq
theorem sortP_sorted {l : PL} (hn : l.Nodup) : (sortP l).Pairwise plt := by
  have h := List.pairwise_mergeSort (le := fun x y : Int × Int => !pairLess y x) (by
    intro a b c
    simp only [Bool.not_eq_true', ← Bool.not_eq_true, pairLess_plt]
    unfold plt
    omega) (by
    intro a b
    simp only [Bool.or_eq_true, Bool.not_eq_true', ← Bool.not_eq_true, pairLess_plt]
    unfold plt
    omega) l
  have hn' : (sortP l).Nodup := (sortP_perm l).nodup_iff.2 hn
  refine (h.and hn').imp fun {a b} hab => ?_
  obtain ⟨h1, h2⟩ := hab
  simp only [Bool.not_eq_true', ← Bool.not_eq_true, pairLess_plt] at h1
  unfold plt at h1 ⊢
  apply Classical.byContradiction
  intro hc
  exact h2 (Prod.ext (by omega) (by omega))
/-- the pairs of people renamed, as they come -/
def namesP (l : PL) (q : List Int) : PL := l.map fun r => pairI (nameI q r.1) (nameI q r.2)
theorem namesP_snoc (l : PL) (q : List Int) (x y : Int) : namesP (l ++ [(x, y)]) q = namesP l q ++ [pairI (nameI q x) (nameI q y)] := by simp [namesP]
theorem namesP_length (l : PL) (q : List Int) : (namesP l q).length = l.length := by simp [namesP]
theorem name_of {p : Int} {q : List Int} (h : isNamingI p q = true) {x : Int} (hx : 0 ≤ x ∧ x < p) : ∃ i : Nat, nameI q x = i ∧ (i : Int) < p ∧ q[x.toNat]? = some (i : Int) ∧ whoI q i = x.toNat := by
  obtain ⟨hl, hm, hn⟩ := isNamingI_parts h
  obtain ⟨y, hy⟩ := getSome q x.toNat (by omega)
  have h1 := hm y (List.mem_of_getElem? hy)
  have e : ((x.toNat : Nat) : Int) = x := by omega
  have h2 := nameI_at hy
  rw [e] at h2
  refine ⟨y.toNat, by omega, by omega, by rw [hy]; congr 1; omega, whoI_at hn ?_⟩
  rw [hy]
  congr 1
  omega
theorem namesP_nodup {p : Int} {l : PL} {q : List Int} (hp : isP p l = true) (h : isNamingI p q = true) : (namesP l q).Nodup := by
  obtain ⟨_, _, hm, hs⟩ := isP_list hp
  unfold namesP
  rw [List.Nodup, List.pairwise_map]
  refine List.Pairwise.imp_of_mem (fun {r s} hr hs' hlt e => ?_) hs
  have a0 := hm r hr
  have b0 := hm s hs'
  obtain ⟨i1, e1, _, _, w1⟩ := name_of h (x := r.1) (by omega)
  obtain ⟨i2, e2, _, _, w2⟩ := name_of h (x := r.2) (by omega)
  obtain ⟨i3, e3, _, _, w3⟩ := name_of h (x := s.1) (by omega)
  obtain ⟨i4, e4, _, _, w4⟩ := name_of h (x := s.2) (by omega)
  rw [e1, e2, e3, e4] at e
  unfold pairI at e
  simp only [Prod.mk.injEq] at e
  have hc : i1 = i3 ∧ i2 = i4 ∨ i1 = i4 ∧ i2 = i3 := by omega
  unfold plt at hlt
  rcases hc with ⟨c1, c2⟩ | ⟨c1, c2⟩
  · subst c1; subst c2; omega
  · subst c1; subst c2; omega
theorem tabP_named {n : Nat} {l : PL} {q : List Int} (hp : isP n l = true) (h : isNamingI n q = true) : tabP n (namedT q (adj l)) = sortP (namesP l q) := by
  obtain ⟨_, h12, hm, hs⟩ := isP_list hp
  refine sorted_ext (filter_list (by omega) _).2.2.2 (sortP_sorted (namesP_nodup hp h)) fun r => ?_
  unfold tabP
  rw [List.mem_filter, mem_allP, sortP_mem]
  unfold namesP
  rw [List.mem_map]
  constructor
  · rintro ⟨⟨h0, h1, h2⟩, ht⟩
    have w1 := whoI_name h (i := r.1.toNat) (by omega)
    have w2 := whoI_name h (i := r.2.toNat) (by omega)
    unfold namedT adj at ht
    rw [Bool.or_eq_true, List.contains_iff_mem, List.contains_iff_mem] at ht
    rcases ht with ht | ht
    · refine ⟨_, ht, ?_⟩
      simp only
      rw [nameI_at w1, nameI_at w2]
      unfold pairI
      exact Prod.ext (by simp only; omega) (by simp only; omega)
    · refine ⟨_, ht, ?_⟩
      simp only
      rw [nameI_at w1, nameI_at w2]
      unfold pairI
      exact Prod.ext (by simp only; omega) (by simp only; omega)
  · rintro ⟨s, hsl, rfl⟩
    have b0 := hm s hsl
    obtain ⟨i1, e1, l1, _, w1⟩ := name_of h (x := s.1) (by omega)
    obtain ⟨i2, e2, l2, _, w2⟩ := name_of h (x := s.2) (by omega)
    rw [e1, e2]
    have hne : i1 ≠ i2 := by
      rintro rfl
      omega
    unfold pairI namedT adj
    have d1 : ((s.1.toNat : Nat) : Int) = s.1 := by omega
    have d2 : ((s.2.toNat : Nat) : Int) = s.2 := by omega
    rcases Nat.lt_or_ge i1 i2 with hlt | hge
    · have m1 : min (i1 : Int) i2 = i1 := by omega
      have m2 : max (i1 : Int) i2 = i2 := by omega
      rw [m1, m2]
      refine ⟨⟨by simp only; omega, by simp only; omega, by simp only; omega⟩, ?_⟩
      simp only [Int.toNat_natCast, w1, w2, d1, d2, Bool.or_eq_true, List.contains_iff_mem]
      exact .inl hsl
    · have m1 : min (i1 : Int) i2 = i2 := by omega
      have m2 : max (i1 : Int) i2 = i1 := by omega
      rw [m1, m2]
      refine ⟨⟨by simp only; omega, by simp only; omega, by simp only; omega⟩, ?_⟩
      simp only [Int.toNat_natCast, w1, w2, d1, d2, Bool.or_eq_true, List.contains_iff_mem]
      exact .inr hsl
end Go.Proofs.Ythpapkfpcijpoaa
/-
  'AreFriends': the model's and the program's, by their contracts.
-/
namespace Go.Proofs.Ythpapkfpcijpoaa
open Go.RowKit

def areF (l : PL) (a b : Int) : Bool := l.contains (min a b, max a b)
def resAreFriends (p : Int) (l : PL) (a b : Int) : Bool × Bool := if isTwo p l a b then (areF l a b, true) else (false, false)
theorem adj_areF {n : Nat} {l : PL} (h : isP n l = true) {i j : Nat} (hij : i ≠ j) : adj l i j = areF l i j := by
  unfold areF
  rcases Nat.lt_or_gt_of_ne hij with h1 | h1
  · rw [adj_pair h h1, Int.min_eq_left (by omega), Int.max_eq_right (by omega)]
  · rw [adj_comm, adj_pair h h1, Int.min_eq_right (by omega), Int.max_eq_left (by omega)]

end Go.Proofs.Ythpapkfpcijpoaa
/-
  TWO PAIRS EXCHANGED, as plain lists and as tables. Nothing here speaks of the program.
-/
namespace Go.Proofs.Ythpapkfpcijpoaa
open Go.RowKit

/-- four people of p, each one another -/
def fourI (p a b c d : Int) : Bool := decide ((0 ≤ a ∧ a < p) ∧ (0 ≤ b ∧ b < p) ∧ (0 ≤ c ∧ c < p) ∧ (0 ≤ d ∧ d < p) ∧ a ≠ b ∧ a ≠ c ∧ a ≠ d ∧ b ≠ c ∧ b ≠ d ∧ c ≠ d)
theorem fourI_parts {p a b c d : Int} (h : fourI p a b c d = true) : (0 ≤ a ∧ a < p) ∧ (0 ≤ b ∧ b < p) ∧ (0 ≤ c ∧ c < p) ∧ (0 ≤ d ∧ d < p) ∧ a ≠ b ∧ a ≠ c ∧ a ≠ d ∧ b ≠ c ∧ b ≠ d ∧ c ≠ d := of_decide_eq_true h
theorem fourI_not {p a b c d : Int} (h : ¬ ((0 ≤ a ∧ a < p) ∧ (0 ≤ b ∧ b < p) ∧ (0 ≤ c ∧ c < p) ∧ (0 ≤ d ∧ d < p) ∧ a ≠ b ∧ a ≠ c ∧ a ≠ d ∧ b ≠ c ∧ b ≠ d ∧ c ≠ d)) : fourI p a b c d = false := decide_eq_false h
/-- the pairs that can be exchanged -/
def canX (l : PL) (a b c d : Int) : Bool := (areF l a b && areF l c d) && (!areF l a c && !areF l b d)
def exchP (n : Nat) (l : PL) (a b c d : Int) : PL := (allP n).filter fun q => if q = (min b d, max b d) then true else if q = (min a c, max a c) then true else if q = (min c d, max c d) then false else if q = (min a b, max a b) then false else l.contains q
def resExchangePairs (p : Int) (l : PL) (a b c d : Int) : Int × PL × Bool := if isP p l && fourI p a b c d && canX l a b c d then (p, exchP p.toNat l a b c d, true) else (0, [], false)
theorem resExchangePairs_len (p : Int) (l : PL) (a b c d : Int) : (resExchangePairs p l a b c d).2.1.length ≤ 1048576 := by
  unfold resExchangePairs
  split
  · rename_i h
    simp only [Bool.and_eq_true] at h
    have := isP_range h.1.1
    exact Nat.le_trans (filter_length_le (n := p.toNat) (by omega) _) (by omega)
  · simp
/-- a table set at a pair, both ways -/
def upd2 (t : Nat → Nat → Bool) (a b : Nat) (x : Bool) : Nat → Nat → Bool := upd (upd t a b x) b a x
theorem upd2_at {t : Nat → Nat → Bool} {a b : Nat} {x : Bool} {i j : Nat} (hij : i < j) : upd2 t a b x i j = if (((i : Int), (j : Int)) : Int × Int) = (min (a : Int) b, max (a : Int) b) then x else t i j := by
  unfold upd2 upd
  by_cases h1 : i = b ∧ j = a
  · rw [if_pos h1, if_pos]
    simp only [Prod.mk.injEq]
    omega
  · by_cases h2 : i = a ∧ j = b
    · rw [if_neg h1, if_pos h2, if_pos]
      simp only [Prod.mk.injEq]
      omega
    · rw [if_neg h1, if_neg h2, if_neg]
      simp only [Prod.mk.injEq]
      omega
theorem tabP_exch {n : Nat} {l : PL} (h : isP n l = true) (a b c d : Nat) : tabP n (upd2 (upd2 (upd2 (upd2 (adj l) a b false) c d false) a c true) b d true) = exchP n l a b c d := by
  unfold tabP exchP
  refine List.filter_congr fun q hq => ?_
  have hm := mem_allP.1 hq
  obtain ⟨u, v⟩ := q
  obtain ⟨i, rfl⟩ : ∃ i : Nat, u = i := ⟨u.toNat, by simp at hm; omega⟩
  obtain ⟨j, rfl⟩ : ∃ j : Nat, v = j := ⟨v.toNat, by simp at hm; omega⟩
  simp only at hm
  have hij : i < j := by omega
  simp only [Int.toNat_natCast, upd2_at hij, adj_pair h hij]

/-! ## As the program makes them -/
def givenP (a b c d : Int) : PL := [pairI a c, pairI b d]
def takenP (a b c d : Int) : PL := [pairI a b, pairI c d]
def leftP (l : PL) (a b c d : Int) : PL := l.filter fun r => decide (¬ (r = pairI a b ∨ r = pairI c d))
def madeP (l : PL) (a b c d : Int) : PL := givenP a b c d ++ leftP l a b c d
theorem taken_contains (a b c d : Int) (r : Int × Int) : (takenP a b c d).contains r = decide (r = pairI a b ∨ r = pairI c d) := by
  rw [Bool.eq_iff_iff, List.contains_iff_mem]
  simp [takenP]
theorem given_contains (a b c d : Int) (r : Int × Int) : (givenP a b c d).contains r = decide (r = pairI a c ∨ r = pairI b d) := by
  rw [Bool.eq_iff_iff, List.contains_iff_mem]
  simp [givenP]
theorem leftP_snoc (l : PL) (a b c d : Int) (r : Int × Int) : leftP (l ++ [r]) a b c d = leftP l a b c d ++ if (takenP a b c d).contains r then [] else [r] := by
  unfold leftP
  rw [List.filter_append, taken_contains]
  congr 1
  by_cases h : r = pairI a b ∨ r = pairI c d
  · rw [List.filter_cons_of_neg (by simp [h]), if_pos (decide_eq_true h)]
    rfl
  · rw [List.filter_cons_of_pos (by simp [h]), decide_eq_false h]
    rfl
theorem areF_mem {l : PL} {a b : Int} : areF l a b = true ↔ pairI a b ∈ l := by unfold areF pairI; exact List.contains_iff_mem
theorem left_count (l : PL) {a b c d : Int} (hne : pairI a b ≠ pairI c d) : (leftP l a b c d).length + l.count (pairI a b) + l.count (pairI c d) = l.length := by
  unfold leftP
  generalize pairI a b = x at hne ⊢
  generalize pairI c d = y at hne ⊢
  induction l with
  | nil => rfl
  | cons r l ih =>
    by_cases h1 : r = x
    · subst h1
      rw [List.filter_cons_of_neg (by simp), List.count_cons_self, List.count_cons_of_ne hne, List.length_cons]
      omega
    · by_cases h2 : r = y
      · subst h2
        rw [List.filter_cons_of_neg (by simp), List.count_cons_self, List.count_cons_of_ne (Ne.symm hne), List.length_cons]
        omega
      · rw [List.filter_cons_of_pos (by simp [h1, h2]), List.count_cons_of_ne h1, List.count_cons_of_ne h2, List.length_cons, List.length_cons]
        omega
theorem plt_nodup {l : PL} (h : l.Pairwise plt) : l.Nodup := List.Pairwise.imp (fun {x y} hxy e => by subst e; unfold plt at hxy; omega) h
theorem made_len {n : Nat} {l : PL} {a b c d : Int} (hp : isP n l = true) (h4 : fourI n a b c d = true) : (madeP l a b c d).length = l.length ↔ areF l a b = true ∧ areF l c d = true := by
  obtain ⟨_, _, _, hs⟩ := isP_list hp
  have hnd := plt_nodup hs
  have h := fourI_parts h4
  have hne : pairI a b ≠ pairI c d := by unfold pairI; simp only [ne_eq, Prod.mk.injEq]; omega
  have hc := left_count l hne
  have h1 := hnd.count (a := pairI a b)
  have h2 := hnd.count (a := pairI c d)
  have e : (madeP l a b c d).length = 2 + (leftP l a b c d).length := by simp [madeP, givenP]; omega
  rw [e, areF_mem, areF_mem]
  by_cases m1 : pairI a b ∈ l <;> by_cases m2 : pairI c d ∈ l <;> simp only [m1, m2, if_true, if_false] at h1 h2 <;> simp only [m1, m2, and_self, and_true, and_false, iff_true, iff_false] <;> omega
theorem made_sorted {n : Nat} {l : PL} {a b c d : Int} (hp : isP n l = true) (h4 : fourI n a b c d = true) (hac : areF l a c = false) (hbd : areF l b d = false) : sortP (madeP l a b c d) = exchP n l a b c d := by
  obtain ⟨_, _, hm, hs⟩ := isP_list hp
  have h := fourI_parts h4
  have n1 : pairI a c ∉ l := fun hh => by rw [areF_mem.2 hh] at hac; cases hac
  have n2 : pairI b d ∉ l := fun hh => by rw [areF_mem.2 hh] at hbd; cases hbd
  have hnd : (madeP l a b c d).Nodup := by
    unfold madeP
    rw [List.nodup_append]
    refine ⟨?_, (plt_nodup hs).sublist List.filter_sublist, ?_⟩
    · simp only [givenP, List.nodup_cons, List.mem_singleton, List.not_mem_nil, not_false_eq_true, List.nodup_nil, and_true]
      unfold pairI
      simp only [Prod.mk.injEq]
      omega
    · intro x hx y hy e
      subst e
      have hl := (List.mem_filter.1 hy).1
      simp only [givenP, List.mem_cons, List.not_mem_nil, or_false] at hx
      rcases hx with rfl | rfl
      · exact n1 hl
      · exact n2 hl
  refine sorted_ext (sortP_sorted hnd) ((sorted_allP n).filter _) fun r => ?_
  unfold exchP
  rw [sortP_mem, List.mem_filter, mem_allP]
  simp only [madeP, givenP, leftP, List.mem_append, List.mem_cons, List.not_mem_nil, or_false, List.mem_filter, decide_eq_true_eq, not_or]
  constructor
  · rintro ((rfl | rfl) | ⟨hr, h1, h2⟩)
    · refine ⟨by unfold pairI; simp only; omega, ?_⟩
      by_cases e : pairI a c = (min b d, max b d)
      · rw [if_pos e]
      · rw [if_neg e, if_pos (show pairI a c = (min a c, max a c) from rfl)]
    · exact ⟨by unfold pairI; simp only; omega, by rw [if_pos (show pairI b d = (min b d, max b d) from rfl)]⟩
    · refine ⟨hm r hr, ?_⟩
      by_cases e1 : r = (min b d, max b d)
      · rw [if_pos e1]
      · by_cases e2 : r = (min a c, max a c)
        · rw [if_neg e1, if_pos e2]
        · rw [if_neg e1, if_neg e2, if_neg (show ¬ r = (min c d, max c d) from h2), if_neg (show ¬ r = (min a b, max a b) from h1)]
          simpa using hr
  · rintro ⟨_, hr⟩
    by_cases e1 : r = (min b d, max b d)
    · exact .inl (.inr e1)
    · by_cases e2 : r = (min a c, max a c)
      · exact .inl (.inl e2)
      · rw [if_neg e1, if_neg e2] at hr
        by_cases e3 : r = (min c d, max c d)
        · rw [if_pos e3] at hr; cases hr
        · rw [if_neg e3] at hr
          by_cases e4 : r = (min a b, max a b)
          · rw [if_pos e4] at hr; cases hr
          · rw [if_neg e4] at hr
            exact .inr ⟨by simpa using hr, e4, e3⟩
end Go.Proofs.Ythpapkfpcijpoaa
/-
  DERIVED: THE SHELF's CONTRACTS AT THIS DUMP, IN PLAIN WORDS (tools/lay-plain.mjs out of 'YthpapkfpcijpoaaShelfHome.lean', which tools/lay-shelf.mjs wrote): THE SAME DECLARATIONS UNDER THE SAME NAMES: 'import', 'namespace', 'open', 'def', 'theorem' AND NOTHING ELSE: no command of the shelf's: FOR A HAND-IN. Each laying: the table of numbers ('.._ren') and one theorem, a field a fact of the dump's own or the kernel's comparison; each contract: ONE APPLICATION.
-/
namespace Go.Proofs
open Go.Shelf
def Try.cloneI_ren : Go.Shelf.Ren := ⟨fun | 41 => 96 | n => n, fun | 22 => 45 | 23 => 3 | 4 => 4 | n => n, fun | n => n⟩
theorem Try.cloneI : Go.Proofs.SlLaysE0.n41 Try.prog Try.cloneI_ren := {
  mixed := by kernel_rfl
  f41 := ⟨Try.f96.name, by decide, Try.func96.trans (congrArg some (by kernel_rfl))⟩
  t4 := Try.underlying4
  a4 := Try.isAgg4
  z4 := Try.sizeOf4
  v4 := Try.zeroValue4
  t22 := Try.underlying45
  a22 := Try.isAgg45
  z22 := Try.sizeOf45
  v22 := Try.zeroValue45 }
def Try.indexI_ren : Go.Shelf.Ren := ⟨fun | 29 => 74 | n => n, fun | 22 => 45 | 23 => 3 | 3 => 3 | 0 => 0 | 4 => 4 | n => n, fun | n => n⟩
theorem Try.indexI : Go.Proofs.SlLaysN.n29 Try.prog Try.indexI_ren := {
  mixed := by kernel_rfl
  f29 := ⟨Try.f74.name, by decide, Try.func74.trans (congrArg some (by kernel_rfl))⟩
  t0 := Try.underlying0
  a0 := Try.isAgg0
  z0 := Try.sizeOf0
  v0 := Try.zeroValue0
  t3 := Try.underlying3
  a3 := Try.isAgg3
  z3 := Try.sizeOf3
  v3 := Try.zeroValue3
  t4 := Try.underlying4
  a4 := Try.isAgg4
  z4 := Try.sizeOf4
  v4 := Try.zeroValue4
  t22 := Try.underlying45
  a22 := Try.isAgg45
  z22 := Try.sizeOf45
  v22 := Try.zeroValue45
  t23 := Try.underlying3
  a23 := Try.isAgg3
  z23 := Try.sizeOf3
  v23 := Try.zeroValue3 }
def Try.containsI_ren : Go.Shelf.Ren := ⟨fun | 31 => 82 | 29 => 74 | n => n, fun | 22 => 45 | 23 => 3 | 4 => 4 | 3 => 3 | 0 => 0 | n => n, fun | n => n⟩
theorem Try.containsI : Go.Proofs.SlLaysN.n31 Try.prog Try.containsI_ren := {
  mixed := by kernel_rfl
  f29 := ⟨Try.f74.name, by decide, Try.func74.trans (congrArg some (by kernel_rfl))⟩
  f31 := ⟨Try.f82.name, by decide, Try.func82.trans (congrArg some (by kernel_rfl))⟩
  t0 := Try.underlying0
  a0 := Try.isAgg0
  z0 := Try.sizeOf0
  v0 := Try.zeroValue0
  t3 := Try.underlying3
  a3 := Try.isAgg3
  z3 := Try.sizeOf3
  v3 := Try.zeroValue3
  t4 := Try.underlying4
  a4 := Try.isAgg4
  z4 := Try.sizeOf4
  v4 := Try.zeroValue4
  t22 := Try.underlying45
  a22 := Try.isAgg45
  z22 := Try.sizeOf45
  v22 := Try.zeroValue45
  t23 := Try.underlying3
  a23 := Try.isAgg3
  z23 := Try.sizeOf3
  v23 := Try.zeroValue3 }
def Try.maxI_ren : Go.Shelf.Ren := ⟨fun | 37 => 102 | n => n, fun | 22 => 45 | 23 => 3 | 3 => 3 | 4 => 4 | 9 => 9 | 20 => 20 | 0 => 0 | n => n, fun | n => n⟩
theorem Try.maxI : Go.Proofs.SlLaysN.n37 Try.prog Try.maxI_ren := {
  mixed := by kernel_rfl
  f37 := ⟨Try.f102.name, by decide, Try.func102.trans (congrArg some (by kernel_rfl))⟩
  t0 := Try.underlying0
  a0 := Try.isAgg0
  z0 := Try.sizeOf0
  v0 := Try.zeroValue0
  t3 := Try.underlying3
  a3 := Try.isAgg3
  z3 := Try.sizeOf3
  v3 := Try.zeroValue3
  t4 := Try.underlying4
  a4 := Try.isAgg4
  z4 := Try.sizeOf4
  v4 := Try.zeroValue4
  t9 := Try.underlying9
  a9 := Try.isAgg9
  z9 := Try.sizeOf9
  v9 := Try.zeroValue9
  t20 := Try.underlying20
  a20 := Try.isAgg20
  z20 := Try.sizeOf20
  v20 := Try.zeroValue20
  t22 := Try.underlying45
  a22 := Try.isAgg45
  z22 := Try.sizeOf45
  v22 := Try.zeroValue45
  t23 := Try.underlying3
  a23 := Try.isAgg3
  z23 := Try.sizeOf3
  v23 := Try.zeroValue3 }
def Try.minI_ren : Go.Shelf.Ren := ⟨fun | 39 => 101 | n => n, fun | 22 => 45 | 23 => 3 | 3 => 3 | 4 => 4 | 9 => 9 | 20 => 20 | 0 => 0 | n => n, fun | n => n⟩
theorem Try.minI : Go.Proofs.SlLaysN.n39 Try.prog Try.minI_ren := {
  mixed := by kernel_rfl
  f39 := ⟨Try.f101.name, by decide, Try.func101.trans (congrArg some (by kernel_rfl))⟩
  t0 := Try.underlying0
  a0 := Try.isAgg0
  z0 := Try.sizeOf0
  v0 := Try.zeroValue0
  t3 := Try.underlying3
  a3 := Try.isAgg3
  z3 := Try.sizeOf3
  v3 := Try.zeroValue3
  t4 := Try.underlying4
  a4 := Try.isAgg4
  z4 := Try.sizeOf4
  v4 := Try.zeroValue4
  t9 := Try.underlying9
  a9 := Try.isAgg9
  z9 := Try.sizeOf9
  v9 := Try.zeroValue9
  t20 := Try.underlying20
  a20 := Try.isAgg20
  z20 := Try.sizeOf20
  v20 := Try.zeroValue20
  t22 := Try.underlying45
  a22 := Try.isAgg45
  z22 := Try.sizeOf45
  v22 := Try.zeroValue45
  t23 := Try.underlying3
  a23 := Try.isAgg3
  z23 := Try.sizeOf3
  v23 := Try.zeroValue3 }
end Go.Proofs
/-
  'slices.Contains' at numbers, from the shelf.
-/
namespace Go.Proofs.Ythpapkfpcijpoaa
open Go.RowKit

set_option maxRecDepth 100000 in
theorem containsI_any (q : List Int) (x : Int) (A : Option Addr) (c : Nat) (w : World) (hl : q.length ≤ 1048576) (hA : CRead w w.heap.size A (icells q)) :
    Calls Try.prog 82 #[.slice A q.length c, .int .i64 x] w fun e w' => e = .returned (.bool (hasI q x)) ∧ w = w' := by
  by_cases h0 : q.length = 0
  · have hq : q = [] := List.eq_nil_of_length_eq_zero h0
    subst hq
    have h := AnyG.slices_Contains_int_empty Try.containsI A c x w
    change Calls Try.prog 82 _ _ _ at h
    exact h.mono fun _ _ ⟨he, hw⟩ => ⟨he, hw.symm⟩
  · obtain ⟨b, off, rfl, hb, hc⟩ := hA.ints (by omega)
    have h := AnyG.slices_Contains_int Try.containsI b off q.length c q x w (Nat.le_refl _) (by omega) hc
    rw [List.take_length] at h
    change Calls Try.prog 82 _ _ _ at h
    exact h.mono fun _ _ ⟨he, hw⟩ => ⟨he, hw.symm⟩
end Go.Proofs.Ythpapkfpcijpoaa
/-
  'impl.areDifferent', by its contract.
-/
namespace Go.Proofs.Ythpapkfpcijpoaa
open Go.RowKit

/-- people of p, each one another -/
def diffI (p : Int) (q : List Int) : Bool := q.all (fun x => decide (0 ≤ x ∧ x < p)) && decide q.Nodup
theorem diffI_bad {p : Int} {q : List Int} {k : Nat} {x : Int} (hx : q[k]? = some x) (h : ¬ (0 ≤ x ∧ x < p)) : diffI p q = false := by
  cases he : diffI p q with
  | false => rfl
  | true =>
    simp only [diffI, Bool.and_eq_true, decide_eq_true_eq, List.all_eq_true] at he
    exact absurd (he.1 x (List.mem_of_getElem? hx)) h
theorem diffI_dup {p : Int} {q : List Int} {k : Nat} {x : Int} (hx : q[k]? = some x) (h : x ∈ q.take k) : diffI p q = false := by
  cases he : diffI p q with
  | false => rfl
  | true =>
    simp only [diffI, Bool.and_eq_true, decide_eq_true_eq] at he
    have hn := he.2
    rw [List.Nodup, List.pairwise_iff_getElem] at hn
    obtain ⟨i, hi, e⟩ := List.getElem_of_mem h
    rw [List.length_take] at hi
    rw [List.getElem_take] at e
    have hk : k < q.length := (List.getElem?_eq_some_iff.1 hx).1
    rw [List.getElem?_eq_getElem hk] at hx
    simp only [Option.some.injEq] at hx
    exact absurd (e.trans hx.symm) (hn i k (by omega) hk (by omega))
theorem diffI_of {p : Int} {q : List Int} (h : ∀ (k : Nat) (x : Int), k < q.length → q[k]? = some x → (0 ≤ x ∧ x < p) ∧ x ∉ q.take k) : diffI p q = true := by
  simp only [diffI, Bool.and_eq_true, decide_eq_true_eq, List.all_eq_true]
  constructor
  · intro x hx
    obtain ⟨i, hi, e⟩ := List.getElem_of_mem hx
    exact (h i x hi (by rw [List.getElem?_eq_getElem hi, e])).1
  · rw [List.Nodup, List.pairwise_iff_getElem]
    intro i j hi hj hij e
    refine (h j q[j] hj (List.getElem?_eq_getElem hj)).2 ?_
    rw [List.mem_take_iff_getElem]
    exact ⟨i, by omega, e⟩
theorem diff_four (p a b c d : Int) : diffI p [a, b, c, d] = fourI p a b c d := by
  unfold diffI fourI
  rw [Bool.eq_iff_iff]
  simp only [Bool.and_eq_true, decide_eq_true_eq, List.all_eq_true, List.nodup_cons, List.mem_cons, List.not_mem_nil, or_false, not_or, not_false_eq_true, List.nodup_nil, and_true, forall_eq_or_imp, forall_eq]
  constructor
  · rintro ⟨⟨h1, h2, h3, h4⟩, ⟨e1, e2, e3⟩, ⟨e4, e5⟩, e6⟩
    exact ⟨h1, h2, h3, h4, e1, e2, e3, e4, e5, e6⟩
  · rintro ⟨h1, h2, h3, h4, e1, e2, e3, e4, e5, e6⟩
    exact ⟨⟨h1, h2, h3, h4⟩, ⟨e1, e2, e3⟩, ⟨e4, e5⟩, e6⟩

end Go.Proofs.Ythpapkfpcijpoaa
/-
  COMMON FRIENDS, the program's: how many two people have; their crowd.
-/
namespace Go.Proofs.Ythpapkfpcijpoaa
open Go.RowKit

theorem common_set {n : Nat} {l : PL} (h : isP n l = true) {a b : Nat} (ha : a < n) (hb : b < n) : IsSet (friendsT l a &&& friendsT l b) ((List.range n).filter fun x => adj l a x && adj l b x) := by
  have hn := isP_range h
  have h1 := friends_set h (friendsT_of h) ha
  have h2 := friends_set h (friendsT_of h) hb
  refine ⟨List.pairwise_lt_range.filter _, fun x hx => by have := List.mem_range.1 (List.mem_filter.1 hx).1; omega, fun x => ?_⟩
  rw [Nat.testBit_and, Bool.and_eq_true, h1.mem, h2.mem, List.mem_filter, List.mem_filter, List.mem_filter, Bool.and_eq_true]
  constructor
  · rintro ⟨⟨e1, e2⟩, _, e3⟩; exact ⟨e1, e2, e3⟩
  · rintro ⟨e1, e2, e3⟩; exact ⟨⟨e1, e2⟩, e1, e3⟩
/-- how many common friends two people have -/
def commonN (n : Nat) (t : Nat → Nat → Bool) (a b : Nat) : Nat := ((List.range n).filter fun x => t a x && t b x).length
theorem commonL_len (n : Nat) (t : Nat → Nat → Bool) (a b : Nat) : (commonL n t a b).length = commonN n t a b := by simp [commonL, friendR, commonN]
theorem commonN_le (n : Nat) (t : Nat → Nat → Bool) (a b : Nat) : commonN n t a b ≤ n := by rw [← commonL_len]; exact commonL_le n t a b
theorem commonN_comm (n : Nat) (t : Nat → Nat → Bool) (a b : Nat) : commonN n t a b = commonN n t b a := by rw [← commonL_len, commonL_comm, commonL_len]
theorem diff_two (p a b : Int) : diffI p [a, b] = (isMan p a && isMan p b && decide (a ≠ b)) := by
  unfold diffI isMan
  rw [Bool.eq_iff_iff]
  simp only [Bool.and_eq_true, decide_eq_true_eq, List.all_eq_true, List.nodup_cons, List.mem_cons, List.not_mem_nil, or_false, not_false_eq_true, List.nodup_nil, and_true, forall_eq_or_imp, forall_eq]
set_option maxHeartbeats 4000000 in
set_option maxRecDepth 100000 in
theorem countCommon_any {T : Nat → Nat} {cs : List Nat} {a b : Nat} (hT : ∀ i, i < 12 → T i < 65536) (ha : a < 12) (hb : b < 12) (hcs : IsSet (T a &&& T b) cs) (w : World) :
    Calls Try.prog 55 #[.agg (tcells T), .int .i64 a, .int .i64 b] w fun e w' => e = .returned (.int .i64 cs.length) ∧ Below w.heap.size w w' := by
  have hand := u16_and_nat (T a) (T b) (hT a ha) (hT b hb)
  have call := fun X => onesCount_any hcs X
  simp only [← hand] at call
  obtain ⟨X, hX⟩ : ∃ X, w.alloc (Obj.cells (tcells T) 65) = X := ⟨_, rfl⟩
  have row0 : X.rowIs w.heap.size 65 12 (fun j => .int .u16 (T j)) := by rw [← hX]; exact rowIs_u16 w _ _
  have zX : X.heap.size = w.heap.size + 1 := by rw [← hX]; simp
  have kX : Below w.heap.size w X := by rw [← hX]; go_grown
  have za : ∀ z : Ext X.heap.size X, z.val.cell? ⟨w.heap.size, a, none⟩ = some (.int .u16 (T a)) := fun z => z.cell (row0.cell (i := a) (by omega)) (by omega)
  have zb : ∀ z : Ext X.heap.size X, z.val.cell? ⟨w.heap.size, b, none⟩ = some (.int .u16 (T b)) := fun z => z.cell (row0.cell (i := b) (by omega)) (by omega)
  have ha0 : (0 : Int) ≤ a := by omega
  have ha12 : (a : Int) < 12 := by omega
  have hb0 : (0 : Int) ≤ b := by omega
  have hb12 : (b : Int) < 12 := by omega
  have hta : ((a : Int)).toNat = a := by omega
  have htb : ((b : Int)).toNat = b := by omega
  unfold tcells at hX ⊢
  have HX := Lib.hid hX
  have KX := Lib.hid kX
  have Call := Lib.hid call
  clear hX kX row0 call hand
  go_enter Try.func55, Try.ntmps55
  go_wp2
  rw [HX.out]
  refine wp_region_ext X.heap.size (by kernel_rfl) (by kernel_rfl) ?_
  repeat (go_big_quiet_step ((first
    | (go_at_call 91; exact Calls.ext_of ((Call.out _).mono fun _ _ h => ⟨h.1, h.2.mono (Ext.size _)⟩)))))
  refine wpQuiet_nil ?_
  rintro w5 ⟨⟨_, hb5⟩, rfl⟩
  go_wp2
  go_ret
  exact ⟨rfl, KX.out.trans (hb5.mono KX.out.size)⟩
end Go.Proofs.Ythpapkfpcijpoaa
/-
  A PARTY OF AT LEAST ONE PERSON: the model's test; the greater of two numbers.
-/
namespace Go.Proofs.Ythpapkfpcijpoaa
open Go.RowKit

set_option maxHeartbeats 1000000 in
theorem cfSome_any (p : Int) (l : PL) (A : Option Addr) (c : Nat) (w : World) (hl : l.length ≤ 1048576) (hA : CRead w w.heap.size A (pcells l)) :
    Calls Try.prog 58 #[.agg #[.int .i64 p, .slice A l.length c]] w fun e w' => e = .returned (.bool (isP p l && decide (0 < p))) ∧ Below w.heap.size w w' := by
  have hr : CRead (w.alloc (Obj.cells #[.int .i64 p, .slice A l.length c] 31)) (w.alloc (Obj.cells #[.int .i64 p, .slice A l.length c] 31)).heap.size A (pcells l) := (hA.below (B' := w.heap.size) (by go_grown) (Nat.le_refl _)).more (by go_size)
  have call := paGood_any p l A c _ hl hr
  cases hp : isP p l with
  | false =>
    rw [hp] at call
    have Call := Lib.hid call
    clear call hp
    rw [Bool.false_and]
    go_enter Try.func58, Try.ntmps58
    go_wp2_with fail
    refine Call.out.mono ?_
    rintro e w2 ⟨rfl, hb2⟩
    simp only [World.size_alloc] at hb2
    go_wp2
    go_ret
    exact ⟨rfl, Below.trans (b := _) (by go_grown) (hb2.mono (by omega))⟩
  | true =>
    rw [hp] at call
    have Call := Lib.hid call
    clear call hp
    rw [Bool.true_and]
    by_cases h0 : 0 < p
    · rw [decide_eq_true h0]
      go_enter Try.func58, Try.ntmps58
      go_wp2_with fail
      refine Call.out.mono ?_
      rintro e w2 ⟨rfl, hb2⟩
      have c0 : w2.cell? ⟨w.heap.size, 0, none⟩ = some (.int .i64 p) := carry hb2 (by simp) (by simp)
      simp only [World.size_alloc] at hb2
      go_wp2
      go_ret
      exact ⟨rfl, Below.trans (b := _) (by go_grown) (hb2.mono (by omega))⟩
    · go_enter Try.func58, Try.ntmps58
      go_wp2_with fail
      refine Call.out.mono ?_
      rintro e w2 ⟨rfl, hb2⟩
      have c0 : w2.cell? ⟨w.heap.size, 0, none⟩ = some (.int .i64 p) := carry hb2 (by simp) (by simp)
      simp only [World.size_alloc] at hb2
      go_wp2
      go_ret
      exact ⟨rfl, Below.trans (b := _) (by go_grown) (hb2.mono (by omega))⟩
end Go.Proofs.Ythpapkfpcijpoaa
/-
  LISTS OF NUMBERS OF FRIENDS AS PLAIN LISTS: what numbers are; sorted so that they are falling; sums; where they fail. Nothing here speaks of the program.
-/
namespace Go.Proofs.Ythpapkfpcijpoaa

def isNums (q : List Int) : Bool := decide (q.length ≤ 12) && q.all fun x => decide (0 ≤ x ∧ x < q.length)
theorem isNums_len {q : List Int} (h : isNums q = true) : q.length ≤ 12 := by
  simp only [isNums, Bool.and_eq_true, decide_eq_true_eq] at h
  exact h.1
theorem isNums_mem {q : List Int} (h : isNums q = true) : ∀ x ∈ q, 0 ≤ x ∧ x < q.length := by
  simp only [isNums, Bool.and_eq_true, List.all_eq_true, decide_eq_true_eq] at h
  exact h.2
theorem isNums_at {q : List Int} (h : isNums q = true) {k : Nat} {x : Int} (hx : q[k]? = some x) : 0 ≤ x ∧ x < q.length := isNums_mem h x (List.mem_of_getElem? hx)
theorem isNums_of {q : List Int} (h : q.length ≤ 12) (h2 : ∀ (k : Nat) (x : Int), k < q.length → q[k]? = some x → 0 ≤ x ∧ x < q.length) : isNums q = true := by
  simp only [isNums, Bool.and_eq_true, List.all_eq_true, decide_eq_true_eq]
  refine ⟨h, fun x hx => ?_⟩
  obtain ⟨i, hi, rfl⟩ := List.getElem_of_mem hx
  exact h2 i _ hi (List.getElem?_eq_getElem hi)
theorem isNums_bad {q : List Int} {k : Nat} {x : Int} (hx : q[k]? = some x) (h : ¬ (0 ≤ x ∧ x < q.length)) : isNums q = false := by
  cases he : isNums q with
  | false => rfl
  | true => exact absurd (isNums_at he hx) h
theorem isNums_many {q : List Int} (h : 12 < q.length) : isNums q = false := by
  cases he : isNums q with
  | false => rfl
  | true => have := isNums_len he; omega

/-! ## Falling -/
def fall (q : List Int) : List Int := q.mergeSort fun x y => decide (y ≤ x)
theorem fall_perm (q : List Int) : (fall q).Perm q := List.mergeSort_perm _ _
theorem fall_length (q : List Int) : (fall q).length = q.length := (fall_perm q).length_eq
theorem fall_mem {q : List Int} {x : Int} : x ∈ fall q ↔ x ∈ q := (fall_perm q).mem_iff
theorem fall_sorted (q : List Int) : (fall q).Pairwise fun x y => y ≤ x := by
  have h := List.pairwise_mergeSort (le := fun x y : Int => decide (y ≤ x)) (by intro a b c; simp; omega) (by intro a b; simp; omega) q
  exact h.imp (by simp)
theorem fall_unique {l q : List Int} (hs : l.Pairwise fun x y => y ≤ x) (hp : l.Perm q) : l = fall q :=
  List.Perm.eq_of_pairwise (le := fun x y : Int => y ≤ x) (fun a b _ _ h1 h2 => by omega) hs (fall_sorted q) (hp.trans (fall_perm q).symm)
theorem fall_nums {q : List Int} (h : isNums q = true) : isNums (fall q) = true := by
  refine isNums_of (by rw [fall_length]; exact isNums_len h) fun k x _ hx => ?_
  have := isNums_mem h x (fall_mem.1 (List.mem_of_getElem? hx))
  rw [fall_length]
  exact this

/-- the numbers from n down, j of them, each as often as it is in the list -/
def blockI (q : List Int) (x : Int) : List Int := q.filter fun y => decide (x = y)
def descI (q : List Int) (n j : Nat) : List Int := (List.range j).flatMap fun i : Nat => blockI q ((n : Int) - (i : Int))
theorem descI_zero (q : List Int) (n : Nat) : descI q n 0 = [] := rfl
theorem descI_next (q : List Int) (n j : Nat) : descI q n (j + 1) = descI q n j ++ blockI q ((n : Int) - j) := by
  unfold descI
  rw [List.range_succ, List.flatMap_append]
  simp
theorem blockI_snoc (q : List Int) (x y : Int) : blockI (q ++ [y]) x = blockI q x ++ if x = y then [y] else [] := by
  unfold blockI
  rw [List.filter_append]
  congr 1
  by_cases h : x = y
  · rw [if_pos h, List.filter_cons_of_pos (by simpa using h)]; rfl
  · rw [if_neg h, List.filter_cons_of_neg (by simpa using h)]; rfl
theorem mem_blockI {q : List Int} {x y : Int} : y ∈ blockI q x ↔ y ∈ q ∧ x = y := by simp [blockI]
theorem mem_descI {q : List Int} {n j : Nat} {y : Int} : y ∈ descI q n j ↔ y ∈ q ∧ (n : Int) - j < y ∧ y ≤ n := by
  simp only [descI, List.mem_flatMap, List.mem_range, mem_blockI]
  constructor
  · rintro ⟨i, hi, hy, rfl⟩; exact ⟨hy, by omega, by omega⟩
  · rintro ⟨hy, h1, h2⟩; exact ⟨((n : Int) - y).toNat, by omega, hy, by omega⟩
theorem descI_sorted (q : List Int) (n j : Nat) : (descI q n j).Pairwise fun x y => y ≤ x := by
  induction j with
  | zero => exact List.Pairwise.nil
  | succ j ih =>
    rw [descI_next, List.pairwise_append]
    refine ⟨ih, ?_, fun a ha b hb => ?_⟩
    · rw [List.pairwise_iff_getElem]
      intro a b ha hb _
      have h1 := (mem_blockI.1 (List.getElem_mem ha)).2
      have h2 := (mem_blockI.1 (List.getElem_mem hb)).2
      omega
    · have h1 := mem_descI.1 ha
      have h2 := (mem_blockI.1 hb).2
      omega
theorem count_blockI (q : List Int) (x y : Int) : (blockI q x).count y = if x = y then q.count y else 0 := by
  unfold blockI
  by_cases h : x = y
  · subst h
    rw [if_pos rfl, List.count_filter (by simp)]
  · rw [if_neg h, List.count_eq_zero]
    intro hm
    exact h (by simpa using (List.mem_filter.1 hm).2)
theorem count_descI (q : List Int) (n j : Nat) (y : Int) : (descI q n j).count y = if (n : Int) - j < y ∧ y ≤ n then q.count y else 0 := by
  induction j with
  | zero => rw [descI_zero, if_neg (by omega)]; rfl
  | succ j ih =>
    rw [descI_next, List.count_append, ih, count_blockI]
    by_cases h1 : (n : Int) - j = y
    · rw [if_pos h1, if_neg (by omega), if_pos (by omega), Nat.zero_add]
    · rw [if_neg h1, Nat.add_zero]
      by_cases h2 : (n : Int) - j < y ∧ y ≤ n
      · rw [if_pos h2, if_pos (by omega)]
      · rw [if_neg h2, if_neg (by omega)]
theorem descI_fall {q : List Int} (h : isNums q = true) : descI q q.length (q.length + 1) = fall q := by
  refine fall_unique (descI_sorted _ _ _) (List.perm_iff_count.2 fun y => ?_)
  rw [count_descI]
  split
  · rfl
  · rename_i hn
    symm
    rw [List.count_eq_zero]
    intro hy
    have := isNums_mem h y hy
    omega
theorem descI_le (q : List Int) (n j : Nat) : (descI q n j).length ≤ j * q.length := by
  induction j with
  | zero => simp [descI_zero]
  | succ j ih =>
    rw [descI_next, List.length_append, Nat.add_mul, Nat.one_mul]
    have : (blockI q ((n : Int) - j)).length ≤ q.length := List.length_filter_le _ _
    omega
theorem blockI_le (q : List Int) (x : Int) : (blockI q x).length ≤ q.length := List.length_filter_le _ _

/-! ## Sums -/
def sumI (q : List Int) : Int := q.foldl (· + ·) 0
theorem sumI_snoc (q : List Int) (x : Int) : sumI (q ++ [x]) = sumI q + x := by simp [sumI, List.foldl_append]
theorem sumI_nil : sumI [] = 0 := rfl
/-- a bound of the sum of a beginning -/
theorem sumI_take_bound {q : List Int} {m : Int} (hm : 0 ≤ m) (h : ∀ x ∈ q, 0 ≤ x ∧ x ≤ m) : ∀ k, 0 ≤ sumI (q.take k) ∧ sumI (q.take k) ≤ k * m := by
  intro k
  induction k with
  | zero => simp [sumI_nil]
  | succ k ih =>
    rw [List.take_add_one]
    have e : ((k + 1 : Nat) : Int) * m = k * m + m := by rw [Int.natCast_add, Int.add_mul]; simp
    rw [e]
    cases hx : q[k]? with
    | none => simp; omega
    | some x =>
      have := h x (List.mem_of_getElem? hx)
      rw [Option.toList_some, sumI_snoc]
      omega
theorem sumI_perm {q l : List Int} (h : q.Perm l) : sumI q = sumI l := by
  unfold sumI
  exact h.foldl_eq' (fun x _ y _ z => by omega) 0

/-! ## Where numbers fail -/
def minsI (k : Int) (q : List Int) : List Int := q.map fun x => if k < x then k else x
theorem minsI_snoc (k : Int) (q : List Int) (x : Int) : minsI k (q ++ [x]) = minsI k q ++ [if k < x then k else x] := by simp [minsI]
def mostI (s : List Int) (k : Nat) : Int := (k : Int) * (k - 1) + sumI (minsI k (s.drop k))
def failAt (s : List Int) (k : Nat) : Bool := decide (mostI s k < sumI (s.take k))
def failsI (s : List Int) : Int := match (List.range s.length).find? fun i => failAt s (i + 1) with | none => 0 | some i => (i : Int) + 1
theorem failsI_at {s : List Int} {k : Nat} (hk : k < s.length) (h : ∀ j, j < k → failAt s (j + 1) = false) (hf : failAt s (k + 1) = true) : failsI s = k + 1 := by
  have : (List.range s.length).find? (fun i => failAt s (i + 1)) = some k := by
    rw [List.find?_range_eq_some]
    exact ⟨hf, by simpa using hk, fun j hj => by simp [h j hj]⟩
  unfold failsI
  rw [this]
theorem failsI_none {s : List Int} (h : ∀ j, j < s.length → failAt s (j + 1) = false) : failsI s = 0 := by
  have : (List.range s.length).find? (fun i => failAt s (i + 1)) = none := by
    rw [List.find?_range_eq_none]
    intro j hj
    simp [h j hj]
  unfold failsI
  rw [this]
theorem failsI_range (s : List Int) : 0 ≤ failsI s ∧ failsI s ≤ s.length := by
  unfold failsI
  split
  · omega
  · rename_i i hi
    have := List.mem_of_find?_eq_some hi
    rw [List.mem_range] at this
    omega
theorem minsI_bound {s : List Int} {m k : Int} (hk : 0 ≤ k) (h : ∀ x ∈ s, 0 ≤ x ∧ x ≤ m) : ∀ x ∈ minsI k s, 0 ≤ x ∧ x ≤ m := by
  intro x hx
  obtain ⟨y, hy, rfl⟩ := List.mem_map.1 hx
  have := h y hy
  split <;> omega
/-- they can be -/
def canI (q : List Int) : Bool := decide (sumI q % 2 = 0) && decide (failsI (fall q) = 0)
end Go.Proofs.Ythpapkfpcijpoaa
/-
  NUMBERS OF FRIENDS: what they are, by the model's and the program's contracts.
-/
namespace Go.Proofs.Ythpapkfpcijpoaa
open Go.RowKit

def l1AllB (q : List Int) (lo hi : Int) : Bool := q.all fun x => decide (lo ≤ x ∧ x ≤ hi)
theorem l1AllB_yes {q : List Int} {lo hi : Int} (h : ∀ (j : Nat) (x : Int), j < q.length → q[j]? = some x → lo ≤ x ∧ x ≤ hi) : l1AllB q lo hi = true := by
  simp only [l1AllB, List.all_eq_true, decide_eq_true_eq]
  intro x hx
  obtain ⟨i, hi, rfl⟩ := List.getElem_of_mem hx
  exact h i _ hi (List.getElem?_eq_getElem hi)
theorem l1AllB_no {q : List Int} {lo hi : Int} {k : Nat} {x : Int} (hx : q[k]? = some x) (h : ¬ (lo ≤ x ∧ x ≤ hi)) : l1AllB q lo hi = false := by
  cases he : l1AllB q lo hi with
  | false => rfl
  | true =>
    simp only [l1AllB, List.all_eq_true, decide_eq_true_eq] at he
    exact absurd (he x (List.mem_of_getElem? hx)) h

set_option maxHeartbeats 1000000 in
theorem l1All_any (q : List Int) (A : Option Addr) (c : Nat) (lo hi : Int) (w : World) (hl : q.length ≤ 1048576) (hA : CRead w w.heap.size A (icells q)) :
    Calls Try.prog 79 #[.slice A q.length c, .int .i64 lo, .int .i64 hi] w fun e w' => e = .returned (.bool (l1AllB q lo hi)) ∧ w = w' := by
  go_enter Try.func79, Try.ntmps79
  go_wp2
  go_loop [11] (fun i => ∃ k : Nat, k ≤ q.length ∧ i = .int .i64 k ∧ ∀ (j : Nat) (x : Int), j < k → q[j]? = some x → lo ≤ x ∧ x ≤ hi) (fun i => q.length - (intOf i).toNat)
  case atStart => exact ⟨0, Nat.zero_le _, rfl, fun j x hj => by omega⟩
  case round =>
    obtain ⟨k, hk, rfl, hg⟩ := hrel
    have Hg := Lib.hid hg
    clear hg
    by_cases hlt : k < q.length
    · obtain ⟨x, hx⟩ := getSome q k hlt
      obtain ⟨b, off, rfl, hbb, c0⟩ := hA.int hx
      have hki : (k : Int) < (q.length : Int) := by omega
      have Hx := Lib.hid hx
      clear hx
      by_cases hin : lo ≤ x ∧ x ≤ hi
      · go_wp2_with (go_at_call 63; refine (l1In_yes _ _ _ hin.1 hin.2 _).mono ?_; rintro e w' ⟨rfl, rfl⟩)
        go_round
        case rel =>
          refine ⟨k + 1, by omega, by go_num, fun j y hj hy => ?_⟩
          by_cases hjk : j = k
          · subst hjk
            rw [Hx.out] at hy
            simp only [Option.some.injEq] at hy
            subst hy
            exact hin
          · exact Hg.out j y (by omega) hy
        case measure => simp [intOf]; omega
      · have e : l1AllB q lo hi = false := l1AllB_no Hx.out hin
        have He := Lib.hid e
        clear e
        go_wp2_with (go_at_call 63; refine (l1In_no _ _ _ (by omega) _).mono ?_; rintro e w' ⟨rfl, rfl⟩)
        go_ret
        exact ⟨by rw [He.out]; rfl, rfl⟩
    · have hkl : k = q.length := by omega
      have e : l1AllB q lo hi = true := l1AllB_yes fun j x hj hx => Hg.out j x (by omega) hx
      have He := Lib.hid e
      clear e
      have hge : ¬ ((k : Int) < (q.length : Int)) := by omega
      go_wp2
      go_ret
      exact ⟨by rw [He.out]; rfl, rfl⟩

theorem isNums_all {q : List Int} (h : q.length ≤ 12) : l1AllB q 0 ((q.length : Int) - 1) = isNums q := by
  unfold l1AllB isNums
  rw [decide_eq_true h, Bool.true_and]
  congr 1
  funext x
  congr 1
  apply propext
  omega

def resIsNumbers (q : List Int) : Bool := isNums q
/-! ## Sums -/
/-! ## Sorted so that they are falling: the model's -/
end Go.Proofs.Ythpapkfpcijpoaa
/-
  PAINTINGS, PURE: when there is one, the place of a pair among all, the colour of a pair.
-/
namespace Go.Proofs.Ythpapkfpcijpoaa

/-- there is a painting -/
def isX (p k : Int) (l : List Int) : Bool := (decide (0 ≤ p ∧ p ≤ 8) && decide (1 ≤ k ∧ k ≤ 3)) && (decide ((l.length : Int) = (p * (p - 1)).tdiv 2) && l1AllB l 0 (k - 1))
theorem isX_parts {p k : Int} {l : List Int} (h : isX p k l = true) : (0 ≤ p ∧ p ≤ 8) ∧ (1 ≤ k ∧ k ≤ 3) ∧ (l.length : Int) = (p * (p - 1)).tdiv 2 ∧ l1AllB l 0 (k - 1) = true := by
  simp only [isX, Bool.and_eq_true, decide_eq_true_eq] at h
  exact ⟨h.1.1, h.1.2, h.2.1, h.2.2⟩
theorem allP_count : ∀ n : Fin 9, ((allP n.val).length : Int) = ((n.val : Int) * ((n.val : Int) - 1)).tdiv 2 ∧ (allP n.val).length ≤ 28 ∧ waysI (n.val : Int) 2 = ((n.val : Int) * ((n.val : Int) - 1)).tdiv 2 := by decide +kernel
theorem count_of {p : Int} (h : 0 ≤ p ∧ p ≤ 8) : ((allP p.toNat).length : Int) = (p * (p - 1)).tdiv 2 ∧ (allP p.toNat).length ≤ 28 ∧ waysI p 2 = (p * (p - 1)).tdiv 2 := by
  have := allP_count ⟨p.toNat, by omega⟩
  simp only [show ((p.toNat : Nat) : Int) = p from by omega] at this
  exact this
theorem isX_len {p k : Int} {l : List Int} (h : isX p k l = true) : l.length = (allP p.toNat).length := by
  have h1 := isX_parts h
  have h2 := (count_of h1.1).1
  omega
theorem isX_small {p k : Int} {l : List Int} (h : isX p k l = true) : l.length ≤ 28 := by
  rw [isX_len h]
  exact (count_of (isX_parts h).1).2.1
theorem isX_at {p k : Int} {l : List Int} (h : isX p k l = true) {i : Nat} {x : Int} (hx : l[i]? = some x) : 0 ≤ x ∧ x < k := by
  have h1 := (isX_parts h).2.2.2
  simp only [l1AllB, List.all_eq_true, decide_eq_true_eq] at h1
  have := h1 x (List.mem_of_getElem? hx)
  omega
/-- the place of the pair of a and b, a < b, among those of n people -/
def atP (n a b : Nat) : Nat := a * (2 * n - a - 1) / 2 + b - a - 1
theorem atP_all : ∀ n : Fin 9, ∀ a : Fin 8, ∀ b : Fin 8, a.val < b.val → b.val < n.val → (allP n.val)[atP n.val a.val b.val]? = some ((a.val : Int), (b.val : Int)) := by decide +kernel
theorem atP_get {n a b : Nat} (hn : n ≤ 8) (hab : a < b) (hb : b < n) : (allP n)[atP n a b]? = some ((a : Int), (b : Int)) := atP_all ⟨n, by omega⟩ ⟨a, by omega⟩ ⟨b, by omega⟩ hab hb
theorem atP_lt {n a b : Nat} (hn : n ≤ 8) (hab : a < b) (hb : b < n) : atP n a b < (allP n).length := (List.getElem?_eq_some_iff.1 (atP_get hn hab hb)).1
theorem atP_of_all : ∀ n : Fin 9, ∀ i : Fin 28, i.val < (allP n.val).length → ∃ a : Fin 8, ∃ b : Fin 8, a.val < b.val ∧ b.val < n.val ∧ i.val = atP n.val a.val b.val := by decide +kernel
/-- each pair of all is at its place -/
theorem atP_of {n i : Nat} (hn : n ≤ 8) (hi : i < (allP n).length) : ∃ a b : Nat, a < b ∧ b < n ∧ i = atP n a b := by
  have h1 := (count_of (p := (n : Int)) (by omega)).2.1
  rw [Int.toNat_natCast] at h1
  obtain ⟨a, b, h⟩ := atP_of_all ⟨n, by omega⟩ ⟨i, by omega⟩ hi
  exact ⟨a.val, b.val, h⟩
/-- the colour of a pair, in whichever order -/
def colX (n : Nat) (l : List Int) (a b : Nat) : Int := l.getD (atP n (min a b) (max a b)) 0
theorem colX_comm (n : Nat) (l : List Int) (a b : Nat) : colX n l a b = colX n l b a := by unfold colX; rw [Nat.min_comm, Nat.max_comm]
end Go.Proofs.Ythpapkfpcijpoaa
/-
  THE LAWS' COPY OF A LIST OF NUMBERS, by its contract.
-/
namespace Go.Proofs.Ythpapkfpcijpoaa
open Go.RowKit

set_option maxHeartbeats 1000000 in
set_option maxRecDepth 100000 in
theorem toIntS_any (l : List Int) (A : Option Addr) (c : Nat) (w : World) (hl : l.length ≤ 1048576) (hA : CRead w w.heap.size A (icells l)) :
    Calls Try.prog 40 #[.slice A l.length c] w fun e w' =>
      e = .returned (.slice (some ⟨w.heap.size, 0, none⟩) l.length l.length) ∧ w'.ownsRow w.heap.size 3 1 (.slice (some ⟨w.heap.size, 0, none⟩) l.length l.length) l.length (icells l) ∧ Below w.heap.size w w' := by
  obtain ⟨i0, hi, hz0, hz1, hz2⟩ := info_parts Try.infoInt
  generalize hn : l.length = n at *
  have Hn := Lib.hid hn
  clear hn
  generalize hg : w.heap.size = g at *
  have Hg := Lib.hid hg
  clear hg
  go_enter Try.func40, Try.ntmps40
  go_wp2_with (at_make; refine wpList_make_full _ rfl _ _ 45 rfl g 3 i0 _ 1 Try.underlying45 hi hz0 hz1 _ _ _ _ n rfl rfl (by omega) (by omega) (by rw [hz2]; omega) (by unfold maxLen; omega) (by rw [Hg.out]; exact Nat.le_refl _) ?_; rw [Hg.out]; intro w1 hown1 hgr1)
  have hs1 : g < w1.heap.size := (own_lt hown1).2
  have hb1 : Below g w w1 := (Below.refl _ _).grown hgr1 (by rw [Hg.out]; exact Nat.le_refl _) (by simp)
  rw [show Value.cells (.int .i64 0) = #[.int .i64 0] from rfl, made_ints] at hown1
  go_loopw [4] (fun i wr => ∃ k : Nat, k ≤ n ∧ i = .int .i64 k ∧ wr.ownsRow g 3 1 (.slice (some ⟨g, 0, none⟩) n n) n (icells (l.take k ++ List.replicate (n - k) 0)) ∧ Below g w wr) (fun i _ => n - (intOf i).toNat)
  case atStart => exact ⟨0, Nat.zero_le _, rfl, by simpa using hown1, hb1⟩
  case round =>
    obtain ⟨k, hk, rfl, hown, hb⟩ := hrel
    have hs := own_lt hown
    by_cases hlt : k < n
    · obtain ⟨x, hx⟩ := getSome l k (by rw [Hn.out]; exact hlt)
      obtain ⟨b, off, rfl, hbb, c0⟩ := (hA.below hb (Nat.le_refl _)).int hx
      have hlt' : (k : Int) < n := by omega
      have f0 := hown.frozenAt k
      have hz : (l.take k ++ List.replicate (n - k) 0)[k]? = some 0 := by
        rw [List.getElem?_append_right (by simp; omega)]
        have h1 : min k l.length = k := Nat.min_eq_left (by rw [Hn.out]; exact hk)
        simp only [List.length_take, h1, Nat.sub_self]
        rw [List.getElem?_replicate, if_pos (by omega)]
      have d0 := own_intAt hown hz
      clear hz
      have Hx := Lib.hid hx
      clear hx
      go_wp2
      go_roundw
      case rel =>
        refine ⟨k + 1, by omega, by go_num, ?_, hb.setCell (p := ⟨g, k, none⟩) (Nat.le_refl _) _⟩
        have h2 := own_setInt hown k x
        rwa [take_set_replicate l 0 n k x Hn.out Hx.out] at h2
      case measure => simp [intOf]; omega
    · have hkl : k = n := by omega
      subst hkl
      have hge : ¬ ((k : Int) < k) := by omega
      go_wp2
      go_ret
      refine ⟨rfl, ?_, hb⟩
      rwa [Nat.sub_self, List.replicate_zero, List.append_nil, List.take_of_length_le (by rw [Hn.out]; exact Nat.le_refl _)] at hown
theorem toIntS_got (l : List Int) (A : Option Addr) (c : Nat) (w : World) (hl : l.length ≤ 1048576) (hA : CRead w w.heap.size A (icells l)) :
    Calls Try.prog 40 #[.slice A l.length c] w fun e w' => ∃ A' c', e = .returned (.slice A' l.length c') ∧ w'.ownsRow w.heap.size 3 1 (.slice A' l.length c') l.length (icells l) ∧ Below w.heap.size w w' :=
  (toIntS_any l A c w hl hA).mono fun _ _ h => ⟨_, _, h⟩
end Go.Proofs.Ythpapkfpcijpoaa
/-
  THE SIZE OF A LIST OF NUMBERS, by the contract of the laws' helper.
-/
namespace Go.Proofs.Ythpapkfpcijpoaa
open Go.RowKit

end Go.Proofs.Ythpapkfpcijpoaa
/-
  PAINTINGS: the laws' own small functions at them (size, copy, comparison, marks), by their contracts.
-/
namespace Go.Proofs.Ythpapkfpcijpoaa
open Go.RowKit

/-- A call came back with a painting and a bool; its colours lie in memory of its own. -/
def GotPaintOk (w : World) (p k : Int) (l : List Int) (ok : Bool) (e : Ending) (w' : World) : Prop :=
  ∃ A c, e = .returned (.tuple #[.agg #[.int .i64 p, .int .i64 k, .slice A l.length c], .bool ok]) ∧ w'.ownsRow w.heap.size 3 1 (.slice A l.length c) l.length (icells l) ∧ Below w.heap.size w w'
/-- A call came back with a painting whose colours lie in memory of its own. -/
def GotPaint (w : World) (p k : Int) (l : List Int) (e : Ending) (w' : World) : Prop :=
  ∃ A c, e = .returned (.agg #[.int .i64 p, .int .i64 k, .slice A l.length c]) ∧ w'.ownsRow w.heap.size 3 1 (.slice A l.length c) l.length (icells l) ∧ Below w.heap.size w w'

end Go.Proofs.Ythpapkfpcijpoaa
/-
  'IsPainting': the model's and the program's, by their contracts.
-/
namespace Go.Proofs.Ythpapkfpcijpoaa
open Go.RowKit

theorem isX_p {p k : Int} {l : List Int} (h : ¬ (0 ≤ p ∧ p ≤ 8)) : isX p k l = false := by simp [isX, h]
theorem isX_k {p k : Int} {l : List Int} (h : ¬ (1 ≤ k ∧ k ≤ 3)) : isX p k l = false := by simp [isX, h]
theorem isX_l {p k : Int} {l : List Int} (h : ¬ ((l.length : Int) = (p * (p - 1)).tdiv 2)) : isX p k l = false := by simp [isX, h]
theorem isX_else {p k : Int} {l : List Int} (h : 0 ≤ p ∧ p ≤ 8) (h1 : 1 ≤ k ∧ k ≤ 3) (h2 : (l.length : Int) = (p * (p - 1)).tdiv 2) : isX p k l = l1AllB l 0 (k - 1) := by simp [isX, h, h1, h2]
theorem sq_in {p : Int} (h : 0 ≤ p ∧ p ≤ 8) : 0 ≤ p * (p - 1) ∧ p * (p - 1) ≤ 1000 ∧ 0 ≤ (p * (p - 1)).tdiv 2 ∧ (p * (p - 1)).tdiv 2 ≤ 1000 := by
  have all : ∀ n : Fin 9, 0 ≤ (n.val : Int) * ((n.val : Int) - 1) ∧ (n.val : Int) * ((n.val : Int) - 1) ≤ 1000 ∧ 0 ≤ ((n.val : Int) * ((n.val : Int) - 1)).tdiv 2 ∧ ((n.val : Int) * ((n.val : Int) - 1)).tdiv 2 ≤ 1000 := by decide +kernel
  have := all ⟨p.toNat, by omega⟩
  simpa only [show ((p.toNat : Nat) : Int) = p from by omega] using this

def resIsPainting (p k : Int) (l : List Int) : Bool := isX p k l

/-- what the program asks of a colour -/
def isColB (k x : Int) : Bool := decide (0 ≤ x) && decide (x < k)
theorem any_noI {l : List Int} {f : Int → Bool} (h : ∀ (j : Nat) (x : Int), j < l.length → l[j]? = some x → f x = false) : l.any f = false := by
  rw [List.any_eq_false]
  intro x hx
  obtain ⟨j, hj, e⟩ := List.getElem_of_mem hx
  rw [h j x hj (by rw [List.getElem?_eq_getElem hj, e])]
  simp
theorem none_all {k : Int} {l : List Int} : (!l.any fun x => !isColB k x) = l1AllB l 0 (k - 1) := by
  unfold l1AllB
  induction l with
  | nil => rfl
  | cons x l ih =>
    rw [List.any_cons, List.all_cons, ← ih]
    have : decide (0 ≤ x ∧ x ≤ k - 1) = isColB k x := by
      unfold isColB
      by_cases h0 : 0 ≤ x <;> by_cases h1 : x < k <;> simp [h0, h1] <;> omega
    rw [this]
    cases isColB k x <;> simp
end Go.Proofs.Ythpapkfpcijpoaa
/-
  ALL PAIRS: 'everyPair', by its contract.
-/
namespace Go.Proofs.Ythpapkfpcijpoaa
open Go.RowKit

theorem otherP_nil (n : Nat) : otherP n [] = allP n := by
  unfold otherP
  rw [List.filter_eq_self]
  intro q _
  rfl
theorem Try.run_pairsE (a b : Value) (X : World) : (Instr.field 31 (.agg #[a, b]) 1).run Try.prog X = .ok b X := by
  simp [Instr.field, go_sem]
  rfl
set_option maxHeartbeats 1000000 in
set_option maxRecDepth 100000 in
theorem everyPair_any (n : Nat) (hn : n ≤ 12) (w : World) :
    Calls Try.prog 62 #[.int .i64 n] w fun e w' => ∃ A c, e = .returned (.slice A (allP n).length c) ∧ w'.ownsRow w.heap.size 71 2 (.slice A (allP n).length c) (allP n).length (pcells (allP n)) ∧ Below w.heap.size w w' := by
  have hp : isP (n : Int) [] = true := by unfold isP; simp; omega
  have call := fun X : World => other_any (n : Int) [] none 0 X hp CRead.nil
  rw [Int.toNat_natCast, otherP_nil] at call
  have Call := Lib.hid call
  have hf := Try.run_pairsE
  clear call hp
  go_enter Try.func62, Try.ntmps62
  go_wp2_with fail
  refine (Call.out _).mono ?_
  rintro e w2 ⟨A2, c2, rfl, own2, hb2⟩
  go_wp2
  go_ret
  exact ⟨A2, c2, rfl, own2, hb2⟩
end Go.Proofs.Ythpapkfpcijpoaa
