/-
  Texts put together for the claim of 'StrongNumbers' (pack 4): GroupP, GroupS, TrG, CountG, Threes, ThreesAt, NameP, Are, ExchP, Shelf, ContI, Diff, CountCm, Lists, RowsG, RowsH, Mats, TableP, EqP, Idx.
-/
import Derived.Test.YthpapkfpcijpoaaStrongNumbersP1
import Derived.Test.YthpapkfpcijpoaaStrongNumbersP2
import Derived.Test.YthpapkfpcijpoaaStrongNumbersP3
import Derived.Shelf.SlicesE.Clone
import Derived.Shelf.SlicesG.SearchI
import Derived.Shelf.SlicesG.Turned
import Derived.Shelf.SlGeneric
import Derived.Ground.SlgnProg
import Derived.Ground.SlsfProg
import Derived.Shelf.SlSortCmp.NoneTotal
import Derived.Test.YthpapkfpcijpoaaProg
import Derived.BigQuiet
import Derived.Deep.RegionLaw
import Derived.Lib.Slices
/-
  GROUPS AS PLAIN LISTS: a list is a group just if all of its pairs are chosen. Nothing here speaks of the program.
-/
namespace Go.Proofs.Ythpapkfpcijpoaa
open Go.RowKit

/-- a person who is a friend of all of a list -/
def knowsI (l : PL) (q : List Int) (x : Int) : Bool := q.all fun y => adj l x.toNat y.toNat
def groupAt (p : Int) (l : PL) (q : List Int) (k : Nat) : Bool := choiceAt p q k && knowsI l (q.take k) (q.getD k 0)
def isGroupI (p : Int) (l : PL) (q : List Int) : Bool := (List.range q.length).all (groupAt p l q)
theorem isGroupI_of {p : Int} {l : PL} {q : List Int} (h : ∀ i, i < q.length → groupAt p l q i = true) : isGroupI p l q = true := by
  simp only [isGroupI, List.all_eq_true, List.mem_range]
  exact h
theorem isGroupI_no {p : Int} {l : PL} {q : List Int} {i : Nat} (hi : i < q.length) (h : groupAt p l q i = false) : isGroupI p l q = false := by
  cases he : isGroupI p l q with
  | false => rfl
  | true =>
    simp only [isGroupI, List.all_eq_true, List.mem_range] at he
    rw [he i hi] at h
    cases h
theorem allP_length : ∀ n : Fin 13, ((allP n.val).length : Int) = waysI n.val 2 := by decide +kernel
theorem allP_ways {n : Nat} (hn : n ≤ 12) : ((allP n).length : Int) = waysI n 2 := allP_length ⟨n, by omega⟩
theorem groups_all {p : Int} {l : PL} {q : List Int} (hp : isP p l = true) (hq : isChoiceI p q = true) : isGroupI p l q = decide (((chooseP l q).length : Int) = waysI q.length 2) := by
  have hlen : q.length ≤ 12 := by have := isP_range hp; rcases isChoiceI_long hq with h | h; (· omega); (· simp [h])
  have hall : ((chooseP l q).length : Int) = waysI q.length 2 ↔ ∀ i j, i < j → j < q.length → chosenT l q i j = true := by
    rw [← tabP_choose hp hq, ← allP_ways hlen]
    unfold tabP
    constructor
    · intro h
      have h2 := List.length_filter_eq_length_iff.1 (Int.ofNat_inj.1 h)
      intro i j hij hj
      have := h2 ((i : Int), (j : Int)) (mem_allP.2 ⟨by simp, by simp; omega, by simp; omega⟩)
      simpa using this
    · intro h
      congr 1
      rw [List.length_filter_eq_length_iff]
      intro r hr
      have h3 := mem_allP.1 hr
      exact h r.1.toNat r.2.toNat (by omega) (by omega)
  have hat : ∀ k, k < q.length → (groupAt p l q k = true ↔ ∀ i, i < k → chosenT l q i k = true) := by
    intro k hk
    unfold groupAt knowsI
    rw [isChoiceI_good hq hk, Bool.true_and, List.all_eq_true]
    constructor
    · intro h i hi
      obtain ⟨y, hy⟩ := getSome q i (by omega)
      have := h y (List.mem_of_getElem? (l := q.take k) (i := i) (by rw [List.getElem?_take, if_pos hi]; exact hy))
      unfold chosenT gI
      rw [adj_comm, show q.getD i 0 = y by rw [List.getD_eq_getElem?_getD, hy]; rfl]
      exact this
    · intro h y hy
      obtain ⟨i, hi, e⟩ := List.getElem_of_mem hy
      rw [List.length_take] at hi
      rw [List.getElem_take] at e
      have := h i (by omega)
      unfold chosenT gI at this
      rw [adj_comm, show q.getD i 0 = y by rw [List.getD_eq_getElem?_getD, List.getElem?_eq_getElem (by omega), e]; rfl] at this
      exact this
  by_cases h : ((chooseP l q).length : Int) = waysI q.length 2
  · rw [decide_eq_true h]
    exact isGroupI_of fun k hk => (hat k hk).2 fun i hi => hall.1 h i k hi hk
  · rw [decide_eq_false h]
    cases he : isGroupI p l q with
    | false => rfl
    | true =>
      refine absurd (hall.2 fun i j hij hj => ?_) h
      simp only [isGroupI, List.all_eq_true, List.mem_range] at he
      exact (hat j hj).1 (he j hj) i hij
theorem groups_not {p : Int} {l : PL} {q : List Int} (hq : isChoiceI p q = false) : isGroupI p l q = false := by
  simp only [isChoiceI, List.all_eq_false, List.mem_range] at hq
  obtain ⟨k, hk, h⟩ := hq
  exact isGroupI_no hk (by unfold groupAt; simp only [Bool.not_eq_true] at h; rw [h, Bool.false_and])
def resIsGroup (p : Int) (l : PL) (q : List Int) : Bool × Bool := if isP p l then (isGroupI p l q, true) else (false, false)
end Go.Proofs.Ythpapkfpcijpoaa
/-
  'IsGroup' of the model, by its contract.
-/
namespace Go.Proofs.Ythpapkfpcijpoaa
open Go.RowKit

theorem getD_is {q : List Int} {k : Nat} {x : Int} (h : q[k]? = some x) : q.getD k 0 = x := by rw [List.getD_eq_getElem?_getD, h]; rfl

end Go.Proofs.Ythpapkfpcijpoaa
/-
  THE MODEL's GROUPS OF A SIZE ('spec.trGroups'), by its contract: induction on how many are still to come.
-/
namespace Go.Proofs.Ythpapkfpcijpoaa
open Go.RowKit

theorem candR_set {t : Nat → Nat → Bool} {n : Nat} (hn : n ≤ 12) (q : List Int) (a : Nat) : (candR t n q a).length ≤ 12 := by
  unfold candR
  refine Nat.le_trans (List.length_filter_le _ _) ?_
  simp only [List.length_range']
  omega
theorem lists_candR {t : Nat → Nat → Bool} {n k : Nat} (hn : n ≤ 12) (q : List Int) (a : Nat) : (listsC t k q (candR t n q a)).length ≤ 4096 := by
  have h1 := listsC_length_le t k q (candR t n q a)
  have h2 : 2 ^ (candR t n q a).length ≤ 2 ^ 12 := Nat.pow_le_pow_right (by omega) (candR_set hn q a)
  omega
theorem Try.infoIntsG : (Try.prog.info? 45).map (fun i => (i.zero, i.size, i.bytes)) = some (some (.slice none 0 0), 1, 24) := by kernel_rfl

end Go.Proofs.Ythpapkfpcijpoaa
/-
  'CountGroups': the model's and the program's, by their contracts.
-/
namespace Go.Proofs.Ythpapkfpcijpoaa
open Go.RowKit

theorem friendsT_of {n : Int} {l : PL} (h : isP n l = true) : TiesOf (friendsT l) (adj l) := by
  have hn := isP_range h
  have hl := (isP_list h).2.2.1
  have key : ∀ m, m ≤ l.length → TiesOf (friendsT (l.take m)) (adj (l.take m)) := by
    intro m
    induction m with
    | zero => intro _; exact TiesOf.none
    | succ m ih =>
      intro hm
      obtain ⟨⟨x, y⟩, hx⟩ := getSome l m (by omega)
      have h0 := hl _ (List.mem_of_getElem? hx)
      simp only at h0
      obtain ⟨a, rfl⟩ : ∃ a : Nat, x = a := ⟨x.toNat, by omega⟩
      obtain ⟨b, rfl⟩ : ∃ b : Nat, y = b := ⟨y.toNat, by omega⟩
      rw [List.take_add_one, hx, Option.toList_some, friendsT_snoc, adj_snoc]
      exact (ih (by omega)).with (by omega) (by omega) (by omega)
  have := key l.length (Nat.le_refl _)
  rwa [List.take_length] at this
theorem candR_all (t : Nat → Nat → Bool) (n : Nat) : candR t n [] 0 = List.range n := by
  unfold candR
  rw [List.filter_eq_self.2 (by simp), Nat.sub_zero, List.range_eq_range']
/-- the groups of a size -/
def groupsL (n : Nat) (l : PL) (k : Nat) : List (List Int) := listsC (adj l) k [] (List.range n)
theorem groupsL_few {n : Nat} (hn : n ≤ 12) (l : PL) (k : Nat) : (groupsL n l k).length ≤ 4096 := lists_few (IsSet.people (n := n) (by omega)) (fun b hb => by have := List.mem_range.1 hb; omega)
def resCountGroups (p : Int) (l : PL) (k : Int) : Int × Bool := if isP p l && decide (0 ≤ k ∧ k ≤ 12) then ((groupsL p.toNat l k.toNat).length, true) else (0, false)

end Go.Proofs.Ythpapkfpcijpoaa
/-
  HOW MANY LISTS OF TIED PEOPLE HAVE A PERSON. Nothing here speaks of the program.
-/
namespace Go.Proofs.Ythpapkfpcijpoaa
open Go.RowKit

theorem listsC_told (t : Nat → Nat → Bool) : ∀ (k : Nat) (told : List Int) (cs : List Nat), listsC t k told cs = (listsC t k [] cs).map (told ++ ·) := by
  intro k told cs
  induction h : k + cs.length using Nat.strongRecOn generalizing k told cs with
  | _ n ih =>
    match k, cs with
    | 0, cs => rw [listsC_zero, listsC_zero]; simp
    | k + 1, [] => rw [listsC_nil, listsC_nil]; rfl
    | k + 1, a :: cs =>
      simp only [List.length_cons] at h
      have h0 : (cs.filter (t a)).length ≤ cs.length := List.length_filter_le _ _
      rw [listsC_cons, listsC_cons, List.map_append, ih (k + (cs.filter (t a)).length) (by omega) k (told ++ [(a : Int)]) _ rfl, ih (k + 1 + cs.length) (by omega) (k + 1) told cs rfl,
        ih (k + (cs.filter (t a)).length) (by omega) k ([] ++ [(a : Int)]) _ rfl, List.map_map]
      congr 1
      refine List.map_congr_left fun x _ => ?_
      simp
theorem listsC_len (t : Nat → Nat → Bool) (k : Nat) (told : List Int) (cs : List Nat) : (listsC t k told cs).length = (listsC t k [] cs).length := by rw [listsC_told, List.length_map]
theorem listsC_size (t : Nat → Nat → Bool) : ∀ (k : Nat) (told : List Int) (cs : List Nat), ∀ l ∈ listsC t k told cs, l.length = told.length + k := by
  intro k told cs
  induction h : k + cs.length using Nat.strongRecOn generalizing k told cs with
  | _ n ih =>
    match k, cs with
    | 0, cs => rw [listsC_zero]; simp
    | k + 1, [] => rw [listsC_nil]; simp
    | k + 1, a :: cs =>
      simp only [List.length_cons] at h
      have h0 : (cs.filter (t a)).length ≤ cs.length := List.length_filter_le _ _
      rw [listsC_cons]
      intro l hl
      rcases List.mem_append.1 hl with hl | hl
      · have := ih (k + (cs.filter (t a)).length) (by omega) k _ _ rfl l hl
        simp at this
        omega
      · have := ih (k + 1 + cs.length) (by omega) (k + 1) _ _ rfl l hl
        omega
/-- whom a list has -/
theorem listsC_mem (t : Nat → Nat → Bool) : ∀ (k : Nat) (told : List Int) (cs : List Nat), ∀ l ∈ listsC t k told cs, ∀ x ∈ l, x ∈ told ∨ ∃ b ∈ cs, x = ((b : Nat) : Int) := by
  intro k told cs
  induction h : k + cs.length using Nat.strongRecOn generalizing k told cs with
  | _ n ih =>
    match k, cs with
    | 0, cs => rw [listsC_zero]; intro l hl x hx; simp at hl; subst hl; exact .inl hx
    | k + 1, [] => rw [listsC_nil]; simp
    | k + 1, a :: cs =>
      simp only [List.length_cons] at h
      have h0 : (cs.filter (t a)).length ≤ cs.length := List.length_filter_le _ _
      rw [listsC_cons]
      intro l hl x hx
      rcases List.mem_append.1 hl with hl | hl
      · rcases ih (k + (cs.filter (t a)).length) (by omega) k _ _ rfl l hl x hx with h1 | ⟨b, hb, h1⟩
        · rcases List.mem_append.1 h1 with h1 | h1
          · exact .inl h1
          · simp at h1
            exact .inr ⟨a, by simp, h1⟩
        · exact .inr ⟨b, by simp [(List.mem_filter.1 hb).1], h1⟩
      · rcases ih (k + 1 + cs.length) (by omega) (k + 1) _ _ rfl l hl x hx with h1 | ⟨b, hb, h1⟩
        · exact .inl h1
        · exact .inr ⟨b, by simp [hb], h1⟩
/-- how many lists have a person -/
def hasN (L : List (List Int)) (a : Nat) : Nat := L.countP (hasI · a)
theorem hasN_append (L M : List (List Int)) (a : Nat) : hasN (L ++ M) a = hasN L a + hasN M a := List.countP_append
theorem hasN_none {t : Nat → Nat → Bool} {k : Nat} {told : List Int} {cs : List Nat} {a : Nat} (h0 : (a : Int) ∉ told) (h : a ∉ cs) : hasN (listsC t k told cs) a = 0 := by
  refine List.countP_eq_zero.2 fun l hl hc => ?_
  rcases listsC_mem t k told cs l hl _ (hasI_mem.1 hc) with h1 | ⟨b, hb, h1⟩
  · exact h0 h1
  · have : a = b := by omega
    exact h (this ▸ hb)
theorem hasN_all {t : Nat → Nat → Bool} {k : Nat} {told : List Int} {cs : List Nat} {a : Nat} (h0 : (a : Int) ∈ told) : hasN (listsC t k told cs) a = (listsC t k told cs).length := by
  refine List.countP_eq_length.2 fun l hl => ?_
  rw [listsC_told] at hl
  obtain ⟨m, _, rfl⟩ := List.mem_map.1 hl
  exact hasI_mem.2 (List.mem_append_left _ h0)
theorem hasN_listsC {t : Nat → Nat → Bool} (hsym : ∀ i j, t i j = t j i) {a : Nat} (hirr : t a a = false) : ∀ (k : Nat) (told : List Int) (cs : List Nat),
    cs.Pairwise (· < ·) → a ∈ cs → (a : Int) ∉ told → hasN (listsC t (k + 1) told cs) a = (listsC t k [] (cs.filter (t a))).length := by
  intro k told cs
  induction h : k + cs.length using Nat.strongRecOn generalizing k told cs with
  | _ n ih =>
    intro hs ha h0
    match cs with
    | [] => simp at ha
    | x :: cs =>
      simp only [List.length_cons] at h
      obtain ⟨hx, hs'⟩ := List.pairwise_cons.1 hs
      have hl0 : (cs.filter (t x)).length ≤ cs.length := List.length_filter_le _ _
      rw [listsC_cons, hasN_append]
      by_cases e : x = a
      · subst e
        have hn : x ∉ cs := fun hc => by have := hx x hc; omega
        rw [hasN_all (by simp), hasN_none h0 hn, listsC_len, List.filter_cons_of_neg (by simp [hirr])]
        omega
      · have ha' : a ∈ cs := by rcases List.mem_cons.1 ha with h | h; exact absurd h.symm e; exact h
        have h1 : (a : Int) ∉ told ++ [(x : Int)] := by simp [h0]; omega
        rw [ih (k + cs.length) (by omega) k told cs rfl hs' ha' h0]
        match k with
        | 0 =>
          rw [listsC_zero, listsC_zero, listsC_zero]
          have : hasN [told ++ [(x : Int)]] a = 0 := List.countP_eq_zero.2 fun l hl hc => by
            simp only [List.mem_singleton] at hl
            subst hl
            exact h1 (hasI_mem.1 hc)
          rw [this]
          simp
        | k + 1 =>
          cases hxa : t x a with
          | true =>
            have hax : t a x = true := by rw [hsym, hxa]
            rw [ih (k + (cs.filter (t x)).length) (by omega) k _ _ rfl (hs'.filter _) (List.mem_filter.2 ⟨ha', hxa⟩) h1, List.filter_cons_of_pos hax, listsC_cons, List.length_append, listsC_len t k ([] ++ [(x : Int)])]
            congr 2
            rw [List.filter_filter, List.filter_filter]
            congr 1
            exact List.filter_congr fun b _ => Bool.and_comm _ _
          | false =>
            have hax : ¬ t a x = true := by rw [hsym, hxa]; simp
            rw [hasN_none h1 (fun hc => by have := (List.mem_filter.1 hc).2; simp [hxa] at this), List.filter_cons_of_neg hax]
            omega
end Go.Proofs.Ythpapkfpcijpoaa
/-
  'ThreesAt': the model's and the program's, by their contracts.
-/
namespace Go.Proofs.Ythpapkfpcijpoaa
open Go.RowKit

theorem adj_of {n : Nat} {l : PL} (h : isP n l = true) {a b : Nat} (hab : adj l a b = true) : a < n ∧ b < n ∧ a ≠ b := by
  have hl := (isP_list h).2.2.1
  unfold adj at hab
  simp only [Bool.or_eq_true, List.contains_iff_mem] at hab
  rcases hab with hab | hab
  · have := hl _ hab; simp only at this; omega
  · have := hl _ hab; simp only at this; omega
theorem adj_self {n : Nat} {l : PL} (h : isP n l = true) (a : Nat) : adj l a a = false := by
  cases e : adj l a a with
  | false => rfl
  | true => exact absurd rfl (adj_of h e).2.2
theorem friends_set {n : Nat} {l : PL} (h : isP n l = true) {T : Nat → Nat} (hT : TiesOf T (adj l)) {a : Nat} (ha : a < n) : IsSet (T a) ((List.range n).filter (adj l a)) := by
  have hn := isP_range h
  refine ⟨List.pairwise_lt_range.filter _, fun b hb => by have := List.mem_range.1 (List.mem_filter.1 hb).1; omega, fun b => ?_⟩
  rw [List.mem_filter, List.mem_range]
  by_cases hb : b < 16
  · rw [hT.bit a b (by omega) hb]
    exact ⟨fun e => ⟨(adj_of h e).2.1, e⟩, fun e => e.2⟩
  · have : (T a).testBit b = false := Nat.testBit_lt_two_pow (Nat.lt_of_lt_of_le (hT.lt a (by omega)) (Nat.pow_le_pow_right (n := 2) (i := 16) (by omega) (by omega)))
    rw [this]
    simp
    omega
def threesAtN (n : Nat) (l : PL) (a : Nat) : Nat := hasN (groupsL n l 3) a
theorem threesAt_eq {n : Nat} {l : PL} (h : isP n l = true) {a : Nat} (ha : a < n) : (listsC (adj l) 2 [] ((List.range n).filter (adj l a))).length = threesAtN n l a := by
  unfold threesAtN groupsL
  rw [hasN_listsC (adj_comm l) (adj_self h a) 2 [] _ List.pairwise_lt_range (List.mem_range.2 ha) (by simp)]
def resThreesAt (p : Int) (l : PL) (a : Int) : Int × Bool := if isP p l && isMan p a then (threesAtN p.toNat l a.toNat, true) else (0, false)

end Go.Proofs.Ythpapkfpcijpoaa
/-
  PEOPLE RENAMED, as plain lists and as tables. Nothing here speaks of the program.
-/
namespace Go.Proofs.Ythpapkfpcijpoaa
open Go.RowKit

/-- a list of all p people, each once -/
def isNamingI (p : Int) (q : List Int) : Bool := decide ((q.length : Int) = p) && (q.all (fun x => decide (0 ≤ x ∧ x < p)) && decide q.Nodup)
theorem isNamingI_len {p : Int} {q : List Int} (h : (q.length : Int) ≠ p) : isNamingI p q = false := by simp [isNamingI, h]
theorem isNamingI_bad {p : Int} {q : List Int} {k : Nat} {x : Int} (hx : q[k]? = some x) (h : ¬ (0 ≤ x ∧ x < p)) : isNamingI p q = false := by
  cases he : isNamingI p q with
  | false => rfl
  | true =>
    simp only [isNamingI, Bool.and_eq_true, decide_eq_true_eq, List.all_eq_true] at he
    exact absurd (he.2.1 x (List.mem_of_getElem? hx)) h
theorem isNamingI_dup {p : Int} {q : List Int} {k : Nat} {x : Int} (hx : q[k]? = some x) (h : x ∈ q.take k) : isNamingI p q = false := by
  cases he : isNamingI p q with
  | false => rfl
  | true =>
    simp only [isNamingI, Bool.and_eq_true, decide_eq_true_eq] at he
    have hn := he.2.2
    rw [List.Nodup, List.pairwise_iff_getElem] at hn
    obtain ⟨i, hi, e⟩ := List.getElem_of_mem h
    rw [List.length_take] at hi
    rw [List.getElem_take] at e
    have hk : k < q.length := (List.getElem?_eq_some_iff.1 hx).1
    rw [List.getElem?_eq_getElem hk] at hx
    simp only [Option.some.injEq] at hx
    exact absurd (e.trans hx.symm) (hn i k (by omega) hk (by omega))
theorem isNamingI_of {p : Int} {q : List Int} (hl : (q.length : Int) = p) (h : ∀ (k : Nat) (x : Int), k < q.length → q[k]? = some x → (0 ≤ x ∧ x < p) ∧ x ∉ q.take k) : isNamingI p q = true := by
  simp only [isNamingI, Bool.and_eq_true, decide_eq_true_eq, List.all_eq_true]
  refine ⟨hl, fun x hx => ?_, ?_⟩
  · obtain ⟨i, hi, rfl⟩ := List.getElem_of_mem hx
    exact (h i _ hi (List.getElem?_eq_getElem hi)).1
  · rw [List.Nodup, List.pairwise_iff_getElem]
    intro i j hi hj hij e
    refine (h j _ hj (List.getElem?_eq_getElem hj)).2 ?_
    rw [← e, List.mem_iff_getElem?]
    exact ⟨i, by rw [List.getElem?_take, if_pos hij, List.getElem?_eq_getElem hi]⟩
theorem isNamingI_parts {p : Int} {q : List Int} (h : isNamingI p q = true) : (q.length : Int) = p ∧ (∀ x ∈ q, 0 ≤ x ∧ x < p) ∧ q.Nodup := by
  simp only [isNamingI, Bool.and_eq_true, decide_eq_true_eq, List.all_eq_true] at h
  exact h

theorem nodup_le : ∀ (l m : List Int), l.Nodup → (∀ x ∈ l, x ∈ m) → l.length ≤ m.length
  | [], m, _, _ => Nat.zero_le _
  | a :: l, m, hn, hs => by
    rw [List.nodup_cons] at hn
    have h1 := nodup_le l (m.erase a) hn.2 fun x hx => by
      have hne : x ≠ a := by rintro rfl; exact hn.1 hx
      exact (List.mem_erase_of_ne hne).2 (hs x (List.mem_cons_of_mem _ hx))
    have ha := hs a (List.mem_cons_self ..)
    have h2 := List.length_erase_of_mem ha
    have h3 := List.length_pos_of_mem ha
    rw [List.length_cons]
    omega
theorem naming_all {p : Int} {q : List Int} (h : isNamingI p q = true) {i : Nat} (hi : (i : Int) < p) : (i : Int) ∈ q := by
  obtain ⟨hl, hm, hn⟩ := isNamingI_parts h
  apply Classical.byContradiction
  intro hc
  have := nodup_le ((i : Int) :: q) ((List.range q.length).map fun k : Nat => (k : Int)) (List.nodup_cons.2 ⟨hc, hn⟩) (by
    intro x hx
    rw [List.mem_map]
    rcases List.mem_cons.1 hx with rfl | hx
    · exact ⟨i, by rw [List.mem_range]; omega, rfl⟩
    · have := hm x hx
      exact ⟨x.toNat, by rw [List.mem_range]; omega, by omega⟩)
  rw [List.length_cons, List.length_map, List.length_range] at this
  omega

/-- the name of a person -/
def nameI (q : List Int) (x : Int) : Int := q.getD x.toNat 0
theorem nameI_at {q : List Int} {i : Nat} {x : Int} (hx : q[i]? = some x) : nameI q i = x := by
  unfold nameI
  rw [List.getD_eq_getElem?_getD, Int.toNat_natCast, hx]
  rfl
/-- who has a name -/
def whoI (q : List Int) (i : Nat) : Nat := q.idxOf (i : Int)
theorem whoI_at {q : List Int} (hn : q.Nodup) {a i : Nat} (h : q[a]? = some (i : Int)) : whoI q i = a := by
  have ha : a < q.length := (List.getElem?_eq_some_iff.1 h).1
  rw [List.getElem?_eq_getElem ha] at h
  simp only [Option.some.injEq] at h
  unfold whoI
  rw [← h]
  exact hn.idxOf_getElem a ha
theorem whoI_name {p : Int} {q : List Int} (h : isNamingI p q = true) {i : Nat} (hi : (i : Int) < p) : q[whoI q i]? = some (i : Int) := by
  have hm := naming_all h hi
  unfold whoI
  have hlt := List.idxOf_lt_length_of_mem hm
  rw [List.getElem?_eq_getElem hlt, List.getElem_idxOf]
theorem whoI_lt {p : Int} {q : List Int} (h : isNamingI p q = true) {i : Nat} (hi : (i : Int) < p) : (whoI q i : Int) < p := by
  have := (List.getElem?_eq_some_iff.1 (whoI_name h hi)).1
  have hl := (isNamingI_parts h).1
  omega

/-- the table renamed -/
def namedT (q : List Int) (t : Nat → Nat → Bool) : Nat → Nat → Bool := fun i j => t (whoI q i) (whoI q j)
/-- in the middle of being filled -/
def namedTo (q : List Int) (t : Nat → Nat → Bool) (a b : Nat) : Nat → Nat → Bool := fun i j => if whoI q i < a ∨ whoI q i = a ∧ whoI q j < b then t (whoI q i) (whoI q j) else false
theorem namedTo_start (q : List Int) (t : Nat → Nat → Bool) : namedTo q t 0 0 = fun _ _ => false := by funext i j; simp [namedTo]
theorem namedTo_next {n : Nat} {q : List Int} (h : isNamingI n q = true) (t : Nat → Nat → Bool) {a b x y : Nat} (hx : q[a]? = some (x : Int)) (hy : q[b]? = some (y : Int)) :
    ∀ i j, i < n → j < n → upd (namedTo q t a b) x y (t a b) i j = namedTo q t a (b + 1) i j := by
  intro i j hi hj
  have hn := (isNamingI_parts h).2.2
  unfold upd namedTo
  have ex := whoI_at hn hx
  have ey := whoI_at hn hy
  by_cases hc : i = x ∧ j = y
  · obtain ⟨rfl, rfl⟩ := hc
    rw [if_pos ⟨rfl, rfl⟩, ex, ey, if_pos (by omega)]
  · rw [if_neg hc]
    have hne : ¬ (whoI q i = a ∧ whoI q j = b) := by
      rintro ⟨e1, e2⟩
      have h1 := whoI_name h (i := i) (by omega)
      have h2 := whoI_name h (i := j) (by omega)
      rw [e1, hx] at h1
      rw [e2, hy] at h2
      simp only [Option.some.injEq] at h1 h2
      exact hc ⟨by omega, by omega⟩
    have : (whoI q i < a ∨ whoI q i = a ∧ whoI q j < b) ↔ (whoI q i < a ∨ whoI q i = a ∧ whoI q j < b + 1) := by omega
    simp only [this]
theorem namedTo_row {n : Nat} {q : List Int} (h : isNamingI n q = true) (t : Nat → Nat → Bool) (a : Nat) : ∀ i j, i < n → j < n → namedTo q t a n i j = namedTo q t (a + 1) 0 i j := by
  intro i j hi hj
  have := whoI_lt h (i := j) (by omega)
  unfold namedTo
  have : (whoI q i < a ∨ whoI q i = a ∧ whoI q j < n) ↔ (whoI q i < a + 1 ∨ whoI q i = a + 1 ∧ whoI q j < 0) := by omega
  simp only [this]
theorem namedTo_all {n : Nat} {q : List Int} (h : isNamingI n q = true) (t : Nat → Nat → Bool) : ∀ i j, i < n → j < n → namedTo q t n 0 i j = namedT q t i j := by
  intro i j hi hj
  have := whoI_lt h (i := i) (by omega)
  unfold namedTo namedT
  rw [if_pos (by omega)]

/-! ## Pairs, sorted -/
def pairI (a b : Int) : Int × Int := (min a b, max a b)
def sortP (l : PL) : PL := l.mergeSort fun x y => !pairLess y x
theorem pairLess_plt {a b : Int × Int} : pairLess a b = true ↔ plt a b := by unfold pairLess plt; simp
theorem sortP_perm (l : PL) : (sortP l).Perm l := List.mergeSort_perm _ _
theorem sortP_mem {l : PL} {r : Int × Int} : r ∈ sortP l ↔ r ∈ l := (sortP_perm l).mem_iff
theorem sortP_length (l : PL) : (sortP l).length = l.length := (sortP_perm l).length_eq
theorem sortP_sorted {l : PL} (hn : l.Nodup) : (sortP l).Pairwise plt := by
  have h := List.pairwise_mergeSort (le := fun x y : Int × Int => !pairLess y x) (by
    intro a b c
    simp only [Bool.not_eq_true', ← Bool.not_eq_true, pairLess_plt]
    unfold plt
    omega) (by
    intro a b
    simp only [Bool.or_eq_true, Bool.not_eq_true', ← Bool.not_eq_true, pairLess_plt]
    unfold plt
    omega) l
  have hn' : (sortP l).Nodup := (sortP_perm l).nodup_iff.2 hn
  refine (h.and hn').imp fun {a b} hab => ?_
  obtain ⟨h1, h2⟩ := hab
  simp only [Bool.not_eq_true', ← Bool.not_eq_true, pairLess_plt] at h1
  unfold plt at h1 ⊢
  apply Classical.byContradiction
  intro hc
  exact h2 (Prod.ext (by omega) (by omega))
/-- the pairs of people renamed, as they come -/
def namesP (l : PL) (q : List Int) : PL := l.map fun r => pairI (nameI q r.1) (nameI q r.2)
theorem namesP_snoc (l : PL) (q : List Int) (x y : Int) : namesP (l ++ [(x, y)]) q = namesP l q ++ [pairI (nameI q x) (nameI q y)] := by simp [namesP]
theorem namesP_length (l : PL) (q : List Int) : (namesP l q).length = l.length := by simp [namesP]
theorem name_of {p : Int} {q : List Int} (h : isNamingI p q = true) {x : Int} (hx : 0 ≤ x ∧ x < p) : ∃ i : Nat, nameI q x = i ∧ (i : Int) < p ∧ q[x.toNat]? = some (i : Int) ∧ whoI q i = x.toNat := by
  obtain ⟨hl, hm, hn⟩ := isNamingI_parts h
  obtain ⟨y, hy⟩ := getSome q x.toNat (by omega)
  have h1 := hm y (List.mem_of_getElem? hy)
  have e : ((x.toNat : Nat) : Int) = x := by omega
  have h2 := nameI_at hy
  rw [e] at h2
  refine ⟨y.toNat, by omega, by omega, by rw [hy]; congr 1; omega, whoI_at hn ?_⟩
  rw [hy]
  congr 1
  omega
theorem namesP_nodup {p : Int} {l : PL} {q : List Int} (hp : isP p l = true) (h : isNamingI p q = true) : (namesP l q).Nodup := by
  obtain ⟨_, _, hm, hs⟩ := isP_list hp
  unfold namesP
  rw [List.Nodup, List.pairwise_map]
  refine List.Pairwise.imp_of_mem (fun {r s} hr hs' hlt e => ?_) hs
  have a0 := hm r hr
  have b0 := hm s hs'
  obtain ⟨i1, e1, _, _, w1⟩ := name_of h (x := r.1) (by omega)
  obtain ⟨i2, e2, _, _, w2⟩ := name_of h (x := r.2) (by omega)
  obtain ⟨i3, e3, _, _, w3⟩ := name_of h (x := s.1) (by omega)
  obtain ⟨i4, e4, _, _, w4⟩ := name_of h (x := s.2) (by omega)
  rw [e1, e2, e3, e4] at e
  unfold pairI at e
  simp only [Prod.mk.injEq] at e
  have hc : i1 = i3 ∧ i2 = i4 ∨ i1 = i4 ∧ i2 = i3 := by omega
  unfold plt at hlt
  rcases hc with ⟨c1, c2⟩ | ⟨c1, c2⟩
  · subst c1; subst c2; omega
  · subst c1; subst c2; omega
theorem tabP_named {n : Nat} {l : PL} {q : List Int} (hp : isP n l = true) (h : isNamingI n q = true) : tabP n (namedT q (adj l)) = sortP (namesP l q) := by
  obtain ⟨_, h12, hm, hs⟩ := isP_list hp
  refine sorted_ext (filter_list (by omega) _).2.2.2 (sortP_sorted (namesP_nodup hp h)) fun r => ?_
  unfold tabP
  rw [List.mem_filter, mem_allP, sortP_mem]
  unfold namesP
  rw [List.mem_map]
  constructor
  · rintro ⟨⟨h0, h1, h2⟩, ht⟩
    have w1 := whoI_name h (i := r.1.toNat) (by omega)
    have w2 := whoI_name h (i := r.2.toNat) (by omega)
    unfold namedT adj at ht
    rw [Bool.or_eq_true, List.contains_iff_mem, List.contains_iff_mem] at ht
    rcases ht with ht | ht
    · refine ⟨_, ht, ?_⟩
      simp only
      rw [nameI_at w1, nameI_at w2]
      unfold pairI
      exact Prod.ext (by simp only; omega) (by simp only; omega)
    · refine ⟨_, ht, ?_⟩
      simp only
      rw [nameI_at w1, nameI_at w2]
      unfold pairI
      exact Prod.ext (by simp only; omega) (by simp only; omega)
  · rintro ⟨s, hsl, rfl⟩
    have b0 := hm s hsl
    obtain ⟨i1, e1, l1, _, w1⟩ := name_of h (x := s.1) (by omega)
    obtain ⟨i2, e2, l2, _, w2⟩ := name_of h (x := s.2) (by omega)
    rw [e1, e2]
    have hne : i1 ≠ i2 := by
      rintro rfl
      omega
    unfold pairI namedT adj
    have d1 : ((s.1.toNat : Nat) : Int) = s.1 := by omega
    have d2 : ((s.2.toNat : Nat) : Int) = s.2 := by omega
    rcases Nat.lt_or_ge i1 i2 with hlt | hge
    · have m1 : min (i1 : Int) i2 = i1 := by omega
      have m2 : max (i1 : Int) i2 = i2 := by omega
      rw [m1, m2]
      refine ⟨⟨by simp only; omega, by simp only; omega, by simp only; omega⟩, ?_⟩
      simp only [Int.toNat_natCast, w1, w2, d1, d2, Bool.or_eq_true, List.contains_iff_mem]
      exact .inl hsl
    · have m1 : min (i1 : Int) i2 = i2 := by omega
      have m2 : max (i1 : Int) i2 = i1 := by omega
      rw [m1, m2]
      refine ⟨⟨by simp only; omega, by simp only; omega, by simp only; omega⟩, ?_⟩
      simp only [Int.toNat_natCast, w1, w2, d1, d2, Bool.or_eq_true, List.contains_iff_mem]
      exact .inr hsl
end Go.Proofs.Ythpapkfpcijpoaa
/-
  'AreFriends': the model's and the program's, by their contracts.
-/
namespace Go.Proofs.Ythpapkfpcijpoaa
open Go.RowKit

def areF (l : PL) (a b : Int) : Bool := l.contains (min a b, max a b)
def resAreFriends (p : Int) (l : PL) (a b : Int) : Bool × Bool := if isTwo p l a b then (areF l a b, true) else (false, false)
theorem adj_areF {n : Nat} {l : PL} (h : isP n l = true) {i j : Nat} (hij : i ≠ j) : adj l i j = areF l i j := by
  unfold areF
  rcases Nat.lt_or_gt_of_ne hij with h1 | h1
  · rw [adj_pair h h1, Int.min_eq_left (by omega), Int.max_eq_right (by omega)]
  · rw [adj_comm, adj_pair h h1, Int.min_eq_right (by omega), Int.max_eq_left (by omega)]

end Go.Proofs.Ythpapkfpcijpoaa
/-
  TWO PAIRS EXCHANGED, as plain lists and as tables. Nothing here speaks of the program.
-/
namespace Go.Proofs.Ythpapkfpcijpoaa
open Go.RowKit

/-- four people of p, each one another -/
def fourI (p a b c d : Int) : Bool := decide ((0 ≤ a ∧ a < p) ∧ (0 ≤ b ∧ b < p) ∧ (0 ≤ c ∧ c < p) ∧ (0 ≤ d ∧ d < p) ∧ a ≠ b ∧ a ≠ c ∧ a ≠ d ∧ b ≠ c ∧ b ≠ d ∧ c ≠ d)
theorem fourI_parts {p a b c d : Int} (h : fourI p a b c d = true) : (0 ≤ a ∧ a < p) ∧ (0 ≤ b ∧ b < p) ∧ (0 ≤ c ∧ c < p) ∧ (0 ≤ d ∧ d < p) ∧ a ≠ b ∧ a ≠ c ∧ a ≠ d ∧ b ≠ c ∧ b ≠ d ∧ c ≠ d := of_decide_eq_true h
theorem fourI_not {p a b c d : Int} (h : ¬ ((0 ≤ a ∧ a < p) ∧ (0 ≤ b ∧ b < p) ∧ (0 ≤ c ∧ c < p) ∧ (0 ≤ d ∧ d < p) ∧ a ≠ b ∧ a ≠ c ∧ a ≠ d ∧ b ≠ c ∧ b ≠ d ∧ c ≠ d)) : fourI p a b c d = false := decide_eq_false h
/-- the pairs that can be exchanged -/
def canX (l : PL) (a b c d : Int) : Bool := (areF l a b && areF l c d) && (!areF l a c && !areF l b d)
def exchP (n : Nat) (l : PL) (a b c d : Int) : PL := (allP n).filter fun q => if q = (min b d, max b d) then true else if q = (min a c, max a c) then true else if q = (min c d, max c d) then false else if q = (min a b, max a b) then false else l.contains q
def resExchangePairs (p : Int) (l : PL) (a b c d : Int) : Int × PL × Bool := if isP p l && fourI p a b c d && canX l a b c d then (p, exchP p.toNat l a b c d, true) else (0, [], false)
theorem resExchangePairs_len (p : Int) (l : PL) (a b c d : Int) : (resExchangePairs p l a b c d).2.1.length ≤ 1048576 := by
  unfold resExchangePairs
  split
  · rename_i h
    simp only [Bool.and_eq_true] at h
    have := isP_range h.1.1
    exact Nat.le_trans (filter_length_le (n := p.toNat) (by omega) _) (by omega)
  · simp
/-- a table set at a pair, both ways -/
def upd2 (t : Nat → Nat → Bool) (a b : Nat) (x : Bool) : Nat → Nat → Bool := upd (upd t a b x) b a x
theorem upd2_at {t : Nat → Nat → Bool} {a b : Nat} {x : Bool} {i j : Nat} (hij : i < j) : upd2 t a b x i j = if (((i : Int), (j : Int)) : Int × Int) = (min (a : Int) b, max (a : Int) b) then x else t i j := by
  unfold upd2 upd
  by_cases h1 : i = b ∧ j = a
  · rw [if_pos h1, if_pos]
    simp only [Prod.mk.injEq]
    omega
  · by_cases h2 : i = a ∧ j = b
    · rw [if_neg h1, if_pos h2, if_pos]
      simp only [Prod.mk.injEq]
      omega
    · rw [if_neg h1, if_neg h2, if_neg]
      simp only [Prod.mk.injEq]
      omega
theorem tabP_exch {n : Nat} {l : PL} (h : isP n l = true) (a b c d : Nat) : tabP n (upd2 (upd2 (upd2 (upd2 (adj l) a b false) c d false) a c true) b d true) = exchP n l a b c d := by
  unfold tabP exchP
  refine List.filter_congr fun q hq => ?_
  have hm := mem_allP.1 hq
  obtain ⟨u, v⟩ := q
  obtain ⟨i, rfl⟩ : ∃ i : Nat, u = i := ⟨u.toNat, by simp at hm; omega⟩
  obtain ⟨j, rfl⟩ : ∃ j : Nat, v = j := ⟨v.toNat, by simp at hm; omega⟩
  simp only at hm
  have hij : i < j := by omega
  simp only [Int.toNat_natCast, upd2_at hij, adj_pair h hij]

/-! ## As the program makes them -/
def givenP (a b c d : Int) : PL := [pairI a c, pairI b d]
def takenP (a b c d : Int) : PL := [pairI a b, pairI c d]
def leftP (l : PL) (a b c d : Int) : PL := l.filter fun r => decide (¬ (r = pairI a b ∨ r = pairI c d))
def madeP (l : PL) (a b c d : Int) : PL := givenP a b c d ++ leftP l a b c d
theorem taken_contains (a b c d : Int) (r : Int × Int) : (takenP a b c d).contains r = decide (r = pairI a b ∨ r = pairI c d) := by
  rw [Bool.eq_iff_iff, List.contains_iff_mem]
  simp [takenP]
theorem given_contains (a b c d : Int) (r : Int × Int) : (givenP a b c d).contains r = decide (r = pairI a c ∨ r = pairI b d) := by
  rw [Bool.eq_iff_iff, List.contains_iff_mem]
  simp [givenP]
theorem leftP_snoc (l : PL) (a b c d : Int) (r : Int × Int) : leftP (l ++ [r]) a b c d = leftP l a b c d ++ if (takenP a b c d).contains r then [] else [r] := by
  unfold leftP
  rw [List.filter_append, taken_contains]
  congr 1
  by_cases h : r = pairI a b ∨ r = pairI c d
  · rw [List.filter_cons_of_neg (by simp [h]), if_pos (decide_eq_true h)]
    rfl
  · rw [List.filter_cons_of_pos (by simp [h]), decide_eq_false h]
    rfl
theorem areF_mem {l : PL} {a b : Int} : areF l a b = true ↔ pairI a b ∈ l := by unfold areF pairI; exact List.contains_iff_mem
theorem left_count (l : PL) {a b c d : Int} (hne : pairI a b ≠ pairI c d) : (leftP l a b c d).length + l.count (pairI a b) + l.count (pairI c d) = l.length := by
  unfold leftP
  generalize pairI a b = x at hne ⊢
  generalize pairI c d = y at hne ⊢
  induction l with
  | nil => rfl
  | cons r l ih =>
    by_cases h1 : r = x
    · subst h1
      rw [List.filter_cons_of_neg (by simp), List.count_cons_self, List.count_cons_of_ne hne, List.length_cons]
      omega
    · by_cases h2 : r = y
      · subst h2
        rw [List.filter_cons_of_neg (by simp), List.count_cons_self, List.count_cons_of_ne (Ne.symm hne), List.length_cons]
        omega
      · rw [List.filter_cons_of_pos (by simp [h1, h2]), List.count_cons_of_ne h1, List.count_cons_of_ne h2, List.length_cons, List.length_cons]
        omega
theorem plt_nodup {l : PL} (h : l.Pairwise plt) : l.Nodup := List.Pairwise.imp (fun {x y} hxy e => by subst e; unfold plt at hxy; omega) h
theorem made_len {n : Nat} {l : PL} {a b c d : Int} (hp : isP n l = true) (h4 : fourI n a b c d = true) : (madeP l a b c d).length = l.length ↔ areF l a b = true ∧ areF l c d = true := by
  obtain ⟨_, _, _, hs⟩ := isP_list hp
  have hnd := plt_nodup hs
  have h := fourI_parts h4
  have hne : pairI a b ≠ pairI c d := by unfold pairI; simp only [ne_eq, Prod.mk.injEq]; omega
  have hc := left_count l hne
  have h1 := hnd.count (a := pairI a b)
  have h2 := hnd.count (a := pairI c d)
  have e : (madeP l a b c d).length = 2 + (leftP l a b c d).length := by simp [madeP, givenP]; omega
  rw [e, areF_mem, areF_mem]
  by_cases m1 : pairI a b ∈ l <;> by_cases m2 : pairI c d ∈ l <;> simp only [m1, m2, if_true, if_false] at h1 h2 <;> simp only [m1, m2, and_self, and_true, and_false, iff_true, iff_false] <;> omega
theorem made_sorted {n : Nat} {l : PL} {a b c d : Int} (hp : isP n l = true) (h4 : fourI n a b c d = true) (hac : areF l a c = false) (hbd : areF l b d = false) : sortP (madeP l a b c d) = exchP n l a b c d := by
  obtain ⟨_, _, hm, hs⟩ := isP_list hp
  have h := fourI_parts h4
  have n1 : pairI a c ∉ l := fun hh => by rw [areF_mem.2 hh] at hac; cases hac
  have n2 : pairI b d ∉ l := fun hh => by rw [areF_mem.2 hh] at hbd; cases hbd
  have hnd : (madeP l a b c d).Nodup := by
    unfold madeP
    rw [List.nodup_append]
    refine ⟨?_, (plt_nodup hs).sublist List.filter_sublist, ?_⟩
    · simp only [givenP, List.nodup_cons, List.mem_singleton, List.not_mem_nil, not_false_eq_true, List.nodup_nil, and_true]
      unfold pairI
      simp only [Prod.mk.injEq]
      omega
    · intro x hx y hy e
      subst e
      have hl := (List.mem_filter.1 hy).1
      simp only [givenP, List.mem_cons, List.not_mem_nil, or_false] at hx
      rcases hx with rfl | rfl
      · exact n1 hl
      · exact n2 hl
  refine sorted_ext (sortP_sorted hnd) ((sorted_allP n).filter _) fun r => ?_
  unfold exchP
  rw [sortP_mem, List.mem_filter, mem_allP]
  simp only [madeP, givenP, leftP, List.mem_append, List.mem_cons, List.not_mem_nil, or_false, List.mem_filter, decide_eq_true_eq, not_or]
  constructor
  · rintro ((rfl | rfl) | ⟨hr, h1, h2⟩)
    · refine ⟨by unfold pairI; simp only; omega, ?_⟩
      by_cases e : pairI a c = (min b d, max b d)
      · rw [if_pos e]
      · rw [if_neg e, if_pos (show pairI a c = (min a c, max a c) from rfl)]
    · exact ⟨by unfold pairI; simp only; omega, by rw [if_pos (show pairI b d = (min b d, max b d) from rfl)]⟩
    · refine ⟨hm r hr, ?_⟩
      by_cases e1 : r = (min b d, max b d)
      · rw [if_pos e1]
      · by_cases e2 : r = (min a c, max a c)
        · rw [if_neg e1, if_pos e2]
        · rw [if_neg e1, if_neg e2, if_neg (show ¬ r = (min c d, max c d) from h2), if_neg (show ¬ r = (min a b, max a b) from h1)]
          simpa using hr
  · rintro ⟨_, hr⟩
    by_cases e1 : r = (min b d, max b d)
    · exact .inl (.inr e1)
    · by_cases e2 : r = (min a c, max a c)
      · exact .inl (.inl e2)
      · rw [if_neg e1, if_neg e2] at hr
        by_cases e3 : r = (min c d, max c d)
        · rw [if_pos e3] at hr; cases hr
        · rw [if_neg e3] at hr
          by_cases e4 : r = (min a b, max a b)
          · rw [if_pos e4] at hr; cases hr
          · rw [if_neg e4] at hr
            exact .inr ⟨by simpa using hr, e4, e3⟩
end Go.Proofs.Ythpapkfpcijpoaa
/-
  DERIVED: THE SHELF's CONTRACTS AT THIS DUMP, IN PLAIN WORDS (tools/lay-plain.mjs out of 'YthpapkfpcijpoaaShelfHome.lean', which tools/lay-shelf.mjs wrote): THE SAME DECLARATIONS UNDER THE SAME NAMES: 'import', 'namespace', 'open', 'def', 'theorem' AND NOTHING ELSE: no command of the shelf's: FOR A HAND-IN. Each laying: the table of numbers ('.._ren') and one theorem, a field a fact of the dump's own or the kernel's comparison; each contract: ONE APPLICATION.
-/
namespace Go.Proofs
open Go.Shelf
def Try.cloneI_ren : Go.Shelf.Ren := ⟨fun | 41 => 96 | n => n, fun | 22 => 45 | 23 => 3 | 4 => 4 | n => n, fun | n => n⟩
theorem Try.cloneI : Go.Proofs.SlLaysE0.n41 Try.prog Try.cloneI_ren := {
  mixed := by kernel_rfl
  f41 := ⟨Try.f96.name, by decide, Try.func96.trans (congrArg some (by kernel_rfl))⟩
  t4 := Try.underlying4
  a4 := Try.isAgg4
  z4 := Try.sizeOf4
  v4 := Try.zeroValue4
  t22 := Try.underlying45
  a22 := Try.isAgg45
  z22 := Try.sizeOf45
  v22 := Try.zeroValue45 }
def Try.indexI_ren : Go.Shelf.Ren := ⟨fun | 29 => 74 | n => n, fun | 22 => 45 | 23 => 3 | 3 => 3 | 0 => 0 | 4 => 4 | n => n, fun | n => n⟩
theorem Try.indexI : Go.Proofs.SlLaysN.n29 Try.prog Try.indexI_ren := {
  mixed := by kernel_rfl
  f29 := ⟨Try.f74.name, by decide, Try.func74.trans (congrArg some (by kernel_rfl))⟩
  t0 := Try.underlying0
  a0 := Try.isAgg0
  z0 := Try.sizeOf0
  v0 := Try.zeroValue0
  t3 := Try.underlying3
  a3 := Try.isAgg3
  z3 := Try.sizeOf3
  v3 := Try.zeroValue3
  t4 := Try.underlying4
  a4 := Try.isAgg4
  z4 := Try.sizeOf4
  v4 := Try.zeroValue4
  t22 := Try.underlying45
  a22 := Try.isAgg45
  z22 := Try.sizeOf45
  v22 := Try.zeroValue45
  t23 := Try.underlying3
  a23 := Try.isAgg3
  z23 := Try.sizeOf3
  v23 := Try.zeroValue3 }
def Try.containsI_ren : Go.Shelf.Ren := ⟨fun | 31 => 82 | 29 => 74 | n => n, fun | 22 => 45 | 23 => 3 | 4 => 4 | 3 => 3 | 0 => 0 | n => n, fun | n => n⟩
theorem Try.containsI : Go.Proofs.SlLaysN.n31 Try.prog Try.containsI_ren := {
  mixed := by kernel_rfl
  f29 := ⟨Try.f74.name, by decide, Try.func74.trans (congrArg some (by kernel_rfl))⟩
  f31 := ⟨Try.f82.name, by decide, Try.func82.trans (congrArg some (by kernel_rfl))⟩
  t0 := Try.underlying0
  a0 := Try.isAgg0
  z0 := Try.sizeOf0
  v0 := Try.zeroValue0
  t3 := Try.underlying3
  a3 := Try.isAgg3
  z3 := Try.sizeOf3
  v3 := Try.zeroValue3
  t4 := Try.underlying4
  a4 := Try.isAgg4
  z4 := Try.sizeOf4
  v4 := Try.zeroValue4
  t22 := Try.underlying45
  a22 := Try.isAgg45
  z22 := Try.sizeOf45
  v22 := Try.zeroValue45
  t23 := Try.underlying3
  a23 := Try.isAgg3
  z23 := Try.sizeOf3
  v23 := Try.zeroValue3 }
def Try.maxI_ren : Go.Shelf.Ren := ⟨fun | 37 => 102 | n => n, fun | 22 => 45 | 23 => 3 | 3 => 3 | 4 => 4 | 9 => 9 | 20 => 20 | 0 => 0 | n => n, fun | n => n⟩
theorem Try.maxI : Go.Proofs.SlLaysN.n37 Try.prog Try.maxI_ren := {
  mixed := by kernel_rfl
  f37 := ⟨Try.f102.name, by decide, Try.func102.trans (congrArg some (by kernel_rfl))⟩
  t0 := Try.underlying0
  a0 := Try.isAgg0
  z0 := Try.sizeOf0
  v0 := Try.zeroValue0
  t3 := Try.underlying3
  a3 := Try.isAgg3
  z3 := Try.sizeOf3
  v3 := Try.zeroValue3
  t4 := Try.underlying4
  a4 := Try.isAgg4
  z4 := Try.sizeOf4
  v4 := Try.zeroValue4
  t9 := Try.underlying9
  a9 := Try.isAgg9
  z9 := Try.sizeOf9
  v9 := Try.zeroValue9
  t20 := Try.underlying20
  a20 := Try.isAgg20
  z20 := Try.sizeOf20
  v20 := Try.zeroValue20
  t22 := Try.underlying45
  a22 := Try.isAgg45
  z22 := Try.sizeOf45
  v22 := Try.zeroValue45
  t23 := Try.underlying3
  a23 := Try.isAgg3
  z23 := Try.sizeOf3
  v23 := Try.zeroValue3 }
def Try.minI_ren : Go.Shelf.Ren := ⟨fun | 39 => 101 | n => n, fun | 22 => 45 | 23 => 3 | 3 => 3 | 4 => 4 | 9 => 9 | 20 => 20 | 0 => 0 | n => n, fun | n => n⟩
theorem Try.minI : Go.Proofs.SlLaysN.n39 Try.prog Try.minI_ren := {
  mixed := by kernel_rfl
  f39 := ⟨Try.f101.name, by decide, Try.func101.trans (congrArg some (by kernel_rfl))⟩
  t0 := Try.underlying0
  a0 := Try.isAgg0
  z0 := Try.sizeOf0
  v0 := Try.zeroValue0
  t3 := Try.underlying3
  a3 := Try.isAgg3
  z3 := Try.sizeOf3
  v3 := Try.zeroValue3
  t4 := Try.underlying4
  a4 := Try.isAgg4
  z4 := Try.sizeOf4
  v4 := Try.zeroValue4
  t9 := Try.underlying9
  a9 := Try.isAgg9
  z9 := Try.sizeOf9
  v9 := Try.zeroValue9
  t20 := Try.underlying20
  a20 := Try.isAgg20
  z20 := Try.sizeOf20
  v20 := Try.zeroValue20
  t22 := Try.underlying45
  a22 := Try.isAgg45
  z22 := Try.sizeOf45
  v22 := Try.zeroValue45
  t23 := Try.underlying3
  a23 := Try.isAgg3
  z23 := Try.sizeOf3
  v23 := Try.zeroValue3 }
def Try.sortI_ren : Go.Shelf.Ren := ⟨fun | 6 => 97 | 15 => 110 | 14 => 109 | 28 => 120 | 29 => 121 | 20 => 112 | 21 => 113 | 22 => 114 | 23 => 115 | 24 => 116 | 25 => 117 | 26 => 118 | 27 => 119 | 46 => 122 | 47 => 123 | 48 => 124 | 49 => 125 | 50 => 126 | 57 => 127 | n => n, fun | 22 => 45 | 24 => 3 | 25 => 98 | 3 => 3 | 39 => 109 | 0 => 0 | 53 => 120 | 55 => 122 | 4 => 4 | 46 => 114 | 45 => 113 | 50 => 43 | 5 => 5 | 9 => 9 | 66 => 123 | 70 => 127 | 76 => 129 | 77 => 130 | n => n, fun | n => n⟩
theorem Try.sortI : Go.Proofs.SlLaysF.n6 Try.prog Try.sortI_ren := {
  mixed := by kernel_rfl
  f6 := ⟨Try.f97.name, by decide, Try.func97.trans (congrArg some (by kernel_rfl))⟩
  f14 := ⟨Try.f109.name, by decide, Try.func109.trans (congrArg some (by kernel_rfl))⟩
  f15 := Try.func110.trans (congrArg some (by kernel_rfl))
  f20 := ⟨Try.f112.name, by decide, Try.func112.trans (congrArg some (by kernel_rfl))⟩
  f21 := ⟨Try.f113.name, by decide, Try.func113.trans (congrArg some (by kernel_rfl))⟩
  f22 := ⟨Try.f114.name, by decide, Try.func114.trans (congrArg some (by kernel_rfl))⟩
  f23 := ⟨Try.f115.name, by decide, Try.func115.trans (congrArg some (by kernel_rfl))⟩
  f24 := ⟨Try.f116.name, by decide, Try.func116.trans (congrArg some (by kernel_rfl))⟩
  f25 := ⟨Try.f117.name, by decide, Try.func117.trans (congrArg some (by kernel_rfl))⟩
  f26 := ⟨Try.f118.name, by decide, Try.func118.trans (congrArg some (by kernel_rfl))⟩
  f27 := ⟨Try.f119.name, by decide, Try.func119.trans (congrArg some (by kernel_rfl))⟩
  f28 := Try.func120.trans (congrArg some (by kernel_rfl))
  f29 := Try.func121.trans (congrArg some (by kernel_rfl))
  f46 := ⟨Try.f122.name, by decide, Try.func122.trans (congrArg some (by kernel_rfl))⟩
  f47 := Try.func123.trans (congrArg some (by kernel_rfl))
  f48 := Try.func124.trans (congrArg some (by kernel_rfl))
  f49 := ⟨Try.f125.name, by decide, Try.func125.trans (congrArg some (by kernel_rfl))⟩
  f50 := ⟨Try.f126.name, by decide, Try.func126.trans (congrArg some (by kernel_rfl))⟩
  f57 := ⟨Try.f127.name, by decide, Try.func127.trans (congrArg some (by kernel_rfl))⟩
  t0 := Try.underlying0
  a0 := Try.isAgg0
  z0 := Try.sizeOf0
  v0 := Try.zeroValue0
  t3 := Try.underlying3
  a3 := Try.isAgg3
  z3 := Try.sizeOf3
  v3 := Try.zeroValue3
  t4 := Try.underlying4
  a4 := Try.isAgg4
  z4 := Try.sizeOf4
  v4 := Try.zeroValue4
  t5 := Try.underlying5
  a5 := Try.isAgg5
  z5 := Try.sizeOf5
  v5 := Try.zeroValue5
  t9 := Try.underlying9
  a9 := Try.isAgg9
  z9 := Try.sizeOf9
  v9 := Try.zeroValue9
  t22 := Try.underlying45
  a22 := Try.isAgg45
  z22 := Try.sizeOf45
  v22 := Try.zeroValue45
  a24 := Try.isAgg3
  z24 := Try.sizeOf3
  t25 := Try.underlying98
  a25 := Try.isAgg98
  z25 := Try.sizeOf98
  v25 := Try.zeroValue98
  t39 := Try.underlying109
  a39 := Try.isAgg109
  z39 := Try.sizeOf109
  v39 := Try.zeroValue109
  t45 := Try.underlying113
  a45 := Try.isAgg113
  z45 := Try.sizeOf113
  v45 := Try.zeroValue113
  t46 := Try.underlying114
  a46 := Try.isAgg114
  z46 := Try.sizeOf114
  v46 := Try.zeroValue114
  t50 := Try.underlying43
  a50 := Try.isAgg43
  z50 := Try.sizeOf43
  v50 := Try.zeroValue43
  t53 := Try.underlying120
  a53 := Try.isAgg120
  z53 := Try.sizeOf120
  v53 := Try.zeroValue120
  t55 := Try.underlying122
  a55 := Try.isAgg122
  z55 := Try.sizeOf122
  v55 := Try.zeroValue122
  t66 := Try.underlying123
  a66 := Try.isAgg123
  z66 := Try.sizeOf123
  v66 := Try.zeroValue123
  t70 := Try.underlying127
  a70 := Try.isAgg127
  z70 := Try.sizeOf127
  v70 := Try.zeroValue127
  t76 := Try.underlying129
  a76 := Try.isAgg129
  z76 := Try.sizeOf129
  v76 := Try.zeroValue129
  t77 := Try.underlying130
  a77 := Try.isAgg130
  z77 := Try.sizeOf130
  v77 := Try.zeroValue130 }
end Go.Proofs
/-
  'slices.Contains' at numbers, from the shelf.
-/
namespace Go.Proofs.Ythpapkfpcijpoaa
open Go.RowKit

set_option maxRecDepth 100000 in
theorem containsI_any (q : List Int) (x : Int) (A : Option Addr) (c : Nat) (w : World) (hl : q.length ≤ 1048576) (hA : CRead w w.heap.size A (icells q)) :
    Calls Try.prog 82 #[.slice A q.length c, .int .i64 x] w fun e w' => e = .returned (.bool (hasI q x)) ∧ w = w' := by
  by_cases h0 : q.length = 0
  · have hq : q = [] := List.eq_nil_of_length_eq_zero h0
    subst hq
    have h := AnyG.slices_Contains_int_empty Try.containsI A c x w
    change Calls Try.prog 82 _ _ _ at h
    exact h.mono fun _ _ ⟨he, hw⟩ => ⟨he, hw.symm⟩
  · obtain ⟨b, off, rfl, hb, hc⟩ := hA.ints (by omega)
    have h := AnyG.slices_Contains_int Try.containsI b off q.length c q x w (Nat.le_refl _) (by omega) hc
    rw [List.take_length] at h
    change Calls Try.prog 82 _ _ _ at h
    exact h.mono fun _ _ ⟨he, hw⟩ => ⟨he, hw.symm⟩
end Go.Proofs.Ythpapkfpcijpoaa
/-
  'impl.areDifferent', by its contract.
-/
namespace Go.Proofs.Ythpapkfpcijpoaa
open Go.RowKit

/-- people of p, each one another -/
def diffI (p : Int) (q : List Int) : Bool := q.all (fun x => decide (0 ≤ x ∧ x < p)) && decide q.Nodup
theorem diffI_bad {p : Int} {q : List Int} {k : Nat} {x : Int} (hx : q[k]? = some x) (h : ¬ (0 ≤ x ∧ x < p)) : diffI p q = false := by
  cases he : diffI p q with
  | false => rfl
  | true =>
    simp only [diffI, Bool.and_eq_true, decide_eq_true_eq, List.all_eq_true] at he
    exact absurd (he.1 x (List.mem_of_getElem? hx)) h
theorem diffI_dup {p : Int} {q : List Int} {k : Nat} {x : Int} (hx : q[k]? = some x) (h : x ∈ q.take k) : diffI p q = false := by
  cases he : diffI p q with
  | false => rfl
  | true =>
    simp only [diffI, Bool.and_eq_true, decide_eq_true_eq] at he
    have hn := he.2
    rw [List.Nodup, List.pairwise_iff_getElem] at hn
    obtain ⟨i, hi, e⟩ := List.getElem_of_mem h
    rw [List.length_take] at hi
    rw [List.getElem_take] at e
    have hk : k < q.length := (List.getElem?_eq_some_iff.1 hx).1
    rw [List.getElem?_eq_getElem hk] at hx
    simp only [Option.some.injEq] at hx
    exact absurd (e.trans hx.symm) (hn i k (by omega) hk (by omega))
theorem diffI_of {p : Int} {q : List Int} (h : ∀ (k : Nat) (x : Int), k < q.length → q[k]? = some x → (0 ≤ x ∧ x < p) ∧ x ∉ q.take k) : diffI p q = true := by
  simp only [diffI, Bool.and_eq_true, decide_eq_true_eq, List.all_eq_true]
  constructor
  · intro x hx
    obtain ⟨i, hi, e⟩ := List.getElem_of_mem hx
    exact (h i x hi (by rw [List.getElem?_eq_getElem hi, e])).1
  · rw [List.Nodup, List.pairwise_iff_getElem]
    intro i j hi hj hij e
    refine (h j q[j] hj (List.getElem?_eq_getElem hj)).2 ?_
    rw [List.mem_take_iff_getElem]
    exact ⟨i, by omega, e⟩
theorem diff_four (p a b c d : Int) : diffI p [a, b, c, d] = fourI p a b c d := by
  unfold diffI fourI
  rw [Bool.eq_iff_iff]
  simp only [Bool.and_eq_true, decide_eq_true_eq, List.all_eq_true, List.nodup_cons, List.mem_cons, List.not_mem_nil, or_false, not_or, not_false_eq_true, List.nodup_nil, and_true, forall_eq_or_imp, forall_eq]
  constructor
  · rintro ⟨⟨h1, h2, h3, h4⟩, ⟨e1, e2, e3⟩, ⟨e4, e5⟩, e6⟩
    exact ⟨h1, h2, h3, h4, e1, e2, e3, e4, e5, e6⟩
  · rintro ⟨h1, h2, h3, h4, e1, e2, e3, e4, e5, e6⟩
    exact ⟨⟨h1, h2, h3, h4⟩, ⟨e1, e2, e3⟩, ⟨e4, e5⟩, e6⟩

end Go.Proofs.Ythpapkfpcijpoaa
/-
  COMMON FRIENDS, the program's: how many two people have; their crowd.
-/
namespace Go.Proofs.Ythpapkfpcijpoaa
open Go.RowKit

theorem common_set {n : Nat} {l : PL} (h : isP n l = true) {a b : Nat} (ha : a < n) (hb : b < n) : IsSet (friendsT l a &&& friendsT l b) ((List.range n).filter fun x => adj l a x && adj l b x) := by
  have hn := isP_range h
  have h1 := friends_set h (friendsT_of h) ha
  have h2 := friends_set h (friendsT_of h) hb
  refine ⟨List.pairwise_lt_range.filter _, fun x hx => by have := List.mem_range.1 (List.mem_filter.1 hx).1; omega, fun x => ?_⟩
  rw [Nat.testBit_and, Bool.and_eq_true, h1.mem, h2.mem, List.mem_filter, List.mem_filter, List.mem_filter, Bool.and_eq_true]
  constructor
  · rintro ⟨⟨e1, e2⟩, _, e3⟩; exact ⟨e1, e2, e3⟩
  · rintro ⟨e1, e2, e3⟩; exact ⟨⟨e1, e2⟩, e1, e3⟩
/-- how many common friends two people have -/
def commonN (n : Nat) (t : Nat → Nat → Bool) (a b : Nat) : Nat := ((List.range n).filter fun x => t a x && t b x).length
theorem commonL_len (n : Nat) (t : Nat → Nat → Bool) (a b : Nat) : (commonL n t a b).length = commonN n t a b := by simp [commonL, friendR, commonN]
theorem commonN_le (n : Nat) (t : Nat → Nat → Bool) (a b : Nat) : commonN n t a b ≤ n := by rw [← commonL_len]; exact commonL_le n t a b
theorem commonN_comm (n : Nat) (t : Nat → Nat → Bool) (a b : Nat) : commonN n t a b = commonN n t b a := by rw [← commonL_len, commonL_comm, commonL_len]
theorem diff_two (p a b : Int) : diffI p [a, b] = (isMan p a && isMan p b && decide (a ≠ b)) := by
  unfold diffI isMan
  rw [Bool.eq_iff_iff]
  simp only [Bool.and_eq_true, decide_eq_true_eq, List.all_eq_true, List.nodup_cons, List.mem_cons, List.not_mem_nil, or_false, not_false_eq_true, List.nodup_nil, and_true, forall_eq_or_imp, forall_eq]
set_option maxHeartbeats 4000000 in
set_option maxRecDepth 100000 in
theorem countCommon_any {T : Nat → Nat} {cs : List Nat} {a b : Nat} (hT : ∀ i, i < 12 → T i < 65536) (ha : a < 12) (hb : b < 12) (hcs : IsSet (T a &&& T b) cs) (w : World) :
    Calls Try.prog 55 #[.agg (tcells T), .int .i64 a, .int .i64 b] w fun e w' => e = .returned (.int .i64 cs.length) ∧ Below w.heap.size w w' := by
  have hand := u16_and_nat (T a) (T b) (hT a ha) (hT b hb)
  have call := fun X => onesCount_any hcs X
  simp only [← hand] at call
  obtain ⟨X, hX⟩ : ∃ X, w.alloc (Obj.cells (tcells T) 65) = X := ⟨_, rfl⟩
  have row0 : X.rowIs w.heap.size 65 12 (fun j => .int .u16 (T j)) := by rw [← hX]; exact rowIs_u16 w _ _
  have zX : X.heap.size = w.heap.size + 1 := by rw [← hX]; simp
  have kX : Below w.heap.size w X := by rw [← hX]; go_grown
  have za : ∀ z : Ext X.heap.size X, z.val.cell? ⟨w.heap.size, a, none⟩ = some (.int .u16 (T a)) := fun z => z.cell (row0.cell (i := a) (by omega)) (by omega)
  have zb : ∀ z : Ext X.heap.size X, z.val.cell? ⟨w.heap.size, b, none⟩ = some (.int .u16 (T b)) := fun z => z.cell (row0.cell (i := b) (by omega)) (by omega)
  have ha0 : (0 : Int) ≤ a := by omega
  have ha12 : (a : Int) < 12 := by omega
  have hb0 : (0 : Int) ≤ b := by omega
  have hb12 : (b : Int) < 12 := by omega
  have hta : ((a : Int)).toNat = a := by omega
  have htb : ((b : Int)).toNat = b := by omega
  unfold tcells at hX ⊢
  have HX := Lib.hid hX
  have KX := Lib.hid kX
  have Call := Lib.hid call
  clear hX kX row0 call hand
  go_enter Try.func55, Try.ntmps55
  go_wp2
  rw [HX.out]
  refine wp_region_ext X.heap.size (by kernel_rfl) (by kernel_rfl) ?_
  repeat (go_big_quiet_step ((first
    | (go_at_call 91; exact Calls.ext_of ((Call.out _).mono fun _ _ h => ⟨h.1, h.2.mono (Ext.size _)⟩)))))
  refine wpQuiet_nil ?_
  rintro w5 ⟨⟨_, hb5⟩, rfl⟩
  go_wp2
  go_ret
  exact ⟨rfl, KX.out.trans (hb5.mono KX.out.size)⟩
end Go.Proofs.Ythpapkfpcijpoaa
/-
  LISTS OF LISTS OF NUMBERS, read; the laws' own comparison of two that are equal.
-/
namespace Go.Proofs.Ythpapkfpcijpoaa
open Go.RowKit

/-- a slice of slices of numbers can be read: its headers, and the rows that they name, lie below B -/
def SRead (w : World) (B : Nat) (A : Option Addr) (LL : List (List Int)) : Prop :=
  ∀ i l, LL[i]? = some l → ∃ b off A' c', A = some ⟨b, off, none⟩ ∧ b < B ∧ w.cell? ⟨b, off + i, none⟩ = some (.slice A' l.length c') ∧ CRead w B A' (icells l)
theorem SRead.below {w w' : World} {B B' : Nat} {A : Option Addr} {LL : List (List Int)} (h : SRead w B A LL) (hb : Below B w w') (hB : B ≤ B') : SRead w' B' A LL := by
  intro i l hi
  obtain ⟨b, off, A', c', e, hlt, hc, hr⟩ := h i l hi
  exact ⟨b, off, A', c', e, by omega, carry hb hc hlt, (hr.below hb (Nat.le_refl _)).more hB⟩

set_option maxHeartbeats 2000000 in
set_option maxRecDepth 100000 in
theorem eqIntSS_same (LL : List (List Int)) (A B : Option Addr) (c d : Nat) (w : World) (hl : LL.length ≤ maxLen) (hr : ∀ l ∈ LL, l.length ≤ maxLen)
    (hA : SRead w w.heap.size A LL) (hB : SRead w w.heap.size B LL) :
    Calls Try.prog 18 #[.slice A LL.length c, .slice B LL.length d] w fun e w' => e = .returned (.bool true) ∧ Below w.heap.size w w' := by
  unfold maxLen at hl
  go_enter Try.func18, Try.ntmps18
  go_wp2_with fail
  go_loopw [5] (fun i wr => ∃ k : Nat, k ≤ LL.length ∧ i = .int .i64 k ∧ Below w.heap.size w wr) (fun i _ => LL.length - (intOf i).toNat)
  case atStart => exact ⟨0, Nat.zero_le _, rfl, Below.refl _ _⟩
  case round =>
    obtain ⟨k, hk, rfl, hb⟩ := hrel
    by_cases hlt : k < LL.length
    · obtain ⟨l, hx⟩ := getSome LL k hlt
      obtain ⟨b, off, A1, c1, rfl, hb1, d1, R1⟩ := (hA.below hb hb.size) k l hx
      obtain ⟨b', off', A2, c2, rfl, hb2, d2, R2⟩ := (hB.below hb hb.size) k l hx
      have hll := hr l (List.mem_of_getElem? hx)
      have hki : (k : Int) < (LL.length : Int) := by omega
      clear hx
      go_wp2_with fail
      go_region_law (first | (go_simp; go_at_call 36; refine (eqIntS_any l l A1 A2 c1 c2 wr.drew hll hll (show CRead wr.drew wr.drew.heap.size A1 (icells l) from R1) (show CRead wr.drew wr.drew.heap.size A2 (icells l) from R2)).mono ?_; rw [decide_eq_true rfl]; rintro e w2 ⟨rfl, hb3⟩; have hb4 : Below w.heap.size w w2 := hb.trans ((Below.drew (Below.refl wr.heap.size wr)).trans hb3 |>.mono hb.size)) | fail)
      all_goals (go_wp2_with fail)
      all_goals (go_roundw)
      all_goals first
        | exact ⟨k + 1, by omega, by go_num, hb4⟩
        | (simp [intOf]; omega)
    · have hge : ¬ ((k : Int) < (LL.length : Int)) := by omega
      go_wp2
      go_ret
      exact ⟨rfl, hb⟩
/-- how many numbers lie in the first rows -/
def lens (ns : List Nat) (k : Nat) : Nat := (ns.take k).sum
theorem lens_succ {ns : List Nat} {k n : Nat} (h : ns[k]? = some n) : lens ns (k + 1) = lens ns k + n := by
  unfold lens
  rw [List.take_add_one, h, Option.toList_some, List.sum_append]
  simp
theorem lens_le (ns : List Nat) : ∀ k, lens ns k ≤ ns.sum := by
  intro k
  unfold lens
  have h := congrArg List.sum (List.take_append_drop k ns)
  rw [List.sum_append] at h
  omega
/-- the marks of rows of such lengths, counted on from row to row -/
def rowMarks (k0 : Int) (ns : List Nat) : List (List Int) := (List.range ns.length).map fun i => imarks (k0 + lens ns i) (ns.getD i 0)
theorem rowMarks_length (k0 : Int) (ns : List Nat) : (rowMarks k0 ns).length = ns.length := by simp [rowMarks]
theorem rowMarks_at {k0 : Int} {ns : List Nat} {k n : Nat} (h : ns[k]? = some n) : (rowMarks k0 ns)[k]? = some (imarks (k0 + lens ns k) n) := by
  have hk := (List.getElem?_eq_some_iff.1 h).1
  simp [rowMarks, hk, List.getD_eq_getElem?_getD]
  have := (List.getElem?_eq_some_iff.1 h).2
  rw [this]

set_option maxHeartbeats 2000000 in
set_option maxRecDepth 100000 in
theorem heldIntSS_any (ns : List Nat) (A : Option Addr) (c : Nat) (k0 : Int) (w : World) (hl : ns.length ≤ 1048576) (hs : ns.sum ≤ 1048576) (hk0 : 0 ≤ k0 ∧ k0 ≤ 8388608) (hA : SRead w w.heap.size A (rowMarks k0 ns)) :
    Calls Try.prog 22 #[.slice A ns.length c, .int .i64 k0] w fun e w' => e = .returned (.int .i64 (k0 + ns.sum)) ∧ w = w' := by
  obtain ⟨hk00, hk01⟩ := hk0
  go_enter Try.func22, Try.ntmps22
  go_wp2_with fail
  go_loopw [1, 5] (fun q i wr => ∃ k : Nat, k ≤ ns.length ∧ i = .int .i64 k ∧ q = .int .i64 (k0 + lens ns k) ∧ w = wr) (fun _ i _ => ns.length - (intOf i).toNat)
  case atStart => exact ⟨0, Nat.zero_le _, rfl, by simp [lens], rfl⟩
  case round =>
    obtain ⟨k, hk, rfl, rfl, rfl⟩ := hrel
    have hs1 := lens_le ns k
    by_cases hlt : k < ns.length
    · obtain ⟨n, hx⟩ := getSome ns k hlt
      have hs2 := lens_le ns (k + 1)
      have hsc := lens_succ hx
      obtain ⟨b, off, A1, c1, rfl, hb1, d1, R1⟩ := hA k _ (rowMarks_at hx)
      rw [imarks_length] at d1
      have hki : (k : Int) < (ns.length : Int) := by omega
      have Hsc := Lib.hid hsc
      generalize hm : k0 + (lens ns k : Int) = m at *
      have hm0 : 0 ≤ m := by omega
      have hm1 : m ≤ 16777216 := by omega
      have hnn : n ≤ 1048576 := by omega
      have hneg : ¬ (m + (n : Int) < 0) := by omega
      have Hm := Lib.hid hm
      clear hx hm hsc
      go_wp2_with fail
      refine (heldIntS_any A1 n c1 m _ hnn ⟨hm0, hm1⟩ R1).mono ?_
      rintro e w2 ⟨rfl, rfl⟩
      go_wp2
      go_roundw
      case rel => exact ⟨k + 1, by omega, by go_num, by rw [Hsc.out, ← Hm.out]; congr 1; omega, trivial⟩
      case measure => simp [intOf]; omega
    · have hkl : k = ns.length := by omega
      have hge : ¬ ((k : Int) < (ns.length : Int)) := by omega
      have e : lens ns k = ns.sum := by unfold lens; rw [List.take_of_length_le (by omega)]
      rw [e]
      go_wp2
      go_ret
      exact ⟨rfl, rfl⟩
end Go.Proofs.Ythpapkfpcijpoaa
/-
  A LIST OF LISTS OF NUMBERS OF THE CALL's OWN: its headers a row, each of its rows a row, all in blocks of their own; 'laws.markIntSS' by its contract.
-/
namespace Go.Proofs.Ythpapkfpcijpoaa
open Go.RowKit

theorem own_apart {w : World} {B B' : Nat} {e e' : TypeId} {s s' n n' : Nat} {v v' : Value} {xs xs' : List Value} (h1 : w.ownsRow B e s v n xs) (h2 : w.ownsRow B' e' s' v' n' xs') (hne : e ≠ e') : v.ownBlock = none ∨ v.ownBlock ≠ v'.ownBlock := by
  rcases h1.2 with ⟨rfl, _⟩ | ⟨g, cap, cur, rfl, _, hh, _⟩
  · left; simp [Value.ownBlock]
  · right
    rcases h2.2 with ⟨rfl, _⟩ | ⟨g', cap', cur', rfl, _, hh', _⟩
    · simp [Value.ownBlock]
    · intro e3
      have e4 : g = g' := by simpa [Value.ownBlock] using e3
      subst e4
      rw [hh] at hh'
      injection hh' with h
      injection h with _ ht
      exact hne ht

/-- n rows of numbers, row i under the slice (R i, N i, C i) -/
structure RowsG (w : World) (B : Nat) (v : Value) (n : Nat) (R : Nat → Option Addr) (C N : Nat → Nat) (F : Nat → List Int) : Prop where
  own : w.ownsRow B 45 1 v n ((List.range n).map fun i => Value.slice (R i) (N i) (C i))
  row : ∀ i, i < n → (F i).length = N i ∧ w.ownsRow B 3 1 (.slice (R i) (N i) (C i)) (N i) (icells (F i))
  apart : ∀ i j, i < n → j < n → i ≠ j → (Value.slice (R i) (N i) (C i)).ownBlock = none ∨ (Value.slice (R i) (N i) (C i)).ownBlock ≠ (Value.slice (R j) (N j) (C j)).ownBlock
section
variable {w w' : World} {B n : Nat} {v : Value} {R : Nat → Option Addr} {C N : Nat → Nat} {F F' : Nat → List Int}
theorem RowsG.congr (h : RowsG w B v n R C N F) (e : ∀ i, i < n → F i = F' i) : RowsG w B v n R C N F' :=
  ⟨h.own, fun i hi => by rw [← e i hi]; exact h.row i hi, h.apart⟩
theorem RowsG.kept (h : RowsG w B v n R C N F) (hg : w.grownBy w' none) : RowsG w' B v n R C N F :=
  ⟨h.own.kept hg (by cases v.ownBlock <;> simp), fun i hi => ⟨(h.row i hi).1, (h.row i hi).2.kept hg (by cases (Value.slice (R i) (N i) (C i)).ownBlock <;> simp)⟩, h.apart⟩
/-- another row i of the same length -/
theorem RowsG.set (h : RowsG w B v n R C N F) {k : Nat} (hk : k < n) {l : List Int} (hl : l.length = N k) (hg : w.grownBy w' (Value.slice (R k) (N k) (C k)).ownBlock) (ho : w'.ownsRow B 3 1 (.slice (R k) (N k) (C k)) (N k) (icells l)) :
    RowsG w' B v n R C N (fun i => if i = k then l else F i) := by
  refine ⟨h.own.kept hg (own_apart h.own (h.row k hk).2 (by decide)), fun i hi => ?_, h.apart⟩
  by_cases e : i = k
  · subst e
    simp only [if_true]
    exact ⟨hl, ho⟩
  · simp only [if_neg e]
    exact ⟨(h.row i hi).1, (h.row i hi).2.kept hg (h.apart i k hi hk e)⟩
theorem RowsG.read {A : Option Addr} {c : Nat} {LL : List (List Int)} (h : RowsG w B (.slice A n c) n R C N F) (hn : LL.length = n) (hL : ∀ i l, LL[i]? = some l → F i = l) : SRead w w.heap.size A LL := by
  intro i l hi
  have hin : i < n := by have := (List.getElem?_eq_some_iff.1 hi).1; omega
  obtain ⟨g, rfl⟩ := own_form h.own (by omega)
  obtain ⟨h1, h2⟩ := h.row i hin
  rw [hL i l hi] at h1 h2
  refine ⟨g, 0, R i, C i, rfl, (own_lt h.own).2, ?_, CRead.of_own h2⟩
  rw [Nat.zero_add, h.own.cellAt i (by omega)]
  simp [hin, h1]
end

set_option maxHeartbeats 2000000 in
set_option maxRecDepth 100000 in
theorem markIntSS_any (ns : List Nat) (A : Option Addr) (c : Nat) (k0 : Int) (B : Nat) (R : Nat → Option Addr) (C : Nat → Nat) (F : Nat → List Int) (w : World) (hl : ns.length ≤ 1048576) (hs : ns.sum ≤ 1048576) (hk0 : 0 ≤ k0 ∧ k0 ≤ 8388608) (hB : B ≤ w.heap.size)
    (h : RowsG w B (.slice A ns.length c) ns.length R C (fun i => ns.getD i 0) F) :
    Calls Try.prog 21 #[.slice A ns.length c, .int .i64 k0] w fun e w' => e = .returned (.int .i64 (k0 + ns.sum)) ∧ RowsG w' B (.slice A ns.length c) ns.length R C (fun i => ns.getD i 0) (fun i => imarks (k0 + lens ns i) (ns.getD i 0)) ∧ Below B w w' := by
  obtain ⟨hk00, hk01⟩ := hk0
  go_enter Try.func21, Try.ntmps21
  go_wp2_with fail
  go_loopw [1, 5] (fun q i wr => ∃ k : Nat, k ≤ ns.length ∧ i = .int .i64 k ∧ q = .int .i64 (k0 + lens ns k) ∧ RowsG wr B (.slice A ns.length c) ns.length R C (fun i => ns.getD i 0) (fun i => if i < k then imarks (k0 + lens ns i) (ns.getD i 0) else F i) ∧ Below B w wr) (fun _ i _ => ns.length - (intOf i).toNat)
  case atStart => exact ⟨0, Nat.zero_le _, rfl, by simp [lens], h.congr fun i _ => by rw [if_neg (Nat.not_lt_zero _)], Below.refl _ _⟩
  case round =>
    clear h
    obtain ⟨k, hk, rfl, rfl, hG, hb⟩ := hrel
    have hs1 := lens_le ns k
    have hBr : B ≤ wr.heap.size := Nat.le_trans hB hb.size
    by_cases hlt : k < ns.length
    · obtain ⟨n, hx⟩ := getSome ns k hlt
      have hs2 := lens_le ns (k + 1)
      have hsc := lens_succ hx
      have hgd : ns.getD k 0 = n := by rw [List.getD_eq_getElem?_getD, hx]; rfl
      obtain ⟨g, rfl⟩ := own_form hG.own (by omega)
      have d1 : wr.cell? ⟨g, k, none⟩ = some (.slice (R k) n (C k)) := by
        rw [hG.own.cellAt k (by omega)]
        simp only [List.getElem?_map, List.getElem?_range hlt, Option.map_some, hgd]
      obtain ⟨h1, h2⟩ := hG.row k hlt
      rw [if_neg (Nat.lt_irrefl k)] at h1 h2
      rw [hgd] at h1 h2
      have hki : (k : Int) < (ns.length : Int) := by omega
      have HG := Lib.hid hG
      have Hsc := Lib.hid hsc
      have Hgd := Lib.hid hgd
      generalize hm : k0 + (lens ns k : Int) = m at *
      have hm0 : 0 ≤ m := by omega
      have hm1 : m ≤ 16777216 := by omega
      have hnn : n ≤ 1048576 := by omega
      have Hm := Lib.hid hm
      clear hx hm hsc hG hgd
      go_wp2_with fail
      refine (markIntS_any (F k) (R k) n (C k) m B _ h1 hnn ⟨hm0, hm1⟩ h2).mono ?_
      rintro e w2 ⟨rfl, own2, hg2⟩
      have hb2 := hb.grown hg2 hBr (fun i hi => (h2.lt i hi).1)
      have G2 := Lib.hid ((HG.out.set hlt (l := imarks m n) (by rw [imarks_length]; exact Hgd.out.symm) (by simp only [Hgd.out]; exact hg2) (by simp only [Hgd.out]; exact own2)).congr (F' := fun i => if i < k + 1 then imarks (k0 + lens ns i) (ns.getD i 0) else F i) fun i _ => by
        by_cases e : i = k
        · subst e
          simp only [if_true, if_pos (Nat.lt_succ_self i), Hm.out, Hgd.out]
        · simp only [if_neg e]
          by_cases h3 : i < k
          · simp only [if_pos h3, if_pos (Nat.lt_succ_of_lt h3)]
          · simp only [if_neg h3, if_neg (show ¬ i < k + 1 by omega)])
      clear own2 hg2 h2 h1
      go_wp2
      go_roundw
      case rel => exact ⟨k + 1, by omega, by go_num, by rw [Hsc.out, ← Hm.out]; congr 1; omega, G2.out, hb2⟩
      case measure => simp [intOf]; omega
    · have hkl : k = ns.length := by omega
      have hge : ¬ ((k : Int) < (ns.length : Int)) := by omega
      have e : lens ns k = ns.sum := by unfold lens; rw [List.take_of_length_le (by omega)]
      rw [e]
      have HG := Lib.hid (hG.congr (F' := fun i => imarks (k0 + lens ns i) (ns.getD i 0)) fun i hi => by rw [if_pos (by omega)])
      clear hG
      go_wp2
      go_ret
      exact ⟨rfl, HG.out, hb⟩
end Go.Proofs.Ythpapkfpcijpoaa
/-
  A LIST OF LISTS OF NUMBERS OF THE CALL's OWN: a row of none put behind it, and a number put behind one of its rows.
-/
namespace Go.Proofs.Ythpapkfpcijpoaa
open Go.RowKit

section
variable {w w' w2 : World} {B n : Nat} {v v' : Value} {R : Nat → Option Addr} {C N : Nat → Nat} {F : Nat → List Int}
def upN {α : Type} (f : Nat → α) (k : Nat) (x : α) : Nat → α := fun i => if i = k then x else f i
theorem upN_self {α : Type} (f : Nat → α) (k : Nat) (x : α) : upN f k x k = x := by simp [upN]
theorem upN_ne {α : Type} (f : Nat → α) {k i : Nat} (x : α) (h : i ≠ k) : upN f k x i = f i := by simp [upN, h]
/-- behind an append of one header, nil -/
theorem RowsG.push (h : RowsG w B v n R C N F) (hg : w.grownBy w' v.ownBlock) (ho : w'.ownsRow B 45 1 v' (n + 1) (((List.range n).map fun i => Value.slice (R i) (N i) (C i)) ++ [.slice none 0 0])) :
    RowsG w' B v' (n + 1) (upN R n none) (upN C n 0) (upN N n 0) (upN F n []) := by
  refine ⟨?_, fun i hi => ?_, fun i j hi hj hij => ?_⟩
  · rw [List.range_succ, List.map_append, List.map_singleton, upN_self, upN_self, upN_self]
    rw [List.map_congr_left (g := fun i => Value.slice (R i) (N i) (C i)) fun i hi => by
      have : i ≠ n := by have := List.mem_range.1 hi; omega
      rw [upN_ne _ _ this, upN_ne _ _ this, upN_ne _ _ this]]
    exact ho
  · by_cases e : i = n
    · subst e
      simp only [upN_self]
      exact ⟨rfl, World.ownsRow_nil _ _ _ _⟩
    · simp only [upN_ne _ _ e]
      have hin : i < n := by omega
      exact ⟨(h.row i hin).1, (h.row i hin).2.kept hg (own_apart (h.row i hin).2 h.own (by decide))⟩
  · by_cases e : i = n
    · subst e
      simp only [upN_self]
      left; simp [Value.ownBlock]
    · simp only [upN_ne _ _ e]
      by_cases e2 : j = n
      · subst e2
        simp only [upN_self]
        cases hq : (Value.slice (R i) (N i) (C i)).ownBlock with
        | none => exact .inl rfl
        | some b => right; simp [Value.ownBlock]
      · simp only [upN_ne _ _ e2]
        exact h.apart i j (by omega) (by omega) hij
theorem map_range_set {α : Type} (f : Nat → α) (k : Nat) (x : α) (n : Nat) : ((List.range n).map f).set k x = (List.range n).map (upN f k x) := by
  apply List.ext_getElem (by simp)
  intro j h1 h2
  rw [List.getElem_set]
  simp only [List.getElem_map, List.getElem_range]
  by_cases e : k = j
  · subst e; simp [upN]
  · rw [if_neg e, upN_ne _ _ (fun h => e h.symm)]
/-- behind an append of a number to row k and the store of its header -/
theorem RowsG.grow {g c : Nat} (h : RowsG w B (.slice (some ⟨g, 0, none⟩) n c) n R C N F) {k : Nat} (hk : k < n) {x : Int} {b d : Nat}
    (hg : w.grownBy w2 (Value.slice (R k) (N k) (C k)).ownBlock) (ho : w2.ownsRow B 3 1 (.slice (some ⟨b, 0, none⟩) (N k + 1) d) (N k + 1) (icells (F k) ++ [.int .i64 x]))
    (hat : (Value.slice (R k) (N k) (C k)).ownBlock = some b ∨ b = w.heap.size) :
    RowsG (w2.setCell ⟨g, k, none⟩ (.slice (some ⟨b, 0, none⟩) (N k + 1) d)) B (.slice (some ⟨g, 0, none⟩) n c) n (upN R k (some ⟨b, 0, none⟩)) (upN C k d) (upN N k (N k + 1)) (upN F k (F k ++ [x])) := by
  have own2 := h.own.kept hg (own_apart h.own (h.row k hk).2 (by decide))
  have hst := own2.stored k (.slice (some ⟨b, 0, none⟩) (N k + 1) d)
  have hob : (Value.slice (some ⟨g, 0, none⟩) n c).ownBlock = some g := by simp [Value.ownBlock]
  refine ⟨?_, fun i hi => ?_, fun i j hi hj hij => ?_⟩
  · have h1 := hst.1
    rw [map_range_set] at h1
    rw [List.map_congr_left (g := upN (fun i => Value.slice (R i) (N i) (C i)) k (.slice (some ⟨b, 0, none⟩) (N k + 1) d)) fun i _ => by
      by_cases e : i = k
      · subst e; simp only [upN_self]
      · simp only [upN_ne _ _ e]]
    exact h1
  · by_cases e : i = k
    · subst e
      simp only [upN_self]
      refine ⟨by rw [List.length_append, (h.row i hi).1]; rfl, ?_⟩
      rw [icells_append]
      refine World.ownsRow.kept ho hst.2 ?_
      rw [← hob]
      exact own_apart ho own2 (by decide)
    · simp only [upN_ne _ _ e]
      have hr := (h.row i hi).2.kept hg (h.apart i k hi hk e)
      refine ⟨(h.row i hi).1, hr.kept hst.2 ?_⟩
      rw [← hob]
      exact own_apart hr own2 (by decide)
  · have hlt : ∀ i, i < n → ∀ m, (Value.slice (R i) (N i) (C i)).ownBlock = some m → m < w.heap.size := fun i hi m hm => ((h.row i hi).2.lt m hm).2
    have hbn : (Value.slice (some ⟨b, 0, none⟩) (N k + 1) d).ownBlock = some b := by simp [Value.ownBlock]
    by_cases e : i = k
    · subst e
      simp only [upN_self, upN_ne _ _ (fun h => hij h.symm), hbn]
      right
      intro e2
      rcases hat with h1 | h1
      · rcases h.apart i j hi hj hij with h2 | h2
        · rw [h1] at h2; cases h2
        · exact h2 (h1.trans e2)
      · have := hlt j hj b e2.symm
        omega
    · by_cases e2 : j = k
      · subst e2
        simp only [upN_self, upN_ne _ _ e, hbn]
        cases hq : (Value.slice (R i) (N i) (C i)).ownBlock with
        | none => exact .inl rfl
        | some m =>
          right
          intro e3
          have e4 : m = b := by simpa using e3
          subst e4
          rcases hat with h1 | h1
          · rcases h.apart i j hi hj hij with h2 | h2
            · rw [hq] at h2; cases h2
            · exact h2 (hq.trans h1.symm)
          · have := hlt i hi m hq
            omega
      · simp only [upN_ne _ _ e, upN_ne _ _ e2]
        exact h.apart i j hi hj hij
end
end Go.Proofs.Ythpapkfpcijpoaa
/-
  LISTS OF LISTS OF NUMBERS AS RESULTS: rows of the call's own, apart from each other; what the laws' marking and counting need of them.
-/
namespace Go.Proofs.Ythpapkfpcijpoaa
open Go.RowKit

/-- the rows of a list of lists, each in a block of its own -/
def RowsL (w : World) (B : Nat) (v : Value) (LL : List (List Int)) (R : Nat → Option Addr) (C : Nat → Nat) : Prop :=
  RowsG w B v LL.length R C (fun i => (LL.getD i []).length) (fun i => LL.getD i [])
section
variable {w w' : World} {B n : Nat} {v v' : Value} {R : Nat → Option Addr} {C N : Nat → Nat} {F F' : Nat → List Int} {LL : List (List Int)}
theorem RowsG.below (h : RowsG w B v n R C N F) (hb : Below w.heap.size w w') : RowsG w' B v n R C N F :=
  ⟨own_below h.own hb (Nat.le_refl _), fun i hi => ⟨(h.row i hi).1, own_below (h.row i hi).2 hb (Nat.le_refl _)⟩, h.apart⟩
theorem RowsG.lower {B' : Nat} (h : RowsG w B v n R C N F) (hB : B' ≤ B) : RowsG w B' v n R C N F :=
  ⟨own_lower h.own hB, fun i hi => ⟨(h.row i hi).1, own_lower (h.row i hi).2 hB⟩, h.apart⟩
theorem own_from {e : TypeId} {s m : Nat} {u : Value} {xs : List Value} (h : w.ownsRow B e s u m xs) {x : Value} {lo hi : Nat} (hl : Lies x lo hi) (hB : hi ≤ B) : u.ownBlock = none ∨ u.ownBlock ≠ x.ownBlock := by
  cases e1 : u.ownBlock with
  | none => exact .inl rfl
  | some k =>
    right
    intro e2
    have h1 := (h.lt k e1).1
    have h2 := (hl k e2.symm).2
    omega
theorem RowsG.keptG (h : RowsG w B v n R C N F) {x : Value} {lo hi : Nat} (hg : w.grownBy w' x.ownBlock) (hl : Lies x lo hi) (hB : hi ≤ B) : RowsG w' B v n R C N F :=
  ⟨h.own.kept hg (own_from h.own hl hB), fun i hi => ⟨(h.row i hi).1, (h.row i hi).2.kept hg (own_from (h.row i hi).2 hl hB)⟩, h.apart⟩
theorem RowsL.none (w : World) (B : Nat) : RowsL w B (Value.slice Option.none 0 0) [] (fun _ => Option.none) (fun _ => 0) :=
  ⟨World.ownsRow_nil _ _ _ _, fun _ hi => absurd hi (Nat.not_lt_zero _), fun _ _ hi => absurd hi (Nat.not_lt_zero _)⟩
theorem getD_of {i : Nat} {l : List Int} (h : LL[i]? = some l) : LL.getD i [] = l := by rw [List.getD_eq_getElem?_getD, h]; rfl
theorem RowsL.below (h : RowsL w B v LL R C) (hb : Below w.heap.size w w') : RowsL w' B v LL R C := RowsG.below h hb
theorem RowsL.lower {B' : Nat} (h : RowsL w B v LL R C) (hB : B' ≤ B) : RowsL w B' v LL R C := RowsG.lower h hB
theorem RowsL.keptG (h : RowsL w B v LL R C) {x : Value} {lo hi : Nat} (hg : w.grownBy w' x.ownBlock) (hl : Lies x lo hi) (hB : hi ≤ B) : RowsL w' B v LL R C := RowsG.keptG h hg hl hB
theorem SRead.more {A : Option Addr} {B' : Nat} (h : SRead w B A LL) (hB : B ≤ B') : SRead w B' A LL := by
  intro i l hi
  obtain ⟨b, off, A', c', e, hlt, hc, hr⟩ := h i l hi
  exact ⟨b, off, A', c', e, by omega, hc, hr.more hB⟩
theorem RowsL.read {A : Option Addr} {c : Nat} (h : RowsL w B (.slice A LL.length c) LL R C) : SRead w w.heap.size A LL := RowsG.read h rfl fun _ _ hi => getD_of hi
/-- a row of its own put behind them, and its header -/
theorem RowsL.push (h : RowsL w B v LL R C) {l : List Int} {A : Option Addr} {c : Nat} (hr : w.ownsRow B 3 1 (.slice A l.length c) l.length (icells l))
    (hap : ∀ i, i < LL.length → (Value.slice (R i) (LL.getD i []).length (C i)).ownBlock = Option.none ∨ (Value.slice (R i) (LL.getD i []).length (C i)).ownBlock ≠ (Value.slice A l.length c).ownBlock)
    (hg : w.grownBy w' v.ownBlock) (ho : w'.ownsRow B 45 1 v' (LL.length + 1) (((List.range LL.length).map fun i => Value.slice (R i) (LL.getD i []).length (C i)) ++ [.slice A l.length c])) :
    RowsL w' B v' (LL ++ [l]) (upN R LL.length A) (upN C LL.length c) := by
  have hne : ∀ i, i < LL.length → (LL ++ [l]).getD i [] = LL.getD i [] := fun i hi => by
    rw [List.getD_eq_getElem?_getD, List.getD_eq_getElem?_getD, List.getElem?_append_left hi]
  have heq : (LL ++ [l]).getD LL.length [] = l := by rw [List.getD_eq_getElem?_getD]; simp
  unfold RowsL
  rw [List.length_append, List.length_singleton]
  refine ⟨?_, fun i hi => ?_, fun i j hi hj hij => ?_⟩
  · rw [List.range_succ, List.map_append, List.map_singleton, upN_self, upN_self, heq]
    rw [List.map_congr_left (g := fun i => Value.slice (R i) (LL.getD i []).length (C i)) fun i hi => by
      have := List.mem_range.1 hi
      rw [upN_ne _ _ (by omega), upN_ne _ _ (by omega), hne i this]]
    exact ho
  · by_cases e : i = LL.length
    · subst e
      simp only [upN_self, heq]
      exact ⟨trivial, hr.kept hg (own_apart hr h.own (by decide))⟩
    · have hin : i < LL.length := by omega
      simp only [upN_ne _ _ e, hne i hin]
      exact ⟨trivial, (h.row i hin).2.kept hg (own_apart (h.row i hin).2 h.own (by decide))⟩
  · by_cases e : i = LL.length
    · subst e
      have hjn : j < LL.length := by omega
      simp only [upN_self, upN_ne _ _ (show j ≠ LL.length by omega), heq, hne j hjn]
      cases hq : (Value.slice A l.length c).ownBlock with
      | none => exact .inl rfl
      | some b =>
        right
        intro e2
        rcases hap j hjn with h3 | h3
        · rw [h3] at e2; cases e2
        · rw [hq] at h3; exact h3 e2.symm
    · have hin : i < LL.length := by omega
      by_cases e2 : j = LL.length
      · subst e2
        simp only [upN_self, upN_ne _ _ e, heq, hne i hin]
        exact hap i hin
      · have hjn : j < LL.length := by omega
        simp only [upN_ne _ _ e, upN_ne _ _ e2, hne i hin, hne j hjn]
        exact h.apart i j hin hjn hij
/-- a row made behind a world is apart from the rows of that world -/
theorem RowsL.fresh (h : RowsL w B v LL R C) {x : Value} {lo hi : Nat} (hx : Lies x lo hi) (hlo : w.heap.size ≤ lo) : ∀ i, i < LL.length → (Value.slice (R i) (LL.getD i []).length (C i)).ownBlock = Option.none ∨ (Value.slice (R i) (LL.getD i []).length (C i)).ownBlock ≠ x.ownBlock := by
  intro i hi
  cases e1 : (Value.slice (R i) (LL.getD i []).length (C i)).ownBlock with
  | none => exact .inl rfl
  | some k =>
    right
    intro e2
    have h1 := ((h.row i hi).2.lt k e1).2
    have h2 := (hx k e2.symm).1
    omega
theorem LRows.read {A : Option Addr} {c : Nat} {hs : List Value} (h : LRows w B (.slice A LL.length c) LL hs) : SRead w w.heap.size A LL := by
  intro i l hi
  have hin : i < LL.length := (List.getElem?_eq_some_iff.1 hi).1
  obtain ⟨g, rfl⟩ := own_form h.own (by omega)
  obtain ⟨A', c', e, o⟩ := h.row i l hi
  refine ⟨g, 0, A', c', rfl, (own_lt h.own).2, ?_, CRead.of_own o⟩
  rw [Nat.zero_add, h.own.cellAt i (by omega)]
  exact e
end
/-- how many numbers lie in all rows -/
def sumL (LL : List (List Int)) : Nat := (LL.map List.length).sum
theorem sumL_row {LL : List (List Int)} {l : List Int} (h : l ∈ LL) : l.length ≤ sumL LL := by
  unfold sumL
  induction LL with
  | nil => cases h
  | cons x LL ih =>
    simp only [List.map_cons, List.sum_cons]
    rcases List.mem_cons.1 h with rfl | h
    · omega
    · have := ih h; omega
theorem sumL_le {LL : List (List Int)} {m : Nat} (h : ∀ l ∈ LL, l.length ≤ m) : sumL LL ≤ LL.length * m := by
  unfold sumL
  induction LL with
  | nil => simp
  | cons x LL ih =>
    simp only [List.map_cons, List.sum_cons, List.length_cons]
    have h1 := h x List.mem_cons_self
    have h2 := ih fun l hl => h l (List.mem_cons_of_mem _ hl)
    rw [Nat.add_mul]
    omega
theorem lens_at (LL : List (List Int)) (i : Nat) : (LL.map List.length).getD i 0 = (LL.getD i []).length := by
  rw [List.getD_eq_getElem?_getD, List.getD_eq_getElem?_getD, List.getElem?_map]
  cases LL[i]? <;> rfl
/-- the rows are marked, counted on from k0 -/
def MarkedL (w : World) (B : Nat) (v : Value) (LL : List (List Int)) (k0 : Int) (R : Nat → Option Addr) (C : Nat → Nat) : Prop :=
  RowsG w B v LL.length R C (fun i => (LL.getD i []).length) (fun i => imarks (k0 + lens (LL.map List.length) i) (LL.getD i []).length)
theorem MarkedL.below {w w' : World} {B : Nat} {v : Value} {LL : List (List Int)} {k0 : Int} {R : Nat → Option Addr} {C : Nat → Nat} (h : MarkedL w B v LL k0 R C) (hb : Below w.heap.size w w') : MarkedL w' B v LL k0 R C := RowsG.below h hb
theorem markIntSS_rows (LL : List (List Int)) (A : Option Addr) (c : Nat) (k0 : Int) (B : Nat) (R : Nat → Option Addr) (C : Nat → Nat) (w : World) (hl : LL.length ≤ 1048576) (hs : sumL LL ≤ 1048576) (hk0 : 0 ≤ k0 ∧ k0 ≤ 8388608) (hB : B ≤ w.heap.size)
    (h : RowsL w B (.slice A LL.length c) LL R C) :
    Calls Try.prog 21 #[.slice A LL.length c, .int .i64 k0] w fun e w' => e = .returned (.int .i64 (k0 + sumL LL)) ∧ MarkedL w' B (.slice A LL.length c) LL k0 R C ∧ Below B w w' := by
  have g := markIntSS_any (LL.map List.length) A c k0 B R C (fun i => LL.getD i []) w (by simpa using hl) hs hk0 hB (by simp only [List.length_map, lens_at]; exact h)
  simp only [List.length_map, lens_at] at g
  exact g
theorem heldIntSS_rows (LL : List (List Int)) (A : Option Addr) (c : Nat) (k0 : Int) (B : Nat) (R : Nat → Option Addr) (C : Nat → Nat) (w : World) (hl : LL.length ≤ 1048576) (hs : sumL LL ≤ 1048576) (hk0 : 0 ≤ k0 ∧ k0 ≤ 8388608)
    (h : MarkedL w B (.slice A LL.length c) LL k0 R C) :
    Calls Try.prog 22 #[.slice A LL.length c, .int .i64 k0] w fun e w' => e = .returned (.int .i64 (k0 + sumL LL)) ∧ w = w' := by
  have g := heldIntSS_any (LL.map List.length) A c k0 w (by simpa using hl) hs hk0 (RowsG.read (LL := rowMarks k0 (LL.map List.length)) h (by simp [rowMarks_length]) fun i l hi => by
    have hlt := (List.getElem?_eq_some_iff.1 hi).1
    rw [rowMarks_length, List.length_map] at hlt
    have e := rowMarks_at (k0 := k0) (ns := LL.map List.length) (k := i) (n := (LL.getD i []).length) (by rw [List.getElem?_map, List.getD_eq_getElem?_getD, List.getElem?_eq_getElem hlt]; rfl)
    rw [e] at hi
    exact (Option.some.inj hi))
  simp only [List.length_map] at g
  exact g
/-- A call came back with lists of numbers, and whether it did. -/
def GotRowsOk (w : World) (LL : List (List Int)) (ok : Bool) (e : Ending) (w' : World) : Prop :=
  ∃ A c R C, e = .returned (.tuple #[.slice A LL.length c, .bool ok]) ∧ RowsL w' w.heap.size (.slice A LL.length c) LL R C ∧ Below w.heap.size w w'
/-- the same of the model's: that they can be read is enough -/
def ReadRowsOk (w : World) (LL : List (List Int)) (ok : Bool) (e : Ending) (w' : World) : Prop :=
  ∃ A c, e = .returned (.tuple #[.slice A LL.length c, .bool ok]) ∧ SRead w' w'.heap.size A LL ∧ Below w.heap.size w w'
theorem SRead.nil (w : World) (B : Nat) (A : Option Addr) : SRead w B A [] := fun i l h => by simp at h
end Go.Proofs.Ythpapkfpcijpoaa
/-
  THE TABLE OF COMMON FRIENDS, in lists.
-/
namespace Go.Proofs.Ythpapkfpcijpoaa
open Go.RowKit

theorem Try.infoRowT : (Try.prog.info? 45).map (fun i => (i.zero, i.size, i.bytes)) = some (some (.slice none 0 0), 1, 24) := by kernel_rfl
/-- the first j numbers of a row -/
def tabRow (n : Nat) (t : Nat → Nat → Bool) (a j : Nat) : List Int := (List.range j).map fun b => (commonN n t a b : Int)
theorem tabRow_len (n : Nat) (t : Nat → Nat → Bool) (a j : Nat) : (tabRow n t a j).length = j := by simp [tabRow]
theorem tabRow_succ (n : Nat) (t : Nat → Nat → Bool) (a j : Nat) : tabRow n t a (j + 1) = tabRow n t a j ++ [(commonN n t a j : Int)] := by simp [tabRow, List.range_succ]
/-- the first k rows -/
def tabRows (n : Nat) (t : Nat → Nat → Bool) (k : Nat) : List (List Int) := (List.range k).map fun a => tabRow n t a n
theorem tabRows_len (n : Nat) (t : Nat → Nat → Bool) (k : Nat) : (tabRows n t k).length = k := by simp [tabRows]
theorem tabRows_succ (n : Nat) (t : Nat → Nat → Bool) (k : Nat) : tabRows n t (k + 1) = tabRows n t k ++ [tabRow n t k n] := by simp [tabRows, List.range_succ]
/-- 'CommonTable' -/
def resCommonTable (p : Int) (l : PL) : List (List Int) × Bool := if isP p l then (tabRows p.toNat (adj l) p.toNat, true) else ([], false)
theorem resCommonTable_len (p : Int) (l : PL) : (resCommonTable p l).1.length ≤ 1048576 ∧ sumL (resCommonTable p l).1 ≤ 1048576 := by
  unfold resCommonTable
  split
  · rename_i h
    have hn := isP_range h
    have h1 : (tabRows p.toNat (adj l) p.toNat).length ≤ 12 := by rw [tabRows_len]; omega
    have h2 := sumL_le (LL := tabRows p.toNat (adj l) p.toNat) (m := 12) (fun r hr => by obtain ⟨a, _, rfl⟩ := List.mem_map.1 hr; rw [tabRow_len]; omega)
    show (tabRows p.toNat (adj l) p.toNat).length ≤ _ ∧ sumL (tabRows p.toNat (adj l) p.toNat) ≤ _
    omega
  · simp [sumL]
end Go.Proofs.Ythpapkfpcijpoaa
/-
  ONE NUMBER THAT ALL OF A LIST ARE, in pure terms.
-/
namespace Go.Proofs.Ythpapkfpcijpoaa
open Go.RowKit

/-- one number that all are -/
def onlyI : List Int → Int × Bool
  | [] => (0, false)
  | x :: q => if q.all (fun y => decide (y = x)) then (x, true) else (0, false)
theorem fold_min_le (q : List Int) : ∀ x : Int, q.foldl min x ≤ x ∧ ∀ y ∈ q, q.foldl min x ≤ y := by
  induction q with
  | nil => intro x; exact ⟨Int.le_refl _, fun y hy => by cases hy⟩
  | cons z q ih =>
    intro x
    obtain ⟨h1, h2⟩ := ih (min x z)
    refine ⟨by simp only [List.foldl_cons]; omega, fun y hy => ?_⟩
    rcases List.mem_cons.1 hy with rfl | hy
    · simp only [List.foldl_cons]; omega
    · exact h2 y hy
theorem fold_max_le (q : List Int) : ∀ x : Int, x ≤ q.foldl max x ∧ ∀ y ∈ q, y ≤ q.foldl max x := by
  induction q with
  | nil => intro x; exact ⟨Int.le_refl _, fun y hy => by cases hy⟩
  | cons z q ih =>
    intro x
    obtain ⟨h1, h2⟩ := ih (max x z)
    refine ⟨by simp only [List.foldl_cons]; omega, fun y hy => ?_⟩
    rcases List.mem_cons.1 hy with rfl | hy
    · simp only [List.foldl_cons]; omega
    · exact h2 y hy
theorem fold_same (f : Int → Int → Int) (hf : ∀ x, f x x = x) (x : Int) : ∀ q : List Int, (∀ y ∈ q, y = x) → q.foldl f x = x := by
  intro q
  induction q with
  | nil => intro _; rfl
  | cons z q ih =>
    intro h
    rw [List.foldl_cons, h z List.mem_cons_self, hf]
    exact ih fun y hy => h y (List.mem_cons_of_mem _ hy)
theorem only_minmax (x : Int) (q : List Int) : (Lib.minOf (x :: q) = Lib.maxOf (x :: q)) ↔ (onlyI (x :: q)).2 = true := by
  have e1 : Lib.minOf (x :: q) = q.foldl min x := by simp [Lib.minOf]
  have e2 : Lib.maxOf (x :: q) = q.foldl max x := by simp [Lib.maxOf]
  rw [e1, e2]
  have h1 := fold_min_le q x
  have h2 := fold_max_le q x
  have e3 : (onlyI (x :: q)).2 = q.all (fun y => decide (y = x)) := by simp only [onlyI]; cases h : (q.all fun y => decide (y = x)) <;> rfl
  rw [e3, List.all_eq_true]
  constructor
  · intro h y hy
    have a1 := h1.2 y hy
    have a2 := h2.2 y hy
    exact decide_eq_true (by omega)
  · intro h
    have h' : ∀ y ∈ q, y = x := fun y hy => of_decide_eq_true (h y hy)
    rw [fold_same min (by intro; omega) x q h', fold_same max (by intro; omega) x q h']
theorem onlyI_cons {x : Int} {q : List Int} (h : (onlyI (x :: q)).2 = true) : onlyI (x :: q) = (x, true) := by
  simp only [onlyI] at h ⊢
  by_cases h1 : (q.all fun y => decide (y = x)) = true
  · rw [if_pos h1]
  · rw [if_neg h1] at h; cases h
theorem onlyI_no {q : List Int} (h : (onlyI q).2 = false) : onlyI q = (0, false) := by
  cases q with
  | nil => rfl
  | cons x q =>
    simp only [onlyI] at h ⊢
    by_cases h1 : (q.all fun y => decide (y = x)) = true
    · rw [if_pos h1] at h; cases h
    · rw [if_neg h1]
theorem only_of {q : List Int} (h0 : 0 < q.length) (h : ∀ j, j < q.length → q.getD j 0 = q.getD 0 0) : onlyI q = (q.getD 0 0, true) := by
  cases q with
  | nil => simp at h0
  | cons x q =>
    refine onlyI_cons ?_
    simp only [onlyI]
    rw [if_pos]
    rw [List.all_eq_true]
    intro y hy
    obtain ⟨j, hj⟩ := List.getElem?_of_mem (List.mem_cons_of_mem x hy)
    have := h j (List.getElem?_eq_some_iff.1 hj).1
    rw [List.getD_eq_getElem?_getD, hj] at this
    exact decide_eq_true this
theorem only_not {q : List Int} {k : Nat} (hk : k < q.length) (h : q.getD k 0 ≠ q.getD 0 0) : onlyI q = (0, false) := by
  refine onlyI_no ?_
  cases q with
  | nil => rfl
  | cons x q =>
    simp only [onlyI]
    rw [if_neg]
    rw [List.all_eq_true]
    intro hall
    cases k with
    | zero => exact h rfl
    | succ k =>
      have hk' : k < q.length := by simpa using hk
      have := of_decide_eq_true (hall (q.getD k 0) (by rw [List.getD_eq_getElem?_getD, List.getElem?_eq_getElem hk']; exact List.getElem_mem hk'))
      exact h (by simpa using this)
/-- the one number, -1 if there is none -/
def equalV (q : List Int) : Int := if (onlyI q).2 then (onlyI q).1 else -1
theorem onlyI_mem {q : List Int} (h : (onlyI q).2 = true) : (onlyI q).1 ∈ q := by
  cases q with
  | nil => cases h
  | cons x q => rw [onlyI_cons h]; exact List.mem_cons_self
end Go.Proofs.Ythpapkfpcijpoaa
/-
  slices.Index, Max, Min at ints, by the shelf's contracts.
-/
namespace Go.Proofs.Ythpapkfpcijpoaa
open Go.RowKit

set_option maxRecDepth 100000 in
theorem indexI_any (b off n c : Nat) (zs : List Int) (x : Int) (w : World) (hz : zs.length = n) (hbig : n ≤ 1048576) (hc : ∀ j, j < zs.length → w.cell? ⟨b, off + j, none⟩ = some (.int .i64 (zs.getD j 0))) :
    Calls Try.prog 74 #[.slice (some ⟨b, off, none⟩) n c, .int .i64 x] w fun e w' => e = .returned (.int .i64 (Lib.idxOf zs x)) ∧ w' = w := by
  have h := AnyG.slices_Index_int Try.indexI b off n c zs x w (by omega) (by omega) hc
  rw [List.take_of_length_le (by omega)] at h
  change Calls Try.prog 74 _ _ _ at h
  exact h
theorem indexI_none (a : Option Addr) (c : Nat) (x : Int) (w : World) :
    Calls Try.prog 74 #[.slice a 0 c, .int .i64 x] w fun e w' => e = .returned (.int .i64 (Lib.idxOf [] x)) ∧ w' = w := by
  have h := AnyG.slices_Index_int_empty Try.indexI a c x w
  change Calls Try.prog 74 _ _ _ at h
  exact h
set_option maxRecDepth 100000 in
theorem maxI_any (b off n c : Nat) (zs : List Int) (w : World) (h0 : 0 < n) (hz : zs.length = n) (hbig : n ≤ 1048576) (hc : ∀ j, j < zs.length → w.cell? ⟨b, off + j, none⟩ = some (.int .i64 (zs.getD j 0))) :
    Calls Try.prog 102 #[.slice (some ⟨b, off, none⟩) n c] w fun e w' => e = .returned (.int .i64 (Lib.maxOf zs)) ∧ w' = w := by
  have h := AnyG.slices_Max_int Try.maxI b off n c zs w h0 (by omega) (by omega) hc
  rw [List.take_of_length_le (by omega)] at h
  change Calls Try.prog 102 _ _ _ at h
  exact h
set_option maxRecDepth 100000 in
theorem minI_any (b off n c : Nat) (zs : List Int) (w : World) (h0 : 0 < n) (hz : zs.length = n) (hbig : n ≤ 1048576) (hc : ∀ j, j < zs.length → w.cell? ⟨b, off + j, none⟩ = some (.int .i64 (zs.getD j 0))) :
    Calls Try.prog 101 #[.slice (some ⟨b, off, none⟩) n c] w fun e w' => e = .returned (.int .i64 (Lib.minOf zs)) ∧ w' = w := by
  have h := AnyG.slices_Min_int Try.minI b off n c zs w h0 (by omega) (by omega) hc
  rw [List.take_of_length_le (by omega)] at h
  change Calls Try.prog 101 _ _ _ at h
  exact h
end Go.Proofs.Ythpapkfpcijpoaa
