/-
  Texts put together for the claims of 'ShortestRound' (pack 4): Threes, ThreesAt, Are, Change, Turned, DistP, ShortP, Crowd, PeopleOf, DistI, ShortI, Fof.
-/
import Derived.Test.YtmiecebdkadhbaaDoorShortestRoundP1
import Derived.Test.YtmiecebdkadhbaaDoorShortestRoundP2
import Derived.Test.YtmiecebdkadhbaaDoorShortestRoundP3
import Derived.Deep.RegionHeld3
import Derived.BigQuiet
import Derived.Deep.RegionLaw
/-
  HOW MANY LISTS OF TIED PEOPLE HAVE A PERSON. Nothing here speaks of the program.
-/
namespace Go.Proofs.YtmiecebdkadhbaaDoor
open Go.RowKit

theorem listsC_told (t : Nat → Nat → Bool) : ∀ (k : Nat) (told : List Int) (cs : List Nat), listsC t k told cs = (listsC t k [] cs).map (told ++ ·) := by
  intro k told cs
  induction h : k + cs.length using Nat.strongRecOn generalizing k told cs with
  | _ n ih =>
    match k, cs with
    | 0, cs => rw [listsC_zero, listsC_zero]; simp
    | k + 1, [] => rw [listsC_nil, listsC_nil]; rfl
    | k + 1, a :: cs =>
      simp only [List.length_cons] at h
      have h0 : (cs.filter (t a)).length ≤ cs.length := List.length_filter_le _ _
      rw [listsC_cons, listsC_cons, List.map_append, ih (k + (cs.filter (t a)).length) (by omega) k (told ++ [(a : Int)]) _ rfl, ih (k + 1 + cs.length) (by omega) (k + 1) told cs rfl,
        ih (k + (cs.filter (t a)).length) (by omega) k ([] ++ [(a : Int)]) _ rfl, List.map_map]
      congr 1
      refine List.map_congr_left fun x _ => ?_
      simp
theorem listsC_len (t : Nat → Nat → Bool) (k : Nat) (told : List Int) (cs : List Nat) : (listsC t k told cs).length = (listsC t k [] cs).length := by rw [listsC_told, List.length_map]
theorem listsC_size (t : Nat → Nat → Bool) : ∀ (k : Nat) (told : List Int) (cs : List Nat), ∀ l ∈ listsC t k told cs, l.length = told.length + k := by
  intro k told cs
  induction h : k + cs.length using Nat.strongRecOn generalizing k told cs with
  | _ n ih =>
    match k, cs with
    | 0, cs => rw [listsC_zero]; simp
    | k + 1, [] => rw [listsC_nil]; simp
    | k + 1, a :: cs =>
      simp only [List.length_cons] at h
      have h0 : (cs.filter (t a)).length ≤ cs.length := List.length_filter_le _ _
      rw [listsC_cons]
      intro l hl
      rcases List.mem_append.1 hl with hl | hl
      · have := ih (k + (cs.filter (t a)).length) (by omega) k _ _ rfl l hl
        simp at this
        omega
      · have := ih (k + 1 + cs.length) (by omega) (k + 1) _ _ rfl l hl
        omega
/-- whom a list has -/
theorem listsC_mem (t : Nat → Nat → Bool) : ∀ (k : Nat) (told : List Int) (cs : List Nat), ∀ l ∈ listsC t k told cs, ∀ x ∈ l, x ∈ told ∨ ∃ b ∈ cs, x = ((b : Nat) : Int) := by
  intro k told cs
  induction h : k + cs.length using Nat.strongRecOn generalizing k told cs with
  | _ n ih =>
    match k, cs with
    | 0, cs => rw [listsC_zero]; intro l hl x hx; simp at hl; subst hl; exact .inl hx
    | k + 1, [] => rw [listsC_nil]; simp
    | k + 1, a :: cs =>
      simp only [List.length_cons] at h
      have h0 : (cs.filter (t a)).length ≤ cs.length := List.length_filter_le _ _
      rw [listsC_cons]
      intro l hl x hx
      rcases List.mem_append.1 hl with hl | hl
      · rcases ih (k + (cs.filter (t a)).length) (by omega) k _ _ rfl l hl x hx with h1 | ⟨b, hb, h1⟩
        · rcases List.mem_append.1 h1 with h1 | h1
          · exact .inl h1
          · simp at h1
            exact .inr ⟨a, by simp, h1⟩
        · exact .inr ⟨b, by simp [(List.mem_filter.1 hb).1], h1⟩
      · rcases ih (k + 1 + cs.length) (by omega) (k + 1) _ _ rfl l hl x hx with h1 | ⟨b, hb, h1⟩
        · exact .inl h1
        · exact .inr ⟨b, by simp [hb], h1⟩
/-- how many lists have a person -/
def hasN (L : List (List Int)) (a : Nat) : Nat := L.countP (hasI · a)
theorem hasN_append (L M : List (List Int)) (a : Nat) : hasN (L ++ M) a = hasN L a + hasN M a := List.countP_append
theorem hasN_none {t : Nat → Nat → Bool} {k : Nat} {told : List Int} {cs : List Nat} {a : Nat} (h0 : (a : Int) ∉ told) (h : a ∉ cs) : hasN (listsC t k told cs) a = 0 := by
  refine List.countP_eq_zero.2 fun l hl hc => ?_
  rcases listsC_mem t k told cs l hl _ (hasI_mem.1 hc) with h1 | ⟨b, hb, h1⟩
  · exact h0 h1
  · have : a = b := by omega
    exact h (this ▸ hb)
theorem hasN_all {t : Nat → Nat → Bool} {k : Nat} {told : List Int} {cs : List Nat} {a : Nat} (h0 : (a : Int) ∈ told) : hasN (listsC t k told cs) a = (listsC t k told cs).length := by
  refine List.countP_eq_length.2 fun l hl => ?_
  rw [listsC_told] at hl
  obtain ⟨m, _, rfl⟩ := List.mem_map.1 hl
  exact hasI_mem.2 (List.mem_append_left _ h0)
theorem hasN_listsC {t : Nat → Nat → Bool} (hsym : ∀ i j, t i j = t j i) {a : Nat} (hirr : t a a = false) : ∀ (k : Nat) (told : List Int) (cs : List Nat),
    cs.Pairwise (· < ·) → a ∈ cs → (a : Int) ∉ told → hasN (listsC t (k + 1) told cs) a = (listsC t k [] (cs.filter (t a))).length := by
  intro k told cs
  induction h : k + cs.length using Nat.strongRecOn generalizing k told cs with
  | _ n ih =>
    intro hs ha h0
    match cs with
    | [] => simp at ha
    | x :: cs =>
      simp only [List.length_cons] at h
      obtain ⟨hx, hs'⟩ := List.pairwise_cons.1 hs
      have hl0 : (cs.filter (t x)).length ≤ cs.length := List.length_filter_le _ _
      rw [listsC_cons, hasN_append]
      by_cases e : x = a
      · subst e
        have hn : x ∉ cs := fun hc => by have := hx x hc; omega
        rw [hasN_all (by simp), hasN_none h0 hn, listsC_len, List.filter_cons_of_neg (by simp [hirr])]
        omega
      · have ha' : a ∈ cs := by rcases List.mem_cons.1 ha with h | h; exact absurd h.symm e; exact h
        have h1 : (a : Int) ∉ told ++ [(x : Int)] := by simp [h0]; omega
        rw [ih (k + cs.length) (by omega) k told cs rfl hs' ha' h0]
        match k with
        | 0 =>
          rw [listsC_zero, listsC_zero, listsC_zero]
          have : hasN [told ++ [(x : Int)]] a = 0 := List.countP_eq_zero.2 fun l hl hc => by
            simp only [List.mem_singleton] at hl
            subst hl
            exact h1 (hasI_mem.1 hc)
          rw [this]
          simp
        | k + 1 =>
          cases hxa : t x a with
          | true =>
            have hax : t a x = true := by rw [hsym, hxa]
            rw [ih (k + (cs.filter (t x)).length) (by omega) k _ _ rfl (hs'.filter _) (List.mem_filter.2 ⟨ha', hxa⟩) h1, List.filter_cons_of_pos hax, listsC_cons, List.length_append, listsC_len t k ([] ++ [(x : Int)])]
            congr 2
            rw [List.filter_filter, List.filter_filter]
            congr 1
            exact List.filter_congr fun b _ => Bool.and_comm _ _
          | false =>
            have hax : ¬ t a x = true := by rw [hsym, hxa]; simp
            rw [hasN_none h1 (fun hc => by have := (List.mem_filter.1 hc).2; simp [hxa] at this), List.filter_cons_of_neg hax]
            omega
end Go.Proofs.YtmiecebdkadhbaaDoor
/-
  'ThreesAt': the model's and the program's, by their contracts.
-/
namespace Go.Proofs.YtmiecebdkadhbaaDoor
open Go.RowKit

theorem adj_of {n : Nat} {l : PL} (h : isP n l = true) {a b : Nat} (hab : adj l a b = true) : a < n ∧ b < n ∧ a ≠ b := by
  have hl := (isP_list h).2.2.1
  unfold adj at hab
  simp only [Bool.or_eq_true, List.contains_iff_mem] at hab
  rcases hab with hab | hab
  · have := hl _ hab; simp only at this; omega
  · have := hl _ hab; simp only at this; omega
theorem adj_self {n : Nat} {l : PL} (h : isP n l = true) (a : Nat) : adj l a a = false := by
  cases e : adj l a a with
  | false => rfl
  | true => exact absurd rfl (adj_of h e).2.2
theorem friends_set {n : Nat} {l : PL} (h : isP n l = true) {T : Nat → Nat} (hT : TiesOf T (adj l)) {a : Nat} (ha : a < n) : IsSet (T a) ((List.range n).filter (adj l a)) := by
  have hn := isP_range h
  refine ⟨List.pairwise_lt_range.filter _, fun b hb => by have := List.mem_range.1 (List.mem_filter.1 hb).1; omega, fun b => ?_⟩
  rw [List.mem_filter, List.mem_range]
  by_cases hb : b < 16
  · rw [hT.bit a b (by omega) hb]
    exact ⟨fun e => ⟨(adj_of h e).2.1, e⟩, fun e => e.2⟩
  · have : (T a).testBit b = false := Nat.testBit_lt_two_pow (Nat.lt_of_lt_of_le (hT.lt a (by omega)) (Nat.pow_le_pow_right (n := 2) (i := 16) (by omega) (by omega)))
    rw [this]
    simp
    omega
def threesAtN (n : Nat) (l : PL) (a : Nat) : Nat := hasN (groupsL n l 3) a
theorem threesAt_eq {n : Nat} {l : PL} (h : isP n l = true) {a : Nat} (ha : a < n) : (listsC (adj l) 2 [] ((List.range n).filter (adj l a))).length = threesAtN n l a := by
  unfold threesAtN groupsL
  rw [hasN_listsC (adj_comm l) (adj_self h a) 2 [] _ List.pairwise_lt_range (List.mem_range.2 ha) (by simp)]
def resThreesAt (p : Int) (l : PL) (a : Int) : Int × Bool := if isP p l && isMan p a then (threesAtN p.toNat l a.toNat, true) else (0, false)

end Go.Proofs.YtmiecebdkadhbaaDoor
/-
  'AreFriends': the model's and the program's, by their contracts.
-/
namespace Go.Proofs.YtmiecebdkadhbaaDoor
open Go.RowKit

def areF (l : PL) (a b : Int) : Bool := l.contains (min a b, max a b)
def resAreFriends (p : Int) (l : PL) (a b : Int) : Bool × Bool := if isTwo p l a b then (areF l a b, true) else (false, false)
theorem adj_areF {n : Nat} {l : PL} (h : isP n l = true) {i j : Nat} (hij : i ≠ j) : adj l i j = areF l i j := by
  unfold areF
  rcases Nat.lt_or_gt_of_ne hij with h1 | h1
  · rw [adj_pair h h1, Int.min_eq_left (by omega), Int.max_eq_right (by omega)]
  · rw [adj_comm, adj_pair h h1, Int.min_eq_right (by omega), Int.max_eq_left (by omega)]

end Go.Proofs.YtmiecebdkadhbaaDoor
/-
  'AddPair' and 'DropPair': the model's, by its contract.
-/
namespace Go.Proofs.YtmiecebdkadhbaaDoor
open Go.RowKit

/-- the pairs of a party in which one pair's friendship is set -/
def changed (n : Nat) (l : PL) (a b : Int) (x : Bool) : PL := (allP n).filter fun q => if q = (min a b, max a b) then x else l.contains q
def resChange (x : Bool) (p : Int) (l : PL) (a b : Int) : Int × PL × Bool := if isTwo p l a b = true ∧ areF l a b = !x then (p, changed p.toNat l a b x, true) else (0, [], false)
theorem resChange_len (x : Bool) (p : Int) (l : PL) (a b : Int) : (resChange x p l a b).2.1.length ≤ 1048576 := by
  unfold resChange
  split
  · rename_i h
    have := isP_range (isTwo_parts h.1).1
    exact Nat.le_trans (filter_length_le (n := p.toNat) (by omega) _) (by omega)
  · simp
def resAddPair := resChange true
def resDropPair := resChange false
theorem resAddPair_len (p : Int) (l : PL) (a b : Int) : (resAddPair p l a b).2.1.length ≤ 1048576 := resChange_len _ _ _ _ _
theorem resDropPair_len (p : Int) (l : PL) (a b : Int) : (resDropPair p l a b).2.1.length ≤ 1048576 := resChange_len _ _ _ _ _
theorem tabP_changed {n : Nat} {l : PL} (h : isP n l = true) {a b : Nat} (_hab : a ≠ b) (x : Bool) : tabP n (upd (upd (adj l) a b x) b a x) = changed n l a b x := by
  unfold tabP changed
  refine List.filter_congr fun q hq => ?_
  have hm := mem_allP.1 hq
  obtain ⟨u, v⟩ := q
  obtain ⟨i, rfl⟩ : ∃ i : Nat, u = i := ⟨u.toNat, by simp at hm; omega⟩
  obtain ⟨j, rfl⟩ : ∃ j : Nat, v = j := ⟨v.toNat, by simp at hm; omega⟩
  simp only at hm
  have hij : i < j := by omega
  simp only [Int.toNat_natCast, upd, adj_pair h hij]
  by_cases h1 : i = b ∧ j = a
  · rw [if_pos h1, if_pos]
    simp only [Prod.mk.injEq]
    omega
  · by_cases h2 : i = a ∧ j = b
    · rw [if_neg h1, if_pos h2, if_pos]
      simp only [Prod.mk.injEq]
      omega
    · rw [if_neg h1, if_neg h2, if_neg]
      simp only [Prod.mk.injEq]
      omega

end Go.Proofs.YtmiecebdkadhbaaDoor
/-
  The program's 'turned', by its contract.
-/
namespace Go.Proofs.YtmiecebdkadhbaaDoor
open Go.RowKit

def flipM (x y : Int) (m : Int × Int × Bool) : Int × Int × Bool := if m.1 = x ∧ m.2.1 = y then (m.1, m.2.1, !m.2.2) else m
def flipTo (x y : Int) (l : ML) (k : Nat) : ML := (l.take k).map (flipM x y) ++ l.drop k
theorem flipTo_start (x y : Int) (l : ML) : flipTo x y l 0 = l := by simp [flipTo]
theorem flipTo_all (x y : Int) (l : ML) : flipTo x y l l.length = l.map (flipM x y) := by simp [flipTo]
theorem flipTo_length (x y : Int) (l : ML) (k : Nat) : (flipTo x y l k).length = l.length := by simp [flipTo]; omega
theorem flipTo_at {x y : Int} {l : ML} {k : Nat} {m : Int × Int × Bool} (h : l[k]? = some m) : (flipTo x y l k)[k]? = some m := by
  have hk := (List.getElem?_eq_some_iff.1 h).1
  unfold flipTo
  rw [List.getElem?_append_right (by simp; omega)]
  simp only [List.length_map, List.length_take, List.getElem?_drop]
  rw [← h]
  congr 1
  omega
theorem flipTo_next {x y : Int} {l : ML} {k : Nat} {m : Int × Int × Bool} (h : l[k]? = some m) : flipTo x y l (k + 1) = (flipTo x y l k).set k (flipM x y m) := by
  have hk := (List.getElem?_eq_some_iff.1 h).1
  unfold flipTo
  have e : l.drop k = m :: l.drop (k + 1) := by
    rw [List.drop_eq_getElem_cons hk]
    congr 1
    exact (List.getElem?_eq_some_iff.1 h).2
  rw [List.take_add_one, h, Option.toList_some, List.map_append, e, List.set_append_right _ _ (by simp; omega)]
  have e2 : k - ((l.take k).map (flipM x y)).length = 0 := by simp; omega
  rw [e2]
  simp
theorem set_same {l : ML} {k : Nat} {m : Int × Int × Bool} (h : l[k]? = some m) : l.set k m = l := by
  have hk := (List.getElem?_eq_some_iff.1 h).1
  rw [← (List.getElem?_eq_some_iff.1 h).2]
  exact List.set_getElem_self hk
theorem mcells_set : ∀ {l : ML} {k : Nat} {x y : Int} {f : Bool} (_ : l[k]? = some (x, y, f)) (u : Bool), (mcells l).set (k * 3 + 2) (.bool u) = mcells (l.set k (x, y, u))
  | [], k, x, y, f, h, u => by simp at h
  | m :: l, 0, x, y, f, h, u => by
    simp at h
    subst h
    rfl
  | (a, b, t) :: l, k + 1, x, y, f, h, u => by
    have h' : l[k]? = some (x, y, f) := by simpa using h
    have e : (k + 1) * 3 + 2 = (k * 3 + 2) + 3 := by omega
    rw [e]
    show Value.int .i64 a :: Value.int .i64 b :: Value.bool t :: (mcells l).set (k * 3 + 2) (.bool u) = _
    rw [mcells_set h' u]
    rfl
def flipped (n : Nat) (l : PL) (x y : Int) : PL := (allP n).filter fun q => if q.1 = x ∧ q.2 = y then !l.contains q else l.contains q
theorem taken_flip (x y : Int) (l qs : PL) : taken (fun b => b) ((meets l qs).map (flipM x y)) = qs.filter fun q => if q.1 = x ∧ q.2 = y then !l.contains q else l.contains q := by
  induction qs with
  | nil => rfl
  | cons q qs ih =>
    have e : meets l (q :: qs) = (q.1, q.2, l.contains q) :: meets l qs := rfl
    unfold taken at ih ⊢
    rw [e, List.map_cons]
    by_cases h : q.1 = x ∧ q.2 = y
    · have e2 : flipM x y (q.1, q.2, l.contains q) = (q.1, q.2, !l.contains q) := by simp [flipM, h]
      rw [e2]
      cases hc : l.contains q with
      | false =>
        rw [List.filter_cons_of_pos (by rfl), List.filter_cons_of_pos (by show (if _ then _ else _) = true; rw [if_pos h, hc]; rfl), List.map_cons, ih]
      | true =>
        rw [List.filter_cons_of_neg (by simp), List.filter_cons_of_neg (by show ¬ (if _ then _ else _) = true; rw [if_pos h, hc]; decide), ih]
    · have e2 : flipM x y (q.1, q.2, l.contains q) = (q.1, q.2, l.contains q) := by simp [flipM, h]
      rw [e2]
      cases hc : l.contains q with
      | false =>
        rw [List.filter_cons_of_neg (by simp), List.filter_cons_of_neg (by show ¬ (if _ then _ else _) = true; rw [if_neg h, hc]; decide), ih]
      | true =>
        rw [List.filter_cons_of_pos (by rfl), List.filter_cons_of_pos (by show (if _ then _ else _) = true; rw [if_neg h, hc]), List.map_cons, ih]

set_option maxHeartbeats 2000000 in
set_option maxRecDepth 100000 in
theorem turned_any (p : Int) (l : PL) (A : Option Addr) (c : Nat) (x y : Int) (w : World) (hp : isP p l = true) (hA : CRead w w.heap.size A (pcells l)) :
    Calls Tryd.prog 70 #[.agg #[.int .i64 p, .slice A l.length c], .agg #[.int .i64 x, .int .i64 y]] w (GotParty w p (flipped p.toNat l x y)) := by
  have hn := isP_range hp
  have hml : (meets l (allP p.toNat)).length ≤ 1000 := by rw [meets_length]; have := allP_length_le (n := p.toNat) (by omega); omega
  have hfl : flipped p.toNat l x y = taken (fun b => b) ((meets l (allP p.toNat)).map (flipM x y)) := (taken_flip x y l (allP p.toNat)).symm
  rw [hfl]
  have hgot := fun W h => meetingsOf_any p l A c W hp h
  generalize meets l (allP p.toNat) = M at hml hgot
  have Hgot := Lib.hid hgot
  clear hp hfl hgot
  go_enter Tryd.func70, Tryd.ntmps70
  go_wp2_with fail
  have hs2 : ((w.alloc (Obj.cells #[.int .i64 p, .slice A l.length c] 31)).alloc (Obj.cells #[.int .i64 x, .int .i64 y] 78)).heap.size = w.heap.size + 1 + 1 := by simp
  generalize hW2 : (w.alloc (Obj.cells #[.int .i64 p, .slice A l.length c] 31)).alloc (Obj.cells #[.int .i64 x, .int .i64 y] 78) = W2 at hs2
  generalize hW : W2.alloc (Obj.cells #[.int .i64 0, .slice none 0 0] 31) = W0
  have w0 : W0.cell? ⟨w.heap.size, 0, none⟩ = some (.int .i64 p) := by rw [← hW, World.cell?_alloc_lt _ _ _ (by rw [hs2]; show w.heap.size < _; omega), ← hW2]; simp
  have w1' : W0.cell? ⟨w.heap.size, 1, none⟩ = some (.slice A l.length c) := by rw [← hW, World.cell?_alloc_lt _ _ _ (by rw [hs2]; show w.heap.size < _; omega), ← hW2]; simp
  have w2 : W0.cell? ⟨w.heap.size + 1, 0, none⟩ = some (.int .i64 x) := by rw [← hW, World.cell?_alloc_lt _ _ _ (by rw [hs2]; show w.heap.size + 1 < _; omega), ← hW2]; simp
  have w3 : W0.cell? ⟨w.heap.size + 1, 1, none⟩ = some (.int .i64 y) := by rw [← hW, World.cell?_alloc_lt _ _ _ (by rw [hs2]; show w.heap.size + 1 < _; omega), ← hW2]; simp
  have w4 : W0.cell? ⟨w.heap.size + 1 + 1, 0, none⟩ = some (.int .i64 0) := by rw [← hW, ← hs2]; simp
  have w5 : W0.cell? ⟨w.heap.size + 1 + 1, 1, none⟩ = some (.slice none 0 0) := by rw [← hW, ← hs2]; simp
  have w6 : W0.frozen? ⟨w.heap.size + 1 + 1, 0, none⟩ = false := by rw [← hW, ← hs2]; simp
  have w7 : W0.frozen? ⟨w.heap.size + 1 + 1, 1, none⟩ = false := by rw [← hW, ← hs2]; simp
  have k0 : Below w.heap.size w W0 := by rw [← hW, ← hW2]; go_grown
  have s0 : W0.heap.size = w.heap.size + 1 + 1 + 1 := by rw [← hW]; simp [hs2]
  clear hW hs2 hW2
  refine (Hgot.out _ ((hA.below k0 (Nat.le_refl _)).more k0.size)).mono ?_
  rintro e w1 ⟨A1, c1, rfl, own1, hb1⟩
  rw [s0] at hb1 own1
  have x0 := carry hb1 w0 (by omega)
  have x1 := carry hb1 w1' (by omega)
  have x2 := carry hb1 w2 (by omega)
  have x3 := carry hb1 w3 (by omega)
  have x4 := carry hb1 w4 (by omega)
  have x5 := carry hb1 w5 (by omega)
  have z0 := (hb1.frozen (p := ⟨w.heap.size + 1 + 1, 0, none⟩) (by show w.heap.size + 1 + 1 < _; omega)).trans w6
  have z1 := (hb1.frozen (p := ⟨w.heap.size + 1 + 1, 1, none⟩) (by show w.heap.size + 1 + 1 < _; omega)).trans w7
  have k1 : Below w.heap.size w w1 := k0.trans (hb1.mono (by omega))
  have s1 := hb1.size
  clear w0 w1' w2 w3 w4 w5 w6 w7
  go_wp2
  clear hb1
  go_loopw [12] (fun i wr => ∃ k : Nat, k ≤ M.length ∧ i = .int .i64 k ∧ wr.ownsRow (w.heap.size + 1 + 1 + 1) 115 3 (.slice A1 M.length c1) M.length (mcells (flipTo x y M k)) ∧ Below (w.heap.size + 1 + 1 + 1) w1 wr) (fun i _ => M.length - (intOf i).toNat)
  case atStart => exact ⟨0, Nat.zero_le _, rfl, by rw [flipTo_start]; exact own1, Below.refl _ _⟩
  case round =>
    obtain ⟨k, hk, rfl, hown, hb⟩ := hrel
    have hs := hb.size
    have y0 := carry hb x0 (by omega)
    have y1 := carry hb x1 (by omega)
    have y2 := carry hb x2 (by omega)
    have y3 := carry hb x3 (by omega)
    have y4 := carry hb x4 (by omega)
    have y5 := carry hb x5 (by omega)
    have v0 := (hb.frozen (p := ⟨w.heap.size + 1 + 1, 0, none⟩) (by show w.heap.size + 1 + 1 < _; omega)).trans z0
    have v1 := (hb.frozen (p := ⟨w.heap.size + 1 + 1, 1, none⟩) (by show w.heap.size + 1 + 1 < _; omega)).trans z1
    clear x0 x1 x2 x3 x4 x5 z0 z1
    by_cases hlt : k < M.length
    · obtain ⟨g, rfl⟩ := own_form hown (by omega)
      have hg := own_lt hown
      obtain ⟨⟨a, b, t⟩, hx⟩ := getSome M k hlt
      have hx' := flipTo_at (x := x) (y := y) hx
      obtain ⟨m0, m1, m2⟩ := mcells_at hx'
      have d0 := (hown.cellAt (k * 3) (by omega)).trans m0
      have d1 := (hown.cellAt (k * 3 + 1) (by omega)).trans m1
      have d2 := (hown.cellAt (k * 3 + 2) (by omega)).trans m2
      have d3 := hown.frozenAt (k * 3 + 2)
      have hki : (k : Int) < (M.length : Int) := by omega
      have hnext := flipTo_next (x := x) (y := y) hx
      have Hx' := Lib.hid hx'
      have Hnext := Lib.hid hnext
      have Hown := Lib.hid hown
      clear hx hx' m0 m1 m2 hnext hown
      by_cases hax : a = x
      · subst hax
        by_cases hby : b = y
        · subst hby
          have e2 : (wr.alloc (Obj.cells #[.int .i64 a, .int .i64 b, .bool t] 115)).cell? ⟨w.heap.size + 1, 0, none⟩ = some (.int .i64 a) := (World.cell?_alloc_lt _ _ _ (show w.heap.size + 1 < wr.heap.size by omega)).trans y2
          have e3 : (wr.alloc (Obj.cells #[.int .i64 a, .int .i64 b, .bool t] 115)).cell? ⟨w.heap.size + 1, 1, none⟩ = some (.int .i64 b) := (World.cell?_alloc_lt _ _ _ (show w.heap.size + 1 < wr.heap.size by omega)).trans y3
          have e4 : (wr.alloc (Obj.cells #[.int .i64 a, .int .i64 b, .bool t] 115)).cell? ⟨g, k * 3 + 2, none⟩ = some (.bool t) := (World.cell?_alloc_lt _ _ _ (show g < wr.heap.size by omega)).trans d2
          have e5 : (wr.alloc (Obj.cells #[.int .i64 a, .int .i64 b, .bool t] 115)).frozen? ⟨g, k * 3 + 2, none⟩ = false := by rw [Below.frozen (Below.alloc (Below.refl wr.heap.size wr) (Nat.le_refl _) _) (show g < wr.heap.size by omega)]; exact d3
          go_wp2
          go_roundw
          case rel =>
            refine ⟨k + 1, by omega, by go_num, ?_, (hb.setCell (p := ⟨g, k * 3 + 2, none⟩) hg.1 _).alloc (by simp; omega) _⟩
            rw [Hnext.out, show flipM a b (a, b, t) = (a, b, !t) by simp [flipM], ← mcells_set Hx'.out]
            exact ((Hown.out.stored _ _).1).alloc _
          case measure => simp [intOf]; omega
        · skip
          have e2 : (wr.alloc (Obj.cells #[.int .i64 a, .int .i64 b, .bool t] 115)).cell? ⟨w.heap.size + 1, 0, none⟩ = some (.int .i64 a) := (World.cell?_alloc_lt _ _ _ (show w.heap.size + 1 < wr.heap.size by omega)).trans y2
          have e3 : (wr.alloc (Obj.cells #[.int .i64 a, .int .i64 b, .bool t] 115)).cell? ⟨w.heap.size + 1, 1, none⟩ = some (.int .i64 y) := (World.cell?_alloc_lt _ _ _ (show w.heap.size + 1 < wr.heap.size by omega)).trans y3
          have e4 : (wr.alloc (Obj.cells #[.int .i64 a, .int .i64 b, .bool t] 115)).cell? ⟨g, k * 3 + 2, none⟩ = some (.bool t) := (World.cell?_alloc_lt _ _ _ (show g < wr.heap.size by omega)).trans d2
          have e5 : (wr.alloc (Obj.cells #[.int .i64 a, .int .i64 b, .bool t] 115)).frozen? ⟨g, k * 3 + 2, none⟩ = false := by rw [Below.frozen (Below.alloc (Below.refl wr.heap.size wr) (Nat.le_refl _) _) (show g < wr.heap.size by omega)]; exact d3
          go_wp2
          go_roundw
          case rel =>
            refine ⟨k + 1, by omega, by go_num, ?_, hb.alloc (by omega) _⟩
            rw [Hnext.out, show flipM a y (a, b, t) = (a, b, t) by simp [flipM, hby], set_same Hx'.out]
            exact Hown.out.alloc _
          case measure => simp [intOf]; omega
      · skip
        have e2 : (wr.alloc (Obj.cells #[.int .i64 a, .int .i64 b, .bool t] 115)).cell? ⟨w.heap.size + 1, 0, none⟩ = some (.int .i64 x) := (World.cell?_alloc_lt _ _ _ (show w.heap.size + 1 < wr.heap.size by omega)).trans y2
        have e3 : (wr.alloc (Obj.cells #[.int .i64 a, .int .i64 b, .bool t] 115)).cell? ⟨w.heap.size + 1, 1, none⟩ = some (.int .i64 y) := (World.cell?_alloc_lt _ _ _ (show w.heap.size + 1 < wr.heap.size by omega)).trans y3
        have e4 : (wr.alloc (Obj.cells #[.int .i64 a, .int .i64 b, .bool t] 115)).cell? ⟨g, k * 3 + 2, none⟩ = some (.bool t) := (World.cell?_alloc_lt _ _ _ (show g < wr.heap.size by omega)).trans d2
        have e5 : (wr.alloc (Obj.cells #[.int .i64 a, .int .i64 b, .bool t] 115)).frozen? ⟨g, k * 3 + 2, none⟩ = false := by rw [Below.frozen (Below.alloc (Below.refl wr.heap.size wr) (Nat.le_refl _) _) (show g < wr.heap.size by omega)]; exact d3
        go_wp2
        go_roundw
        case rel =>
          refine ⟨k + 1, by omega, by go_num, ?_, hb.alloc (by omega) _⟩
          rw [Hnext.out, show flipM x y (a, b, t) = (a, b, t) by simp [flipM, hax], set_same Hx'.out]
          exact Hown.out.alloc _
        case measure => simp [intOf]; omega
    · have hkl : k = M.length := by omega
      subst hkl
      have hge : ¬ ((M.length : Int) < M.length) := by omega
      rw [flipTo_all] at hown
      have hcall := fun W h => pairsOf_ofFriends_any (M.map (flipM x y)) A1 c1 W (by rw [List.length_map]; exact hml) h
      simp only [List.length_map] at hcall
      have Hcall := Lib.hid hcall
      have Hown := Lib.hid hown
      have kr : Below w.heap.size w wr := k1.trans (hb.mono (by omega))
      clear hcall hown
      go_wp2
      go_region_held3 (fun w' => w'.cell? ⟨w.heap.size, 0, none⟩ = some (.int .i64 p) ∧ w'.cell? ⟨w.heap.size, 1, none⟩ = some (.slice A l.length c)) (first | exact ⟨y0, y1⟩ | exact ⟨b0, b1⟩ | exact ⟨(World.cell?_setCell_other _ _ _ _ (by simp)).trans ((World.cell?_setCell_other _ _ _ _ (by simp)).trans b0), (World.cell?_setCell_other _ _ _ _ (by simp)).trans ((World.cell?_setCell_other _ _ _ _ (by simp)).trans b1)⟩) ((first
        | (go_at_call 92; refine (Hcall.out _ (CRead.of_own (Hown.out.kept (below_grownBy ((Below.refl _ wr).drew) (Nat.le_refl _) none) (by cases (Value.slice A1 M.length c1).ownBlock <;> simp)))).mono ?_; rintro e w2 ⟨A2, c2, rfl, own2, hb2'⟩; have hb2 : Below wr.heap.size wr w2 := (Below.refl _ _).drew.trans hb2'; have b0 := carry hb2 y0 (by omega); have b1 := carry hb2 y1 (by omega); have b4 := carry hb2 y4 (by omega); have b5 := carry hb2 y5 (by omega); have u0 := (hb2.frozen (p := ⟨w.heap.size + 1 + 1, 0, none⟩) (by show w.heap.size + 1 + 1 < _; omega)).trans v0; have u1 := (hb2.frozen (p := ⟨w.heap.size + 1 + 1, 1, none⟩) (by show w.heap.size + 1 + 1 < _; omega)).trans v1; have s2 := hb2.size)
        | skip))
      have own3 : w2.ownsRow wr.heap.size 78 2 (.slice A2 (taken (fun b => b) (M.map (flipM x y))).length c2) (taken (fun b => b) (M.map (flipM x y))).length (pcells (taken (fun b => b) (M.map (flipM x y)))) := own2
      have Own3 := Lib.hid own3
      clear own2 own3
      go_wp2
      refine bodyPost_ret (v := .agg #[.int .i64 p, .slice A2 (taken (fun b => b) (M.map (flipM x y))).length c2]) (by simp [results, Tryd.results70, go_sem, b4, b5]) rfl ?_
      exact ⟨A2, c2, rfl, own_lower (ownsRow_setCell_below (ownsRow_setCell_below Own3.out (a := ⟨w.heap.size + 1 + 1, 0, none⟩) (by show w.heap.size + 1 + 1 < _; omega) _) (a := ⟨w.heap.size + 1 + 1, 1, none⟩) (by show w.heap.size + 1 + 1 < _; omega) _) (by omega),
        ((kr.trans (hb2.mono kr.size)).setCell (p := ⟨w.heap.size + 1 + 1, 0, none⟩) (by show w.heap.size ≤ w.heap.size + 1 + 1; omega) _).setCell (p := ⟨w.heap.size + 1 + 1, 1, none⟩) (by show w.heap.size ≤ w.heap.size + 1 + 1; omega) _⟩
end Go.Proofs.YtmiecebdkadhbaaDoor
/-
  HOW FAR PEOPLE ARE, in pure terms: who is reached by at most so many steps, the distance, and what a queue of people who are looked at one after another knows of it.
-/
namespace Go.Proofs.YtmiecebdkadhbaaDoor

/-- who is reached by a walk of at most d steps -/
def rch (n : Nat) (t : Nat → Nat → Bool) (a : Nat) : Nat → Nat → Bool
  | 0, x => decide (x = a)
  | d + 1, x => rch n t a d x || (List.range n).any fun y => rch n t a d y && t y x
section
variable {n a : Nat} {t : Nat → Nat → Bool}
theorem rch_succ {d x : Nat} : rch n t a (d + 1) x = true ↔ rch n t a d x = true ∨ ∃ y, y < n ∧ rch n t a d y = true ∧ t y x = true := by
  simp only [rch, Bool.or_eq_true, List.any_eq_true, List.mem_range, Bool.and_eq_true]
theorem rch_mono {d x : Nat} (h : rch n t a d x = true) : ∀ {e : Nat}, d ≤ e → rch n t a e x = true := by
  intro e he
  induction e with
  | zero => rw [show d = 0 by omega] at h; exact h
  | succ e ih =>
    by_cases hd : d = e + 1
    · rw [← hd]; exact h
    · exact rch_succ.2 (.inl (ih (by omega)))
theorem rch_lt (ha : a < n) (ht : ∀ y x, t y x = true → x < n) {d x : Nat} (h : rch n t a d x = true) : x < n := by
  induction d generalizing x with
  | zero => simp [rch] at h; omega
  | succ d ih =>
    rcases rch_succ.1 h with h | ⟨y, _, _, h⟩
    · exact ih h
    · exact ht y x h
theorem rch_stop {d : Nat} (h : ∀ x, rch n t a (d + 1) x = rch n t a d x) (e : Nat) : ∀ x, rch n t a (d + e) x = rch n t a d x := by
  induction e with
  | zero => intro x; rfl
  | succ e ih =>
    intro x
    rw [← h x, Bool.eq_iff_iff]
    show rch n t a ((d + e) + 1) x = true ↔ _
    rw [rch_succ, rch_succ, ih x]
    constructor
    · rintro (h1 | ⟨y, hy, h1, h2⟩)
      · exact .inl h1
      · exact .inr ⟨y, hy, by rw [← ih y]; exact h1, h2⟩
    · rintro (h1 | ⟨y, hy, h1, h2⟩)
      · exact .inl h1
      · exact .inr ⟨y, hy, by rw [ih y]; exact h1, h2⟩
end
/-- the distance of x, -1 if there is none -/
def IsDist (n : Nat) (t : Nat → Nat → Bool) (a x : Nat) (o : Int) : Prop :=
  (o = -1 ∧ ∀ d, rch n t a d x = false) ∨ ∃ d : Nat, o = d ∧ rch n t a d x = true ∧ ∀ e, e < d → rch n t a e x = false
section
variable {n a x : Nat} {t : Nat → Nat → Bool}
theorem IsDist.unique {o o' : Int} (h : IsDist n t a x o) (h' : IsDist n t a x o') : o = o' := by
  rcases h with ⟨rfl, h⟩ | ⟨d, rfl, h1, h2⟩
  · rcases h' with ⟨rfl, _⟩ | ⟨d, rfl, h1, _⟩
    · rfl
    · rw [h d] at h1; cases h1
  · rcases h' with ⟨rfl, h⟩ | ⟨d', rfl, h1', h2'⟩
    · rw [h d] at h1; cases h1
    · rcases Nat.lt_trichotomy d d' with hd | hd | hd
      · rw [h2' d hd] at h1; cases h1
      · rw [hd]
      · rw [h2 d' hd] at h1'; cases h1'
theorem least_rch (d : Nat) (h : rch n t a d x = true) : ∃ m, m ≤ d ∧ rch n t a m x = true ∧ ∀ e, e < m → rch n t a e x = false := by
  induction d with
  | zero => exact ⟨0, Nat.le_refl _, h, fun e he => by omega⟩
  | succ d ih =>
    cases hd : rch n t a d x with
    | true => obtain ⟨m, h1, h2, h3⟩ := ih hd; exact ⟨m, by omega, h2, h3⟩
    | false =>
      refine ⟨d + 1, Nat.le_refl _, h, fun e he => ?_⟩
      cases he2 : rch n t a e x with
      | false => rfl
      | true => rw [rch_mono he2 (show e ≤ d by omega)] at hd; cases hd
theorem exists_dist (n : Nat) (t : Nat → Nat → Bool) (a x : Nat) : ∃ o, IsDist n t a x o := by
  by_cases h : ∃ d, rch n t a d x = true
  · obtain ⟨d, hd⟩ := h
    obtain ⟨m, _, h2, h3⟩ := least_rch d hd
    exact ⟨m, .inr ⟨m, rfl, h2, h3⟩⟩
  · refine ⟨-1, .inl ⟨rfl, fun d => ?_⟩⟩
    cases hd : rch n t a d x with
    | false => rfl
    | true => exact absurd ⟨d, hd⟩ h
end
noncomputable def distO (n : Nat) (t : Nat → Nat → Bool) (a x : Nat) : Int := Classical.choose (exists_dist n t a x)
section
variable {n a : Nat} {t : Nat → Nat → Bool}
theorem distO_spec (n : Nat) (t : Nat → Nat → Bool) (a x : Nat) : IsDist n t a x (distO n t a x) := Classical.choose_spec (exists_dist n t a x)
theorem IsDist.eq {x : Nat} {o : Int} (h : IsDist n t a x o) : distO n t a x = o := (distO_spec n t a x).unique h
theorem distO_ge (n : Nat) (t : Nat → Nat → Bool) (a x : Nat) : -1 ≤ distO n t a x := by
  rcases distO_spec n t a x with ⟨h, _⟩ | ⟨d, h, _⟩ <;> omega
theorem distO_self : distO n t a a = 0 := IsDist.eq (.inr ⟨0, rfl, by simp [rch], fun e he => by omega⟩)
/-- a queue of people who are looked at one after another, with what is told of how far they are; k of them have been looked at -/
structure Bfs (n : Nat) (t : Nat → Nat → Bool) (a : Nat) (Q : List Nat) (o : Nat → Int) (k : Nat) : Prop where
  start : a ∈ Q
  inn : ∀ x, x ∈ Q → x < n
  nodup : Q.Nodup
  out : ∀ x, x ∉ Q → o x = -1
  known : ∀ x, x ∈ Q → 0 ≤ o x
  exact : ∀ x, x ∈ Q → IsDist n t a x (o x)
  sorted : ∀ (i j x y : Nat), i ≤ j → Q[i]? = some x → Q[j]? = some y → o x ≤ o y
  small : ∀ x, x ∈ Q → o x ≤ Q.length
  last : ∀ (x u : Nat), x ∈ Q → Q[k]? = some u → o x ≤ o u + 1
  closed : ∀ (i x b : Nat), i < k → Q[i]? = some x → b < n → t x b = true → b ∈ Q
def updI (o : Nat → Int) (b : Nat) (v : Int) : Nat → Int := fun x => if x = b then v else o x
theorem Bfs.begin (ha : a < n) : Bfs n t a [a] (updI (fun _ => -1) a 0) 0 := by
  refine ⟨by simp, fun x hx => by simp at hx; omega, by simp, fun x hx => ?_, fun x hx => ?_, fun x hx => ?_, fun i j x y _ hi hj => ?_, fun x hx => ?_, fun x u hx hu => ?_, fun i x b hi => by omega⟩
  · simp only [List.mem_singleton] at hx; simp [updI, hx]
  · simp only [List.mem_singleton] at hx; simp [updI, hx]
  · simp only [List.mem_singleton] at hx
    subst hx
    simp only [updI, if_true]
    exact .inr ⟨0, rfl, by simp [rch], fun e he => by omega⟩
  · have h1 : i = 0 := by have := (List.getElem?_eq_some_iff.1 hi).1; simp at this; exact this
    have h2 : j = 0 := by have := (List.getElem?_eq_some_iff.1 hj).1; simp at this; exact this
    subst h1 h2
    rw [hi] at hj
    rw [Option.some.inj hj]
    exact Int.le_refl _
  · simp only [List.mem_singleton] at hx
    subst hx
    simp [updI]
  · simp only [List.mem_singleton] at hx
    simp at hu
    subst hx hu
    simp [updI]
theorem Bfs.few {Q : List Nat} {o : Nat → Int} {k : Nat} (h : Bfs n t a Q o k) : Q.length ≤ n := by
  have := List.Nodup.length_le_of_subset (l₁ := Q) (l₂ := List.range n) h.nodup fun x hx => List.mem_range.2 (h.inn x hx)
  simpa using this
/-- all who are nearer than the one that is looked at are in the queue -/
theorem Bfs.near {Q : List Nat} {o : Nat → Int} {k u : Nat} (h : Bfs n t a Q o k) (hu : Q[k]? = some u) (j : Nat) : (j : Int) ≤ o u → ∀ x, x < n → rch n t a j x = true → x ∈ Q := by
  induction j with
  | zero => intro _ x _ hx; simp [rch] at hx; rw [hx]; exact h.start
  | succ j ih =>
    intro hj x hxn hx
    rcases rch_succ.1 hx with hx | ⟨y, hyn, hy, hyx⟩
    · exact ih (by omega) x hxn hx
    · have hyQ := ih (by omega) y hyn hy
      have hoy : o y ≤ j := by
        rcases h.exact y hyQ with ⟨e, _⟩ | ⟨d, e, _, hm⟩
        · omega
        · rw [e]
          by_cases hdj : d ≤ j
          · omega
          · rw [hm j (by omega)] at hy; cases hy
      obtain ⟨i, hi⟩ := List.getElem?_of_mem hyQ
      by_cases hik : i < k
      · exact h.closed i y x hik hi hxn hyx
      · have := h.sorted k i u y (by omega) hu hi
        omega
theorem Bfs.push {Q : List Nat} {o : Nat → Int} {k u b : Nat} (h : Bfs n t a Q o k) (hu : Q[k]? = some u) (hb : b < n) (hub : t u b = true) (hbQ : o b < 0) : Bfs n t a (Q ++ [b]) (updI o b (o u + 1)) k := by
  have hbq : b ∉ Q := fun hm => by have := h.known b hm; omega
  have huQ : u ∈ Q := List.mem_of_getElem? hu
  have hne : u ≠ b := fun e => hbq (e ▸ huQ)
  have hold : ∀ x, x ∈ Q → updI o b (o u + 1) x = o x := fun x hx => if_neg fun (e : x = b) => hbq (e ▸ hx)
  have hnew : updI o b (o u + 1) b = o u + 1 := if_pos rfl
  have hk := (List.getElem?_eq_some_iff.1 hu).1
  have hat : ∀ {i x : Nat}, (Q ++ [b])[i]? = some x → (i < Q.length ∧ Q[i]? = some x) ∨ (i = Q.length ∧ x = b) := by
    intro i x hi
    by_cases hlt : i < Q.length
    · left; rw [List.getElem?_append_left hlt] at hi; exact ⟨hlt, hi⟩
    · right
      rw [List.getElem?_append_right (by omega)] at hi
      have := (List.getElem?_eq_some_iff.1 hi).1
      simp at this
      have e : i - Q.length = 0 := by omega
      rw [e] at hi
      simp at hi
      exact ⟨by omega, hi.symm⟩
  refine ⟨List.mem_append_left _ h.start, fun x hx => ?_, ?_, fun x hx => ?_, fun x hx => ?_, fun x hx => ?_, fun i j x y hij hi hj => ?_, fun x hx => ?_, fun x v hx hv => ?_, fun i x c hi hx hc htc => ?_⟩
  · rcases List.mem_append.1 hx with hx | hx
    · exact h.inn x hx
    · simp at hx; omega
  · rw [List.nodup_append]
    refine ⟨h.nodup, by simp, fun x hx y hy => ?_⟩
    simp at hy
    subst hy
    exact fun e => hbq (e ▸ hx)
  · rw [List.mem_append, not_or] at hx
    have hxb : x ≠ b := by simpa using hx.2
    rw [updI, if_neg hxb]
    exact h.out x hx.1
  · rcases List.mem_append.1 hx with hx | hx
    · rw [hold x hx]; exact h.known x hx
    · simp at hx; subst hx; rw [hnew]; have := h.known u huQ; omega
  · rcases List.mem_append.1 hx with hx | hx
    · rw [hold x hx]; exact h.exact x hx
    · simp at hx; subst hx; rw [hnew]
      rcases h.exact u huQ with ⟨e, _⟩ | ⟨d, e, hd, _⟩
      · have := h.known u huQ; omega
      · refine .inr ⟨d + 1, by rw [e]; rfl, rch_succ.2 (.inr ⟨u, h.inn u huQ, hd, hub⟩), fun j hj => ?_⟩
        cases hr : rch n t a j x with
        | false => rfl
        | true => exact absurd (h.near hu j (by rw [e]; omega) x hb hr) hbq
  · rcases hat hi with ⟨h1, hi'⟩ | ⟨h1, rfl⟩
    · rcases hat hj with ⟨h2, hj'⟩ | ⟨h2, rfl⟩
      · rw [hold x (List.mem_of_getElem? hi'), hold y (List.mem_of_getElem? hj')]; exact h.sorted i j x y hij hi' hj'
      · rw [hold x (List.mem_of_getElem? hi'), hnew]; exact h.last x u (List.mem_of_getElem? hi') hu
    · rcases hat hj with ⟨h2, hj'⟩ | ⟨h2, rfl⟩
      · omega
      · exact Int.le_refl _
  · rw [List.length_append, List.length_singleton]
    rcases List.mem_append.1 hx with hx | hx
    · rw [hold x hx]; have := h.small x hx; omega
    · simp at hx; subst hx; rw [hnew]; have := h.small u huQ; omega
  · rw [List.getElem?_append_left hk, hu] at hv
    have := Option.some.inj hv
    subst this
    rw [hold u huQ]
    rcases List.mem_append.1 hx with hx | hx
    · rw [hold x hx]; exact h.last x u hx hu
    · simp at hx; subst hx; rw [hnew]; exact Int.le_refl _
  · rcases hat hx with ⟨h1, hx⟩ | ⟨h1, rfl⟩
    · exact List.mem_append_left _ (h.closed i x c hi hx hc htc)
    · omega
theorem Bfs.next {Q : List Nat} {o : Nat → Int} {k u : Nat} (h : Bfs n t a Q o k) (hu : Q[k]? = some u) (hall : ∀ b, b < n → t u b = true → b ∈ Q) : Bfs n t a Q o (k + 1) := by
  refine ⟨h.start, h.inn, h.nodup, h.out, h.known, h.exact, h.sorted, h.small, fun x v hx hv => ?_, fun i x b hi hx hb htb => ?_⟩
  · have h1 := h.last x u hx hu
    have h2 := h.sorted k (k + 1) u v (by omega) hu hv
    omega
  · by_cases hik : i = k
    · subst hik
      rw [hu] at hx
      have := Option.some.inj hx
      subst this
      exact hall b hb htb
    · exact h.closed i x b (by omega) hx hb htb
theorem Bfs.done {Q : List Nat} {o : Nat → Int} {k : Nat} (h : Bfs n t a Q o k) (hk : Q.length ≤ k) (ht : ∀ y x, t y x = true → x < n) (x : Nat) : o x = distO n t a x := by
  have hcl : ∀ d y, rch n t a d y = true → y ∈ Q := by
    intro d
    induction d with
    | zero => intro y hy; simp [rch] at hy; rw [hy]; exact h.start
    | succ d ih =>
      intro y hy
      rcases rch_succ.1 hy with hy | ⟨z, hz, h1, h2⟩
      · exact ih y hy
      · obtain ⟨i, hi⟩ := List.getElem?_of_mem (ih z h1)
        have := (List.getElem?_eq_some_iff.1 hi).1
        exact h.closed i z y (by omega) hi (ht z y h2) h2
  by_cases hx : x ∈ Q
  · exact (h.exact x hx).eq.symm
  · rw [h.out x hx]
    refine (IsDist.eq (.inl ⟨rfl, fun d => ?_⟩)).symm
    cases hr : rch n t a d x with
    | false => rfl
    | true => exact absurd (hcl d x hr) hx
end
theorem range_set (n : Nat) (o : Nat → Int) (b : Nat) (v : Int) : ((List.range n).map o).set b v = (List.range n).map (updI o b v) := by
  refine List.ext_getElem (by simp) fun i h1 h2 => ?_
  simp only [List.length_set, List.length_map, List.length_range] at h1
  rw [List.getElem_set]
  simp only [List.getElem_map, List.getElem_range, updI]
  by_cases h : b = i
  · rw [if_pos h, if_pos h.symm]
  · rw [if_neg h, if_neg (fun e => h e.symm)]
/-- the crowd of all who are friends of some, with those told -/
def orT (T : Nat → Nat) (cs : List Nat) (R : Nat) : Nat := cs.foldl (fun r c => r ||| T c) R
theorem orT_snoc (T : Nat → Nat) (cs : List Nat) (c R : Nat) : orT T (cs ++ [c]) R = orT T cs R ||| T c := by simp [orT]
theorem orT_bit (T : Nat → Nat) (cs : List Nat) (R x : Nat) : (orT T cs R).testBit x = (R.testBit x || cs.any fun c => (T c).testBit x) := by
  induction cs generalizing R with
  | nil => simp [orT]
  | cons c cs ih =>
    show (orT T cs (R ||| T c)).testBit x = _
    rw [ih, Nat.testBit_or, List.any_cons, Bool.or_assoc]
theorem orT_small (T : Nat → Nat) (cs : List Nat) (R : Nat) (hR : R < 65536) (hT : ∀ c ∈ cs, T c < 65536) : orT T cs R < 65536 := by
  induction cs generalizing R with
  | nil => exact hR
  | cons c cs ih => exact ih (R ||| T c) (Nat.or_lt_two_pow (n := 16) hR (hT c List.mem_cons_self)) fun c hc => hT c (List.mem_cons_of_mem _ hc)
theorem orT_ge (T : Nat → Nat) (cs : List Nat) (R : Nat) : R ≤ orT T cs R := by
  induction cs generalizing R with
  | nil => exact Nat.le_refl _
  | cons c cs ih => exact Nat.le_trans Nat.left_le_or (ih (R ||| T c))
/-- what the program knows: the crowd that is reached by at most d steps -/
structure Reached (n : Nat) (t : Nat → Nat → Bool) (a d R : Nat) : Prop where
  bit : ∀ x, R.testBit x = rch n t a d x
  most : d ≤ R
  lt : R < 65536
theorem Reached.begin (n : Nat) (t : Nat → Nat → Bool) {a : Nat} (ha : a < 16) : Reached n t a 0 (2 ^ a) := by
  refine ⟨fun x => ?_, Nat.zero_le _, Nat.pow_lt_pow_right (n := 16) (by omega) ha⟩
  rw [Nat.testBit_two_pow]
  simp only [rch]
  rw [decide_eq_decide]
  exact eq_comm
theorem Reached.step_bit {n : Nat} {t : Nat → Nat → Bool} {a d R : Nat} {T : Nat → Nat} {cs : List Nat} (h : Reached n t a d R) (hcs : ∀ b, R.testBit b = true ↔ b ∈ cs) (hin : ∀ c ∈ cs, c < n) (hT : ∀ c x, c ∈ cs → (T c).testBit x = t c x) (x : Nat) :
    (orT T cs R).testBit x = rch n t a (d + 1) x := by
  rw [orT_bit, h.bit, Bool.eq_iff_iff, rch_succ, Bool.or_eq_true, List.any_eq_true]
  constructor
  · rintro (h1 | ⟨c, hc, h2⟩)
    · exact .inl h1
    · exact .inr ⟨c, hin c hc, by rw [← h.bit]; exact (hcs c).2 hc, by rw [← hT c x hc]; exact h2⟩
  · rintro (h1 | ⟨y, hy, h1, h2⟩)
    · exact .inl h1
    · have hc := (hcs y).1 (by rw [h.bit]; exact h1)
      exact .inr ⟨y, hc, by rw [hT y x hc]; exact h2⟩
theorem Reached.step {n : Nat} {t : Nat → Nat → Bool} {a d R : Nat} {T : Nat → Nat} {cs : List Nat} (h : Reached n t a d R) (hcs : ∀ b, R.testBit b = true ↔ b ∈ cs) (hin : ∀ c ∈ cs, c < n) (hT : ∀ c x, c ∈ cs → (T c).testBit x = t c x) (hTs : ∀ c ∈ cs, T c < 65536) (hne : orT T cs R ≠ R) :
    Reached n t a (d + 1) (orT T cs R) := by
  have h1 := orT_ge T cs R
  have h2 := h.most
  exact ⟨h.step_bit hcs hin hT, by omega, orT_small T cs R h.lt hTs⟩
theorem Reached.stop {n : Nat} {t : Nat → Nat → Bool} {a d R b : Nat} {T : Nat → Nat} {cs : List Nat} (h : Reached n t a d R) (hcs : ∀ b, R.testBit b = true ↔ b ∈ cs) (hin : ∀ c ∈ cs, c < n) (hT : ∀ c x, c ∈ cs → (T c).testBit x = t c x) (heq : orT T cs R = R) (hb : R.testBit b = false) :
    distO n t a b = -1 := by
  have hs := rch_stop (n := n) (t := t) (a := a) (d := d) fun x => by rw [← h.step_bit hcs hin hT x, heq, h.bit]
  refine IsDist.eq (.inl ⟨rfl, fun e => ?_⟩)
  cases hr : rch n t a e b with
  | false => rfl
  | true =>
    have h1 := rch_mono hr (show e ≤ d + e by omega)
    rw [hs e b, ← h.bit, hb] at h1
    cases h1
theorem Reached.found {n : Nat} {t : Nat → Nat → Bool} {a d R b : Nat} (h : Reached n t a d R) (hb : R.testBit b = true) (hno : ∀ e, e < d → rch n t a e b = false) : distO n t a b = d :=
  IsDist.eq (.inr ⟨d, rfl, by rw [← h.bit]; exact hb, hno⟩)
end Go.Proofs.YtmiecebdkadhbaaDoor
/-
  SHORTEST ROUNDS, in pure terms: a party without one of its pairs, distances are small, the least round told pair by pair.
-/
namespace Go.Proofs.YtmiecebdkadhbaaDoor
open Go.RowKit

theorem rch_count {n a d x : Nat} {t : Nat → Nat → Bool} (ha : a < n) (ht : ∀ y x, t y x = true → x < n) (hx : rch n t a d x = true) (h : ∀ e, e < d → rch n t a e x = false) :
    ∀ e, e ≤ d → e + 1 ≤ ((List.range n).filter (rch n t a e)).length := by
  intro e
  induction e with
  | zero => intro _; exact List.length_pos_of_mem (List.mem_filter.2 ⟨List.mem_range.2 ha, by simp [rch]⟩)
  | succ e ih =>
    intro he
    have h1 := ih (by omega)
    apply Classical.byContradiction
    intro hc
    have e1 : (List.range n).filter (rch n t a e) = ((List.range n).filter (rch n t a (e + 1))).filter (rch n t a e) := by
      rw [List.filter_filter]
      refine List.filter_congr fun y _ => ?_
      cases hy : rch n t a e y with
      | false => rfl
      | true => rw [rch_mono hy (show e ≤ e + 1 by omega)]; rfl
    have h2 : (((List.range n).filter (rch n t a (e + 1))).filter (rch n t a e)).length = ((List.range n).filter (rch n t a (e + 1))).length := by
      have := List.length_filter_le (rch n t a e) ((List.range n).filter (rch n t a (e + 1)))
      rw [← e1] at this ⊢
      omega
    rw [List.length_filter_eq_length_iff] at h2
    have h3 : ∀ y, rch n t a (e + 1) y = rch n t a e y := fun y => by
      cases hy : rch n t a (e + 1) y with
      | true => exact (h2 y (List.mem_filter.2 ⟨List.mem_range.2 (rch_lt ha ht hy), hy⟩)).symm
      | false =>
        cases hy2 : rch n t a e y with
        | false => rfl
        | true => rw [rch_mono hy2 (show e ≤ e + 1 by omega)] at hy; cases hy
    have h4 := rch_stop h3 (d - e) x
    rw [show e + (d - e) = d by omega, hx, h e (by omega)] at h4
    cases h4
theorem dist_small {n a x : Nat} {t : Nat → Nat → Bool} (ha : a < n) (ht : ∀ y x, t y x = true → x < n) : distO n t a x < n := by
  rcases distO_spec n t a x with ⟨h, _⟩ | ⟨d, h, h1, h2⟩
  · omega
  · have h3 := rch_count ha ht h1 h2 d (Nat.le_refl _)
    have h4 := List.length_filter_le (rch n t a d) (List.range n)
    rw [List.length_range] at h4
    omega
theorem dist_pos {n a x : Nat} {t : Nat → Nat → Bool} (hax : a ≠ x) : distO n t a x ≠ 0 := by
  intro h
  rcases distO_spec n t a x with ⟨h1, _⟩ | ⟨d, h1, h2, _⟩
  · omega
  · have : d = 0 := by omega
    subst this
    simp [rch] at h2
    omega

/-- a party's table without a pair -/
def cutT (t : Nat → Nat → Bool) (a b : Nat) : Nat → Nat → Bool := upd (upd t a b false) b a false
theorem cutT_at (t : Nat → Nat → Bool) (a b i j : Nat) : cutT t a b i j = if (i = b ∧ j = a) ∨ (i = a ∧ j = b) then false else t i j := by
  unfold cutT upd
  by_cases h1 : i = b ∧ j = a
  · rw [if_pos h1, if_pos (.inl h1)]
  · rw [if_neg h1]
    by_cases h2 : i = a ∧ j = b
    · rw [if_pos h2, if_pos (.inr h2)]
    · rw [if_neg h2, if_neg (by rintro (h | h) <;> contradiction)]
theorem cutT_back {l : PL} {a b : Nat} (h : adj l a b = true) : upd (upd (cutT (adj l) a b) a b true) b a true = adj l := by
  funext i j
  unfold upd
  by_cases h1 : i = b ∧ j = a
  · rw [if_pos h1, h1.1, h1.2, adj_comm, h]
  · rw [if_neg h1]
    by_cases h2 : i = a ∧ j = b
    · rw [if_pos h2, h2.1, h2.2, h]
    · rw [if_neg h2, cutT_at, if_neg (by rintro (h | h) <;> contradiction)]
theorem flipped_isP {n : Nat} (hn : n ≤ 12) (l : PL) (x y : Int) : isP n (flipped n l x y) = true := filter_isP hn _
theorem adj_cut {n : Nat} {l : PL} {a b : Nat} (hp : isP n l = true) (hab : a < b) (h : adj l a b = true) : adj (flipped n l a b) = cutT (adj l) a b := by
  have hn := isP_range hp
  have hn12 : n ≤ 12 := by omega
  have hf := flipped_isP hn12 l (a : Int) (b : Int)
  have key : ∀ i j, i < j → adj (flipped n l a b) i j = cutT (adj l) a b i j := by
    intro i j hij
    rw [adj_pair hf hij, cutT_at, Bool.eq_iff_iff, List.contains_iff_mem]
    unfold flipped
    rw [List.mem_filter, mem_allP]
    by_cases e : i = a ∧ j = b
    · obtain ⟨rfl, rfl⟩ := e
      rw [if_pos ⟨rfl, rfl⟩, if_pos (.inr ⟨rfl, rfl⟩), ← adj_pair hp hij, h]
      simp
    · rw [if_neg (show ¬ (((i : Int), (j : Int)).1 = (a : Int) ∧ ((i : Int), (j : Int)).2 = (b : Int)) by simp only; omega), if_neg (show ¬ ((i = b ∧ j = a) ∨ (i = a ∧ j = b)) by omega), ← adj_pair hp hij]
      constructor
      · exact fun h => h.2
      · intro h
        have := adj_of hp h
        exact ⟨by simp only; omega, h⟩
  funext i j
  rcases Nat.lt_trichotomy i j with hij | hij | hij
  · exact key i j hij
  · subst hij
    rw [adj_self hf, cutT_at, adj_self hp]
    simp
  · rw [adj_comm, key j i hij, cutT_at, cutT_at, adj_comm l j i]
    by_cases h1 : (j = b ∧ i = a) ∨ (j = a ∧ i = b)
    · rw [if_pos h1, if_pos (by omega)]
    · rw [if_neg h1, if_neg (by omega)]
theorem cutT_lt {n : Nat} {l : PL} (hp : isP n l = true) (a b : Nat) : ∀ y x, cutT (adj l) a b y x = true → x < n := by
  intro y x h
  rw [cutT_at] at h
  split at h
  · cases h
  · exact (adj_of hp h).2.1

/-- the least round told so far, 0 for none, and one pair more whose people are so far from each other without it -/
def stepR (m d : Int) : Int := if 0 < d ∧ (m = 0 ∨ d + 1 < m) then d + 1 else m
noncomputable def farC (n : Nat) (l : PL) (q : Int × Int) : Int := distO n (cutT (adj l) q.1.toNat q.2.toNat) q.1.toNat q.2.toNat
def foldR (F : Int × Int → Int) (L : PL) : Int := L.foldl (fun m q => stepR m (F q)) 0
theorem foldR_next {F : Int × Int → Int} {L : PL} {k : Nat} {q : Int × Int} (h : L[k]? = some q) : foldR F (L.take (k + 1)) = stepR (foldR F (L.take k)) (F q) := by
  rw [List.take_add_one, h, Option.toList_some]
  simp [foldR, List.foldl_append]
theorem stepR_in {m d : Int} (hm : 0 ≤ m ∧ m ≤ 13) (hd : d < 12) : 0 ≤ stepR m d ∧ stepR m d ≤ 13 := by unfold stepR; split <;> omega
noncomputable def resShortestRound (p : Int) (l : PL) : Int × Bool :=
  if isP p l then (foldR (farC p.toNat l) l, decide (0 < foldR (farC p.toNat l) l)) else (0, false)
end Go.Proofs.YtmiecebdkadhbaaDoor
/-
  'impl.crowdOf', by its contract: the crowd of some people as a number.
-/
namespace Go.Proofs.YtmiecebdkadhbaaDoor
open Go.RowKit

def crowdN (q : List Int) : Nat := q.foldl (fun J x => J ||| 2 ^ x.toNat) 0
theorem crowdN_snoc (q : List Int) (x : Int) : crowdN (q ++ [x]) = crowdN q ||| 2 ^ x.toNat := by simp [crowdN, List.foldl_append]
theorem crowdN_small {q : List Int} (h : ∀ x ∈ q, 0 ≤ x ∧ x < 16) : crowdN q < 65536 := by
  have key : ∀ (q : List Int) (J : Nat), J < 65536 → (∀ x ∈ q, 0 ≤ x ∧ x < 16) → q.foldl (fun J x => J ||| 2 ^ x.toNat) J < 65536 := by
    intro q
    induction q with
    | nil => intro J hJ _; exact hJ
    | cons x q ih => intro J hJ h; exact ih _ (or_lt hJ (by have := h x List.mem_cons_self; omega)) fun y hy => h y (List.mem_cons_of_mem _ hy)
  exact key q 0 (by omega) h
set_option maxHeartbeats 2000000 in
set_option maxRecDepth 100000 in
theorem crowdOf_any (q : List Int) (B : Option Addr) (d : Nat) (w : World) (hm : ∀ x ∈ q, 0 ≤ x ∧ x < 12) (hq : q.length ≤ 1048576) (hB : CRead w w.heap.size B (icells q)) :
    Calls Tryd.prog 78 #[.slice B q.length d] w fun e w' => e = .returned (.int .u16 (crowdN q : Nat)) ∧ w = w' := by
  have hbits : ∀ k, crowdN (q.take k) < 65536 := fun k => crowdN_small fun x hx => by have := hm x (List.mem_of_mem_take hx); omega
  have Hm := Lib.hid hm
  have Hbits := Lib.hid hbits
  clear hm hbits
  go_enter Tryd.func78, Tryd.ntmps78
  go_wp2
  go_loop [3, 8] (fun v i => ∃ k : Nat, k ≤ q.length ∧ i = .int .i64 k ∧ v = .int .u16 (crowdN (q.take k) : Nat)) (fun _ i => q.length - (intOf i).toNat)
  case atStart => exact ⟨0, Nat.zero_le _, by go_num, by simp [crowdN]⟩
  case round =>
    obtain ⟨k, hk, rfl, rfl⟩ := hrel
    have hlt16 := Hbits.out k
    by_cases hlt : k < q.length
    · obtain ⟨x, hx⟩ := getSome q k hlt
      have hx0 := Hm.out x (List.mem_of_getElem? hx)
      obtain ⟨a, rfl⟩ : ∃ a : Nat, x = a := ⟨x.toNat, by omega⟩
      obtain ⟨b, off, rfl, hbb, c0⟩ := hB.int hx
      have hki : (k : Int) < (q.length : Int) := by omega
      have hnx : crowdN (q.take (k + 1)) = crowdN (q.take k) ||| 2 ^ a := by
        rw [List.take_add_one, hx, Option.toList_some, crowdN_snoc, Int.toNat_natCast]
      have hor := or_bit hlt16 (show a < 16 by omega)
      have hor2 := or_bit2 hlt16 (show a < 16 by omega)
      obtain ⟨C, hC⟩ : ∃ C, crowdN (q.take k) = C := ⟨_, rfl⟩
      rw [hC] at hor hor2 hlt16 hnx ⊢
      have Hnx := Lib.hid hnx
      have Hor := Lib.hid hor
      have Hor2 := Lib.hid hor2
      have ha0 : ¬ ((a : Int) < 0) := by omega
      clear hx hnx hC hor hor2
      go_wp2_with (first | rw [Hor.out] | rw [Hor2.out])
      go_round
      case rel => exact ⟨k + 1, by omega, by go_num, by rw [Hnx.out]⟩
      case measure => simp [intOf]; omega
    · have hkl : k = q.length := by omega
      have hge : ¬ ((k : Int) < (q.length : Int)) := by omega
      have He := Lib.hid (show crowdN (q.take k) = crowdN q by rw [hkl, List.take_length])
      clear hkl
      go_wp2
      go_ret
      exact ⟨by rw [He.out]; rfl, rfl⟩
end Go.Proofs.YtmiecebdkadhbaaDoor
/-
  'impl.peopleOf', by its contract: a number of sixteen bits as a rising list.
-/
namespace Go.Proofs.YtmiecebdkadhbaaDoor
open Go.RowKit

theorem drop_least {J a : Nat} {cs : List Nat} (h : IsSet J (a :: cs)) : IsSet (J &&& (J - 1)) cs := by
  have hp := h.pos
  have hs := h.small
  obtain ⟨m, hm, hk⟩ := Lib.ctzFrom_spec 16 J (by omega) hs
  have e : Lib.ctz 16 J = Lib.ctzFrom 16 J := by simp [Lib.ctz, hp]
  rw [← e, h.least] at hm hk
  have hp2 : 0 < 2 ^ a := Nat.two_pow_pos a
  have hJ1 : J - 1 = 2 ^ a * (2 * m) + (2 ^ a - 1) := by
    have : 2 ^ a * (2 * m + 1) = 2 ^ a * (2 * m) + 2 ^ a := by rw [Nat.mul_add, Nat.mul_one]
    omega
  have hlo : 2 ^ a - 1 < 2 ^ a := by omega
  have hbit : ∀ b, (J &&& (J - 1)).testBit b = (J.testBit b && decide (b ≠ a)) := by
    intro b
    rw [Nat.testBit_and]
    cases eb : J.testBit b with
    | false => rfl
    | true =>
      rw [Bool.true_and, hJ1, Nat.testBit_two_pow_mul_add _ hlo]
      rw [hm, Nat.testBit_two_pow_mul] at eb
      simp only [Bool.and_eq_true, decide_eq_true_eq] at eb
      rw [if_neg (by omega)]
      by_cases hba : b = a
      · subst hba; simp
      · obtain ⟨i, hi⟩ : ∃ i, b - a = i + 1 := ⟨b - a - 1, by omega⟩
        rw [hi] at eb ⊢
        rw [Nat.testBit_succ] at eb ⊢
        have e1 : (2 * m + 1) / 2 = m := by omega
        have e2 : 2 * m / 2 = m := by omega
        rw [e1] at eb
        rw [e2, eb.2]
        simp [hba]
  have ht := h.tail
  refine ⟨ht.up, ht.lt, fun b => ?_⟩
  rw [hbit, Bool.and_eq_true, h.mem, List.mem_cons, decide_eq_true_eq]
  have hap := (List.pairwise_cons.1 h.up).1
  constructor
  · rintro ⟨h1 | h1, h2⟩
    · exact absurd h1 h2
    · exact h1
  · intro hb
    have := hap b hb
    exact ⟨.inr hb, by omega⟩
set_option maxHeartbeats 2000000 in
set_option maxRecDepth 100000 in
theorem peopleOf_any {J : Nat} {cs : List Nat} (hset : IsSet J cs) (w : World) (htab : TabW w) :
    Calls Tryd.prog 96 #[.int .u16 J] w fun e w' => ∃ A c, e = .returned (.slice A cs.length c) ∧ w'.ownsRow w.heap.size 3 1 (.slice A cs.length c) cs.length (icells (cs.map fun b : Nat => (b : Int))) ∧ Below w.heap.size w w' := by
  obtain ⟨i0, hi, hz0, hz1, hz2⟩ := info_parts Tryd.infoInt
  have hlen : cs.length ≤ 16 := by
    have h := List.Nodup.length_le_of_subset (l₁ := cs) (l₂ := List.range 16) (hset.up.imp fun h => Nat.ne_of_lt h) (fun b hb => List.mem_range.2 (hset.lt b hb))
    simpa using h
  have HTab := Lib.hid htab
  have Hset := Lib.hid hset
  clear htab hset
  go_enter Tryd.func96, Tryd.ntmps96
  go_wp2
  go_loopw [0, 3] (fun g v wr => ∃ (k J' : Nat) (A : Option Addr) (c : Nat), k ≤ cs.length ∧ g = .int .u16 J' ∧ IsSet J' (cs.drop k) ∧ v = .slice A k c ∧ wr.ownsRow w.heap.size 3 1 (.slice A k c) k (icells ((cs.take k).map fun b : Nat => (b : Int))) ∧ Below w.heap.size w wr) (fun _ v _ => cs.length - sliceLen v)
  case atStart => exact ⟨0, J, none, 0, Nat.zero_le _, rfl, Hset.out, rfl, World.ownsRow_nil _ _ _ _, Below.refl _ _⟩
  case round =>
    obtain ⟨k, J', A, c, hk, rfl, hs, rfl, own, hb⟩ := hrel
    have s0 := hb.size
    by_cases hlt : k < cs.length
    · obtain ⟨a, ha⟩ := getSome cs k hlt
      have hdr : cs.drop k = a :: cs.drop (k + 1) := by
        rw [List.drop_eq_getElem_cons hlt]
        rw [List.getElem?_eq_getElem hlt] at ha
        rw [Option.some.inj ha]
      rw [hdr] at hs
      have hj := hs.pos
      have hsm := hs.small
      have hne : ((J' : Int) == 0) = false := by simp only [beq_eq_false_iff_ne, ne_eq]; omega
      have hne2 : ¬ ((J' : Int) = 0) := by omega
      have hnx := drop_least hs
      have hand : bits .and .u16 (J' : Int) ((J' : Int) - 1) = ((J' &&& (J' - 1) : Nat) : Int) := by
        rw [show (J' : Int) - 1 = ((J' - 1 : Nat) : Int) by omega]
        exact u16_and_nat J' (J' - 1) hsm (by omega)
      have htk : (cs.take (k + 1)).map (fun b : Nat => (b : Int)) = (cs.take k).map (fun b : Nat => (b : Int)) ++ [(a : Int)] := by
        rw [List.take_add_one, ha]; simp
      have call := tz16_any hs wr (HTab.out.below hb HTab.out.pos)
      have Call := Lib.hid call
      have Hand := Lib.hid hand
      have Htk := Lib.hid htk
      have Hnx := Lib.hid hnx
      have Own := Lib.hid own
      have Hb := Lib.hid hb
      clear ha hdr hs hj call hand htk hnx own hb
      go_wp2_with fail
      refine Call.out.mono ?_
      rintro e w1 ⟨rfl, rfl⟩
      go_wp2_with (at_builtin; refine wpList_append_own _ rfl _ _ 26 rfl w.heap.size 3 i0 _ 1 8 Tryd.underlying26 hi hz0 hz1 hz2 rfl (by decide) _ _ _ rfl (Own.out.alloc _) ⟨wr.heap.size, 0, none⟩ 1 1 [.int .i64 a] rfl rfl (one_cell (by simp)) (one_one rfl) (by unfold maxLen; omega) (by omega) (by simp; omega) ?_; intro v3 w3 own3 gr3 _; obtain ⟨A3, c3, rfl, _⟩ := own_shape own3)
      have hb3 : Below w.heap.size w w3 := (Hb.out.alloc (by omega) _).grown gr3 (by simp; omega) (fun k hk => (Own.out.lt k hk).1)
      rw [Hand.out]
      go_roundw
      case rel => exact ⟨k + 1, _, A3, c3, by omega, rfl, Hnx.out, by go_num, by rw [Htk.out, icells_append]; exact own3, hb3⟩
      case measure => simp [sliceLen]; omega
    · have hkl : k = cs.length := by omega
      subst hkl
      rw [List.drop_length] at hs
      have hz := hs.zero
      subst hz
      rw [List.take_length] at own
      have Own := Lib.hid own
      clear own
      go_wp2
      go_ret
      exact ⟨A, c, rfl, Own.out, hb⟩
end Go.Proofs.YtmiecebdkadhbaaDoor
/-
  'impl.distance', by its contract.
-/
namespace Go.Proofs.YtmiecebdkadhbaaDoor
open Go.RowKit

def distR (o : Int) : Int × Bool := if o < 0 then (0, false) else (o, true)
theorem distR_no {o : Int} (h : o = -1) : distR o = (0, false) := by subst h; rfl
theorem distR_at {o : Int} {d : Nat} (h : o = d) : distR o = ((d : Int), true) := by subst h; unfold distR; rw [if_neg (by omega)]
theorem crowdN_one (x : Nat) : crowdN [(x : Int)] = 2 ^ x := by
  have h := crowdN_snoc [] (x : Int)
  simpa [show crowdN [] = 0 from rfl] using h
/-- those who are reached -/
def reachL (n : Nat) (t : Nat → Nat → Bool) (a d : Nat) : List Nat := (List.range n).filter (rch n t a d)
theorem reach_set {n a d R : Nat} {t : Nat → Nat → Bool} (h : Reached n t a d R) (hn : n ≤ 12) (ha : a < n) (ht : ∀ y x, t y x = true → x < n) : IsSet R (reachL n t a d) := by
  refine ⟨List.pairwise_lt_range.filter _, fun x hx => by have := List.mem_range.1 (List.mem_filter.1 hx).1; omega, fun x => ?_⟩
  unfold reachL
  rw [h.bit, List.mem_filter, List.mem_range]
  exact ⟨fun e => ⟨rch_lt ha ht e, e⟩, fun e => e.2⟩
theorem reach_in {n a d x : Nat} {t : Nat → Nat → Bool} (h : x ∈ reachL n t a d) : x < n := List.mem_range.1 (List.mem_filter.1 h).1
theorem reach_len (n a d : Nat) (t : Nat → Nat → Bool) : (reachL n t a d).length ≤ n := Nat.le_trans (List.length_filter_le _ _) (by simp)
theorem bit_and {R b : Nat} : (R &&& 2 ^ b = 0) ↔ R.testBit b = false := by
  constructor
  · intro h
    have h1 : (R &&& 2 ^ b).testBit b = false := by rw [h, Nat.zero_testBit]
    rw [Nat.testBit_and, Nat.testBit_two_pow_self, Bool.and_true] at h1
    exact h1
  · intro h
    refine Nat.eq_of_testBit_eq fun i => ?_
    rw [Nat.testBit_and, Nat.zero_testBit, Nat.testBit_two_pow]
    by_cases hi : b = i
    · subst hi; rw [h]; rfl
    · rw [decide_eq_false hi, Bool.and_false]
set_option maxHeartbeats 1000000 in
set_option maxRecDepth 100000 in
theorem distance_any {T : Nat → Nat} {t : Nat → Nat → Bool} (hT : TiesOf T t) {n a b : Nat} (hn : n ≤ 12) (ha : a < n) (hb : b < n) (ht : ∀ y x, t y x = true → x < n) (w : World) (htab : TabW w) :
    Calls Tryd.prog 68 #[.agg (tcells T), .int .i64 a, .int .i64 b] w fun e w' => e = .returned (.tuple #[.int .i64 (distR (distO n t a b)).1, .bool (distR (distO n t a b)).2]) ∧ Below w.heap.size w w' := by
  obtain ⟨⟨rv, rok⟩, hres⟩ : ∃ x, distR (distO n t a b) = x := ⟨_, rfl⟩
  rw [hres]
  have Hres := Lib.hid hres
  have HTab := Lib.hid htab
  have hpos := htab.pos
  obtain ⟨X, hX⟩ : ∃ X, w.alloc (Obj.cells (tcells T) 83) = X := ⟨_, rfl⟩
  have row0 : X.rowIs w.heap.size 83 12 (fun j => .int .u16 (T j)) := by rw [← hX]; exact rowIs_u16 w _ _
  have zX1 : X.heap.size = w.heap.size + 1 := by rw [← hX]; simp
  have zX : w.heap.size < X.heap.size := by omega
  have kX : Below w.heap.size w X := by rw [← hX]; go_grown
  have hone : ∀ (x : Nat) (v : World), x < 12 → Calls Tryd.prog 78 #[.slice (some ⟨v.heap.size, 0, none⟩) 1 1] (v.alloc (Obj.cells #[.int .i64 x] 3)) fun e w' => e = .returned (.int .u16 ((2 ^ x : Nat) : Int)) ∧ v.alloc (Obj.cells #[.int .i64 x] 3) = w' := by
    intro x v hx
    have h := crowdOf_any [(x : Int)] (some ⟨v.heap.size, 0, none⟩) 1 (v.alloc (Obj.cells #[.int .i64 x] 3)) (fun y hy => by simp at hy; omega) (by simp) (fun j u hu => by
      refine ⟨v.heap.size, 0, rfl, by simp, ?_⟩
      match j, hu with
      | 0, hu => simp [icells] at hu; subst hu; simp
      | j + 1, hu => simp [icells] at hu)
    rw [crowdN_one, show ([(x : Int)]).length = 1 from rfl] at h
    exact h
  have ha16 : a < 16 := by omega
  have hb16 : b < 16 := by omega
  have honeA := fun v : World => hone a v (by omega)
  have honeB := fun v : World => hone b v (by omega)
  have hstart := Reached.begin n t ha16
  have hb2 := two_lt hb16
  have hbits := fun R : Nat => bit_and (R := R) (b := b)
  obtain ⟨Ja, hJa⟩ : ∃ J, 2 ^ a = J := ⟨_, rfl⟩
  obtain ⟨Jb, hJb⟩ : ∃ J, 2 ^ b = J := ⟨_, rfl⟩
  simp only [hJa] at honeA hstart
  simp only [hJb] at honeB hb2 hbits
  have HoneA := Lib.hid honeA
  have HoneB := Lib.hid honeB
  have Hstart := Lib.hid hstart
  have Hb2 := Lib.hid hb2
  have Hbits := Lib.hid hbits
  have Row := Lib.hid row0
  have KX := Lib.hid kX
  unfold tcells at hX ⊢
  have HX := Lib.hid hX
  have HT := Lib.hid hT
  have Ht := Lib.hid ht
  clear hres htab hX row0 kX hone hT ht honeA honeB hstart hb2 hbits hJa hJb
  go_enter Tryd.func68, Tryd.ntmps68
  go_wp2_with fail
  rw [HX.out]
  have cA := HoneA.out X
  rw [zX1] at cA
  refine cA.mono ?_
  clear cA
  rintro e w1 ⟨rfl, rfl⟩
  go_wp2
  go_loopw [8, 9] (fun len r wr => ∃ d R : Nat, len = .int .i64 d ∧ r = .int .u16 R ∧ Reached n t a d R ∧ (∀ e, e < d → rch n t a e b = false) ∧ Below X.heap.size X wr) (fun _ r _ => 65536 - (intOf r).toNat)
  case atStart => exact ⟨0, Ja, rfl, rfl, Hstart.out, fun e he => by omega, by go_grown⟩
  case round =>
    obtain ⟨d, R, rfl, rfl, hre, hno, hbx⟩ := hrel
    have sx := hbx.size
    have hR := hre.lt
    have hdR := hre.most
    have hand := u16_and_nat R Jb hR Hb2.out
    have hzz := Hbits.out R
    obtain ⟨Z, hZ⟩ : ∃ Z, R &&& Jb = Z := ⟨_, rfl⟩
    rw [hZ] at hand hzz
    clear hZ
    have Hre := Lib.hid hre
    have Hno := Lib.hid hno
    clear hre hno
    cases hbit : R.testBit b with
    | true =>
      have hz1 : Z ≠ 0 := fun h => by rw [hzz.1 h] at hbit; cases hbit
      have hz : ((Z : Int) == 0) = false := by
        simp only [beq_eq_false_iff_ne, ne_eq]
        omega
      have e := Hres.out
      rw [distR_at (Hre.out.found hbit Hno.out)] at e
      simp only [Prod.mk.injEq] at e
      obtain ⟨rfl, rfl⟩ := e
      clear hbit hz1 hzz
      go_wp2_with fail
      refine (HoneB.out wr).mono ?_
      rintro e w2 ⟨rfl, rfl⟩
      go_wp2
      go_ret2
      exact ⟨rfl, KX.out.trans ((hbx.alloc sx _).mono (Nat.le_of_lt zX))⟩
    | false =>
      have hz1 : Z = 0 := hzz.2 hbit
      subst hz1
      have hset := reach_set Hre.out hn ha Ht.out
      have Hset := Lib.hid hset
      have Hbit := Lib.hid hbit
      clear hzz hset hbit
      go_wp2_with fail
      refine (HoneB.out wr).mono ?_
      rintro e w2 ⟨rfl, rfl⟩
      have g2 : Below X.heap.size X (wr.alloc (Obj.cells #[.int .i64 b] 3)) := hbx.alloc sx _
      have k2 : Below w.heap.size w (wr.alloc (Obj.cells #[.int .i64 b] 3)) := KX.out.trans (g2.mono (Nat.le_of_lt zX))
      obtain ⟨cs, hcs⟩ : ∃ cs, reachL n t a d = cs := ⟨_, rfl⟩
      have hin : ∀ x ∈ cs, x < n := fun x hx => by rw [← hcs] at hx; exact reach_in hx
      have hlen : cs.length ≤ 12 := by rw [← hcs]; exact Nat.le_trans (reach_len n a d t) hn
      have call := peopleOf_any Hset.out _ (HTab.out.below k2 hpos)
      rw [hcs] at call
      have hmem : ∀ x, R.testBit x = true ↔ x ∈ cs := fun x => by rw [← hcs]; exact Hset.out.mem x
      have Hin := Lib.hid hin
      have Hmem := Lib.hid hmem
      have Call := Lib.hid call
      clear hin hmem call hcs
      go_wp2_with fail
      refine Call.out.mono ?_
      rintro e w3 ⟨A3, c3, rfl, own3, hb3⟩
      have g3 : Below X.heap.size X w3 := g2.trans (hb3.mono g2.size)
      have s3 := g3.size
      have row3 : w3.rowIs w.heap.size 83 12 (fun j => .int .u16 (T j)) := by obtain ⟨cc, h1, h2⟩ := Row.out; exact ⟨cc, (g3.block _ zX).trans h1, h2⟩
      have rd := CRead.of_own own3
      have Row3 := Lib.hid row3
      have Rd := Lib.hid rd
      clear row3 rd own3 Call hand
      go_wp2
      go_loop [9, 26] (fun r i => ∃ j : Nat, j ≤ cs.length ∧ i = .int .i64 j ∧ r = .int .u16 (orT T (cs.take j) R)) (fun _ i => cs.length - (intOf i).toNat)
      case atStart => exact ⟨0, Nat.zero_le _, rfl, rfl⟩
      case round =>
        obtain ⟨j, hj, rfl, rfl⟩ := hrel
        have hlt16 : orT T (cs.take j) R < 65536 := orT_small T _ R hR fun c hc => HT.out.lt c (by have := Hin.out c (List.mem_of_mem_take hc); omega)
        by_cases hlt : j < cs.length
        · obtain ⟨x, hx⟩ := getSome cs j hlt
          have hxn := Hin.out x (List.mem_of_getElem? hx)
          have hxT := HT.out.lt x (by omega)
          obtain ⟨bb, off, rfl, hbb, c0⟩ := Rd.out.int (show (cs.map fun b : Nat => (b : Int))[j]? = some (x : Int) by rw [List.getElem?_map, hx]; rfl)
          have ct := Row3.out.cell (i := x) (by omega)
          have hor := u16_or_nat _ _ hlt16 hxT
          have hnx : orT T (cs.take (j + 1)) R = orT T (cs.take j) R ||| T x := by rw [List.take_add_one, hx, Option.toList_some, orT_snoc]
          have Hnx := Lib.hid hnx
          have hji : (j : Int) < (cs.length : Int) := by omega
          have hx12 : (x : Int) < 12 := by omega
          obtain ⟨V, hV⟩ : ∃ V, orT T (cs.take j) R = V := ⟨_, rfl⟩
          rw [hV] at hor hlt16 ⊢
          rw [hV] at Hnx
          clear hx hnx hV
          go_wp2
          go_round
          case rel => exact ⟨j + 1, by omega, by go_num, by rw [Hnx.out]⟩
          case measure => simp [intOf]; omega
        · have hjl : j = cs.length := by omega
          subst hjl
          have hge : ¬ ((cs.length : Int) < (cs.length : Int)) := by omega
          rw [List.take_length] at hlt16 ⊢
          by_cases heq : orT T cs R = R
          · have e := Hres.out
            rw [distR_no (Hre.out.stop Hmem.out Hin.out (fun c x hc => by
              by_cases hx : x < 16
              · exact HT.out.bit c x (by have := Hin.out c hc; omega) hx
              · rw [Nat.testBit_lt_two_pow (Nat.lt_of_lt_of_le (HT.out.lt c (by have := Hin.out c hc; omega)) (Nat.pow_le_pow_right (n := 2) (i := 16) (by omega) (by omega)))]
                cases hh : t c x with
                | false => rfl
                | true => have := Ht.out c x hh; omega) heq Hbit.out)] at e
            simp only [Prod.mk.injEq] at e
            obtain ⟨rfl, rfl⟩ := e
            rw [heq]
            have hRR : ((R : Int) == (R : Int)) = true := by simp
            clear heq hlt16
            go_wp2
            go_ret2
            exact ⟨rfl, KX.out.trans (g3.mono (Nat.le_of_lt zX))⟩
          · have hst := Hre.out.step (T := T) Hmem.out Hin.out (fun c x hc => by
              by_cases hx : x < 16
              · exact HT.out.bit c x (by have := Hin.out c hc; omega) hx
              · rw [Nat.testBit_lt_two_pow (Nat.lt_of_lt_of_le (HT.out.lt c (by have := Hin.out c hc; omega)) (Nat.pow_le_pow_right (n := 2) (i := 16) (by omega) (by omega)))]
                cases hh : t c x with
                | false => rfl
                | true => have := Ht.out c x hh; omega) (fun c hc => HT.out.lt c (by have := Hin.out c hc; omega)) heq
            have hge2 := orT_ge T cs R
            obtain ⟨V, hV⟩ : ∃ V, orT T cs R = V := ⟨_, rfl⟩
            rw [hV] at hst heq hge2 hlt16 ⊢
            have hne : ((V : Int) == (R : Int)) = false := by simp only [beq_eq_false_iff_ne, ne_eq]; omega
            have Hst := Lib.hid hst
            have Hno2 := Lib.hid (show ∀ e, e < d + 1 → rch n t a e b = false from fun e he => by
              by_cases hed : e = d
              · rw [hed, ← Hre.out.bit]; exact Hbit.out
              · exact Hno.out e (by omega))
            clear hst hV
            go_wp2
            go_roundw
            case rel => exact ⟨d + 1, V, by go_num, rfl, Hst.out, Hno2.out, g3⟩
            case measure => simp [intOf]; omega
end Go.Proofs.YtmiecebdkadhbaaDoor
/-
  'ShortestRound': the program's, by its contract.
-/
namespace Go.Proofs.YtmiecebdkadhbaaDoor
open Go.RowKit

theorem stepR_yes {m d : Int} (h : 0 < d) (h2 : m = 0 ∨ d + 1 < m) : stepR m d = d + 1 := if_pos ⟨h, h2⟩
theorem stepR_no {m d : Int} (h : ¬ (0 < d ∧ (m = 0 ∨ d + 1 < m))) : stepR m d = m := if_neg h
set_option maxHeartbeats 1000000 in
set_option maxRecDepth 100000 in
theorem implShortestRound_any (p : Int) (l : PL) (A : Option Addr) (c : Nat) (w : World) (hl : l.length ≤ 1048576) (hA : CRead w w.heap.size A (pcells l)) (htab : TabW w) :
    Calls Tryd.prog 37 #[.agg #[.int .i64 p, .slice A l.length c]] w fun e w' => e = .returned (.tuple #[.int .i64 (resShortestRound p l).1, .bool (resShortestRound p l).2]) ∧ Below w.heap.size w w' := by
  have hr : CRead (w.alloc (Obj.cells #[.int .i64 p, .slice A l.length c] 31)) (w.alloc (Obj.cells #[.int .i64 p, .slice A l.length c] 31)).heap.size A (pcells l) := (hA.below (B' := w.heap.size) (by go_grown) (Nat.le_refl _)).more (by go_size)
  obtain ⟨⟨rv, rok⟩, hres⟩ : ∃ x, resShortestRound p l = x := ⟨_, rfl⟩
  rw [hres]
  have HTab := Lib.hid htab
  have hpos := htab.pos
  clear htab
  cases hp : isP p l with
  | false =>
    have e : (rv, rok) = (0, false) := by rw [← hres]; unfold resShortestRound; rw [hp]; rfl
    simp only [Prod.mk.injEq] at e
    obtain ⟨rfl, rfl⟩ := e
    have Hp := Lib.hid hp
    clear hp hres
    go_enter Tryd.func37, Tryd.ntmps37
    go_wp2_with fail
    refine (isParty_any _ _ _ _ _ hl hr).mono ?_
    rw [Hp.out]
    rintro e w2 ⟨rfl, hb2⟩
    simp only [World.size_alloc] at hb2
    go_wp2
    go_ret2
    exact ⟨rfl, Below.trans (b := _) (by go_grown) (hb2.mono (by omega))⟩
  | true =>
    obtain ⟨n, rfl⟩ : ∃ n : Nat, p = n := ⟨p.toNat, by have := isP_range hp; omega⟩
    have hn := isP_range hp
    have hn12 : n ≤ 12 := by omega
    have hlen : l.length ≤ 66 := by have h1 := isP_length hp; have h2 := people_sq hn.1 hn.2; omega
    have e : (rv, rok) = (foldR (farC n l) l, decide (0 < foldR (farC n l) l)) := by rw [← hres]; unfold resShortestRound; rw [hp]; rfl
    have hnx := fun k q (h : l[k]? = some q) => foldR_next (F := farC n l) h
    have hgood : ∀ q ∈ l, 0 ≤ q.1 ∧ q.1 < q.2 ∧ q.2 < n := (isP_list hp).2.2.1
    obtain ⟨F, hF⟩ : ∃ F, (fun k => foldR (farC n l) (l.take k)) = F := ⟨_, rfl⟩
    have hF2 : ∀ k, foldR (farC n l) (l.take k) = F k := fun k => by rw [← hF]
    have h00 : F 0 = 0 := by rw [← hF2]; rfl
    have hfin : foldR (farC n l) l = F l.length := by rw [← hF2, List.take_length]
    rw [hfin] at e
    simp only [hF2] at hnx
    have Hnx := Lib.hid hnx
    have E := Lib.hid e
    have H00 := Lib.hid h00
    have Hgood := Lib.hid hgood
    have Hp := Lib.hid hp
    clear hp hres e hnx hgood h00 hfin hF hF2
    go_enter Tryd.func37, Tryd.ntmps37
    go_wp2_with fail
    refine (isParty_any _ _ _ _ _ hl hr).mono ?_
    rw [Hp.out]
    rintro e w2 ⟨rfl, hb2⟩
    have s2 := hb2.size
    have k2 : Below w.heap.size w w2 := Below.trans (b := _) (by go_grown) (hb2.mono (by simp))
    have c0 : w2.cell? ⟨w.heap.size, 0, none⟩ = some (.int .i64 n) := carry hb2 (by simp) (by simp)
    have c1 : w2.cell? ⟨w.heap.size, 1, none⟩ = some (.slice A l.length c) := carry hb2 (by simp) (by simp)
    simp only [World.size_alloc] at s2
    have K2 := Lib.hid k2
    clear hb2 k2
    go_wp2
    go_loopw [4, 5, 16] (fun m f i wr => ∃ k : Nat, k ≤ l.length ∧ i = .int .i64 k ∧ m = .int .i64 (F k) ∧ f = .bool (decide (0 < F k)) ∧ (0 ≤ F k ∧ F k ≤ 13) ∧ Below w2.heap.size w2 wr) (fun _ _ i _ => l.length - (intOf i).toNat)
    case atStart => exact ⟨0, Nat.zero_le _, rfl, by rw [H00.out], by rw [H00.out]; rfl, by rw [H00.out]; omega, Below.refl _ _⟩
    case round =>
      obtain ⟨k, hk, rfl, rfl, rfl, hFk, hb⟩ := hrel
      have sb := hb.size
      by_cases hlt : k < l.length
      · obtain ⟨⟨x', y'⟩, hx⟩ := getSome l k hlt
        have hq := Hgood.out _ (List.mem_of_getElem? hx)
        simp only at hq
        obtain ⟨x, rfl⟩ : ∃ x : Nat, x' = x := ⟨x'.toNat, by omega⟩
        obtain ⟨y, rfl⟩ : ∃ x : Nat, y' = x := ⟨y'.toNat, by omega⟩
        have RA := hA.below (K2.out.trans (hb.mono K2.out.size)) (Nat.le_refl _)
        obtain ⟨bb, off, rfl, hbb, u0, u1⟩ := RA.pair hx
        have hki : (k : Int) < (l.length : Int) := by omega
        have hnext := Hnx.out k _ hx
        have hadj : adj l x y = true := by rw [adj_pair Hp.out (show x < y by omega)]; exact List.contains_iff_mem.2 (List.mem_of_getElem? hx)
        have hcut := adj_cut Hp.out (show x < y by omega) hadj
        have hfp := flipped_isP hn12 l (x : Int) (y : Int)
        have hlt2 := cutT_lt Hp.out x y
        have hdist := fun (v : World) (hv : TabW v) => distance_any (friendsT_of hfp) (n := n) hn12 (show x < n by omega) (show y < n by omega) (by rw [hcut]; exact hlt2) v hv
        have hsm := dist_small (n := n) (a := x) (x := y) (show x < n by omega) hlt2
        have hps := dist_pos (n := n) (a := x) (x := y) (t := cutT (adj l) x y) (by omega)
        have hge1 := distO_ge n (cutT (adj l) x y) x y
        rw [hcut] at hdist
        have hfar : farC n l ((x : Int), (y : Int)) = distO n (cutT (adj l) x y) x y := rfl
        rw [hfar] at hnext
        obtain ⟨d, hd⟩ : ∃ d, distO n (cutT (adj l) x y) x y = d := ⟨_, rfl⟩
        simp only [hd] at hdist hnext hsm hps hge1
        have hturn := fun (X : World) hX => turned_any n l (some ⟨bb, off, none⟩) c x y X Hp.out hX
        simp only [Int.toNat_natCast] at hturn
        obtain ⟨M, hM⟩ : ∃ M, flipped n l x y = M := ⟨_, rfl⟩
        rw [hM] at hfp
        simp only [hM] at hturn hdist
        have hfr := fun (A' : Option Addr) (c' : Nat) (X : World) hX => friendsIn_any n M A' c' X hfp hX
        unfold tcells at hfr hdist
        have Hdist := Lib.hid hdist
        have Hnext := Lib.hid hnext
        have Hturn := Lib.hid hturn
        have Hfr := Lib.hid hfr
        have z0 := carry hb c0 (by omega)
        have z1 := carry hb c1 (by omega)
        obtain ⟨Y, hY⟩ : ∃ Y, wr.alloc (Obj.cells #[.int .i64 x, .int .i64 y] 78) = Y := ⟨_, rfl⟩
        have m0 : Y.cell? ⟨wr.heap.size, 0, none⟩ = some (.int .i64 x) := by rw [← hY]; simp
        have m1 : Y.cell? ⟨wr.heap.size, 1, none⟩ = some (.int .i64 y) := by rw [← hY]; simp
        have sY : wr.heap.size < Y.heap.size := by rw [← hY]; simp
        have kY : Below wr.heap.size wr Y := by rw [← hY]; go_grown
        have n0 := carry kY z0 (by show w.heap.size < wr.heap.size; omega)
        have n1 := carry kY z1 (by show w.heap.size < wr.heap.size; omega)
        have KY := Lib.hid (hb.trans (kY.mono sb))
        have HY := Lib.hid hY
        clear hnext hadj hcut hfp hlt2 hdist hfar hd hturn hM hfr z0 z1 hx hq kY hY hb
        go_wp2_with fail
        rw [HY.out]
        have RY : CRead Y Y.heap.size (some ⟨bb, off, none⟩) (pcells l) := ((hA.below (K2.out.trans (KY.out.mono K2.out.size)) (Nat.le_refl _))).more (by have := KY.out.size; have := K2.out.size; omega)
        have RYd : CRead Y.drew Y.drew.heap.size (some ⟨bb, off, none⟩) (pcells l) := show CRead Y.drew Y.heap.size (some ⟨bb, off, none⟩) (pcells l) from RY.below (B' := Y.heap.size) (Below.refl _ _).drew (Nat.le_refl _)
        clear RA u0 u1
        go_region_held3 (fun w' => w'.cell? ⟨wr.heap.size, 0, none⟩ = some (.int .i64 x) ∧ w'.cell? ⟨wr.heap.size, 1, none⟩ = some (.int .i64 y) ∧ w'.cell? ⟨w.heap.size, 0, none⟩ = some (.int .i64 n) ∧ w'.cell? ⟨w.heap.size, 1, none⟩ = some (.slice (some ⟨bb, off, none⟩) l.length c)) (first | exact ⟨m0, m1, n0, n1⟩ | exact ⟨b0, b1, b2, b3⟩ | exact ⟨d0, d1, d2, d3⟩ | exact ⟨f0, f1, f2, f3⟩) ((first
          | (go_at_call 70; refine (Hturn.out Y.drew RYd).mono ?_; rintro e w4 ⟨A4, c4, rfl, own4, hb4⟩; have g4 : Below Y.heap.size Y w4 := (Below.refl _ _).drew.trans hb4; have b0 := carry g4 m0 (by omega); have b1 := carry g4 m1 (by omega); have b2 := carry g4 n0 (by show w.heap.size < Y.heap.size; omega); have b3 := carry g4 n1 (by show w.heap.size < Y.heap.size; omega); have s4 := g4.size)
          | (go_at_call 69; refine (Hfr.out A4 c4 _ (CRead.of_own own4)).mono ?_; rintro e w5 ⟨rfl, _, hb5⟩; have d0 := carry hb5 b0 (by show wr.heap.size < _; omega); have d1 := carry hb5 b1 (by show wr.heap.size < _; omega); have d2 := carry hb5 b2 (by show w.heap.size < _; omega); have d3 := carry hb5 b3 (by show w.heap.size < _; omega); have s5 := hb5.size; have g5 := g4.trans (hb5.mono s4))
          | (go_at_call 68; refine (Hdist.out _ (HTab.out.below (K2.out.trans ((KY.out.trans (g5.mono (by have := KY.out.size; omega))).mono K2.out.size)) hpos)).mono ?_; rintro e w6 ⟨rfl, hb6⟩; have f0 := carry hb6 d0 (by show wr.heap.size < _; omega); have f1 := carry hb6 d1 (by show wr.heap.size < _; omega); have f2 := carry hb6 d2 (by show w.heap.size < _; omega); have f3 := carry hb6 d3 (by show w.heap.size < _; omega); have g6 := g5.trans (hb6.mono (by omega)))
          | skip))
        have G6 := Lib.hid (KY.out.trans (g6.mono (by have := KY.out.size; omega)))
        by_cases hneg : d < 0
        · have e2 : distR d = (0, false) := if_pos hneg
          have hn2 : F (k + 1) = F k := by rw [Hnext.out]; exact stepR_no (by omega)
          have Hn2 := Lib.hid hn2
          rw [e2]
          clear e2 hn2
          go_wp2
          go_roundw
          case rel => exact ⟨k + 1, by omega, by go_num, by rw [Hn2.out], by rw [Hn2.out], by rw [Hn2.out]; exact hFk, G6.out⟩
          case measure => simp [intOf]; omega
        · have e2 : distR d = (d, true) := if_neg hneg
          rw [e2]
          have hstep := Hnext.out
          have Hst := Lib.hid (stepR_in (m := F k) (d := d) hFk (by omega))
          have hd0 : 0 ≤ d + 1 := by omega
          by_cases h0 : F k = 0
          · have hn2 : F (k + 1) = d + 1 := by rw [hstep]; exact stepR_yes (by omega) (.inl h0)
            have hdec : decide (0 < F k) = false := decide_eq_false (by omega)
            rw [hdec]
            have Hn2 := Lib.hid hn2
            clear hn2 hdec hstep h0 hFk e2
            go_wp2
            go_roundw
            case rel => exact ⟨k + 1, by omega, by go_num, by rw [Hn2.out], by rw [Hn2.out, decide_eq_true (by omega)], by rw [Hn2.out]; omega, G6.out⟩
            case measure => simp [intOf]; omega
          · have hdec : decide (0 < F k) = true := decide_eq_true (by omega)
            rw [hdec]
            by_cases h1 : d + 1 < F k
            · have hn2 : F (k + 1) = d + 1 := by rw [hstep]; exact stepR_yes (by omega) (.inr h1)
              have Hn2 := Lib.hid hn2
              clear hn2 hdec hstep h0 e2
              go_wp2
              go_roundw
              case rel => exact ⟨k + 1, by omega, by go_num, by rw [Hn2.out], by rw [Hn2.out, decide_eq_true (by omega)], by rw [Hn2.out]; omega, G6.out⟩
              case measure => simp [intOf]; omega
            · have hn2 : F (k + 1) = F k := by rw [hstep]; exact stepR_no (by omega)
              have Hn2 := Lib.hid hn2
              have Hdec := Lib.hid hdec
              clear hn2 hdec hstep e2
              go_wp2
              go_roundw
              case rel => exact ⟨k + 1, by omega, by go_num, by rw [Hn2.out], by rw [Hn2.out, Hdec.out], by rw [Hn2.out]; exact hFk, G6.out⟩
              case measure => simp [intOf]; omega
      · have hkl : k = l.length := by omega
        subst hkl
        have hge : ¬ ((l.length : Int) < (l.length : Int)) := by omega
        have e := E.out
        simp only [Prod.mk.injEq] at e
        obtain ⟨rfl, rfl⟩ := e
        go_wp2
        go_ret2
        exact ⟨rfl, K2.out.trans (hb.mono K2.out.size)⟩
end Go.Proofs.YtmiecebdkadhbaaDoor
/-
  'FriendsOf': the model's and the program's, by their contracts.
-/
namespace Go.Proofs.YtmiecebdkadhbaaDoor
open Go.RowKit

def friendsI (l : PL) (a : Int) : List Int := l.filterMap fun q => if q.1 = a then some q.2 else if q.2 = a then some q.1 else none
def friendR (n : Nat) (t : Nat → Bool) : List Int := ((List.range n).filter t).map fun b : Nat => (b : Int)
theorem isorted_ext : ∀ {l m : List Int}, l.Pairwise (· < ·) → m.Pairwise (· < ·) → (∀ q, q ∈ l ↔ q ∈ m) → l = m
  | [], [], _, _, _ => rfl
  | [], b :: m, _, _, h => by have := (h b).2 (List.mem_cons_self ..); cases this
  | a :: l, [], _, _, h => by have := (h a).1 (List.mem_cons_self ..); cases this
  | a :: l, b :: m, hl, hm, h => by
    rw [List.pairwise_cons] at hl hm
    have hab : a = b := by
      rcases List.mem_cons.1 ((h a).1 (List.mem_cons_self ..)) with e | e
      · exact e
      · rcases List.mem_cons.1 ((h b).2 (List.mem_cons_self ..)) with e' | e'
        · exact e'.symm
        · have h1 := hm.1 a e; have h2 := hl.1 b e'; omega
    subst hab
    rw [isorted_ext hl.2 hm.2 fun q => ?_]
    constructor
    · intro hq
      rcases List.mem_cons.1 ((h q).1 (List.mem_cons_of_mem _ hq)) with e | e
      · subst e; have := hl.1 q hq; omega
      · exact e
    · intro hq
      rcases List.mem_cons.1 ((h q).2 (List.mem_cons_of_mem _ hq)) with e | e
      · subst e; have := hm.1 q hq; omega
      · exact e
theorem friendR_sorted (n : Nat) (t : Nat → Bool) : (friendR n t).Pairwise (· < ·) := by
  unfold friendR
  rw [List.pairwise_map]
  exact List.Pairwise.imp (fun {a b} h => by omega) ((List.pairwise_lt_range (n := n)).filter _)
theorem friendsI_sorted {p : Int} {l : PL} (h : isP p l = true) (a : Int) : (friendsI l a).Pairwise (· < ·) := by
  obtain ⟨_, _, hm, hs⟩ := isP_list h
  unfold friendsI
  rw [List.pairwise_filterMap]
  refine List.Pairwise.imp_of_mem (fun {q q'} hq hq' hlt u hu v hv => ?_) hs
  have h1 := hm q hq
  have h2 := hm q' hq'
  unfold plt at hlt
  split at hu
  · split at hv
    · simp at hu hv; omega
    · split at hv
      · simp at hu hv; omega
      · cases hv
  · split at hu
    · split at hv
      · simp at hu hv; omega
      · split at hv
        · simp at hu hv; omega
        · cases hv
    · cases hu
theorem friends_same {n : Nat} {l : PL} (h : isP n l = true) (a : Nat) : friendR n (adj l a) = friendsI l a := by
  refine isorted_ext (friendR_sorted _ _) (friendsI_sorted h _) fun x => ?_
  obtain ⟨_, _, hm, _⟩ := isP_list h
  simp only [friendR, friendsI, List.mem_map, List.mem_filter, List.mem_range, List.mem_filterMap, adj, Bool.or_eq_true, List.contains_iff_mem]
  constructor
  · rintro ⟨b, ⟨_, hb | hb⟩, rfl⟩
    · exact ⟨_, hb, by simp⟩
    · refine ⟨_, hb, ?_⟩
      have := hm _ hb
      simp only at this ⊢
      rw [if_neg (by omega)]; simp
  · rintro ⟨q, hq, he⟩
    have := hm q hq
    obtain ⟨u, v⟩ := q
    simp only at this he
    split at he
    · rename_i hu
      simp at he
      subst hu
      refine ⟨x.toNat, ⟨by omega, .inl ?_⟩, by omega⟩
      rw [show ((x.toNat : Nat) : Int) = v from by omega]
      exact hq
    · split at he
      · rename_i hv
        simp at he
        subst hv
        refine ⟨x.toNat, ⟨by omega, .inr ?_⟩, by omega⟩
        rw [show ((x.toNat : Nat) : Int) = u from by omega]
        exact hq
      · cases he
theorem friendsI_le (l : PL) (a : Int) : (friendsI l a).length ≤ l.length := List.length_filterMap_le _ _
theorem friendsI_snoc (l : PL) (x y a : Int) : friendsI (l ++ [(x, y)]) a = friendsI l a ++ if x = a then [y] else if y = a then [x] else [] := by
  unfold friendsI
  rw [List.filterMap_append]
  congr 1
  simp only [List.filterMap_cons, List.filterMap_nil]
  by_cases h1 : x = a
  · simp [h1]
  · by_cases h2 : y = a <;> simp [h1, h2]
theorem friendR_snoc (k : Nat) (t : Nat → Bool) : friendR (k + 1) t = friendR k t ++ if t k = true then [(k : Int)] else [] := by
  unfold friendR
  rw [List.range_succ, List.filter_append, List.map_append]
  congr 1
  by_cases h : t k = true <;> simp [h]
theorem friendR_le (k : Nat) (t : Nat → Bool) : (friendR k t).length ≤ k := by
  unfold friendR
  rw [List.length_map]
  exact Nat.le_trans (List.length_filter_le _ _) (by simp)

set_option maxHeartbeats 1000000 in
set_option maxRecDepth 100000 in
theorem paFriends_any (n a : Nat) (t : Nat → Nat → Bool) (A : Option Addr) (c : Nat) (G : Nat → Nat) (B : Nat) (w : World) (hn : n ≤ 12) (ha : a < n) (tab : TabG w B (.slice A n c) n n G t) :
    Calls Tryd.prog 86 #[.slice A n c, .int .i64 a] w fun e w' => ∃ A' c', e = .returned (.slice A' (friendR n (t a)).length c') ∧
      w'.ownsRow w.heap.size 3 1 (.slice A' (friendR n (t a)).length c') (friendR n (t a)).length (icells (friendR n (t a))) ∧ Below w.heap.size w w' := by
  obtain ⟨i0, hi, hz0, hz1, hz2⟩ := info_parts Tryd.infoInt
  obtain ⟨g, rfl⟩ := own_form tab.own (by omega)
  have d0 := tab.outer ha
  have hai : (a : Int) < n := by omega
  go_enter Tryd.func86, Tryd.ntmps86
  go_wp2
  clear d0
  go_loopw [5, 13] (fun v i wr => ∃ k : Nat, k ≤ n ∧ i = .int .i64 k ∧ wr.ownsRow w.heap.size 3 1 v (friendR k (t a)).length (icells (friendR k (t a))) ∧ Below w.heap.size w wr) (fun _ i _ => n - (intOf i).toNat)
  case atStart => exact ⟨0, Nat.zero_le _, rfl, World.ownsRow_nil _ _ _ _, Below.refl _ _⟩
  case round =>
    obtain ⟨k, hk, rfl, hown, hb⟩ := hrel
    have hs := hb.size
    by_cases hlt : k < n
    · have hki : (k : Int) < n := by omega
      have d1 := (tab.below hb (Nat.le_refl _)).cell ha hlt
      have hle := friendR_le k (t a)
      have Hsn := Lib.hid (friendR_snoc k (t a))
      cases ht : t a k with
      | false =>
        rw [ht] at d1
        have Ht := Lib.hid ht
        clear ht
        go_wp2
        go_roundw
        case rel =>
          refine ⟨k + 1, by omega, by go_num, ?_, hb⟩
          rw [Hsn.out, Ht.out]
          simp only [Bool.false_eq_true, if_false, List.append_nil]
          exact hown
        case measure => simp [intOf]; omega
      | true =>
        rw [ht] at d1
        have Ht := Lib.hid ht
        clear ht
        go_wp2_with (at_builtin; refine wpList_append_own _ rfl _ _ 26 rfl w.heap.size 3 i0 _ 1 8 Tryd.underlying26 hi hz0 hz1 hz2 rfl (by decide) _ _ _ rfl (hown.alloc _) ⟨wr.heap.size, 0, none⟩ 1 1 [.int .i64 k] rfl rfl (one_cell (by simp)) (one_one rfl) (by unfold maxLen; omega) (by omega) (by simp; omega) ?_; intro v1 w3 hown3 hg3 _; obtain ⟨A1, d1', rfl, _⟩ := own_shape hown3)
        go_roundw
        case rel =>
          refine ⟨k + 1, by omega, by go_num, ?_, ?_⟩
          · rw [Hsn.out, Ht.out]
            simp only [if_true]
            rw [icells_append, List.length_append]
            exact hown3
          · exact (hb.alloc hs _).grown hg3 (by simp; omega) (fun k hk => (hown.lt k hk).1)
        case measure => simp [intOf]; omega
    · have hkl : n = k := by omega
      subst hkl
      have hge : ¬ ((n : Int) < n) := by omega
      obtain ⟨A', c', rfl, _⟩ := own_shape hown
      have Hown := Lib.hid hown
      clear hown
      go_wp2
      go_ret
      exact ⟨A', c', rfl, Hown.out, hb⟩

def resFriendsOf (p : Int) (l : PL) (a : Int) : List Int × Bool := if isP p l && isMan p a then (friendsI l a, true) else ([], false)
theorem resFriendsOf_len (p : Int) (l : PL) (a : Int) : (resFriendsOf p l a).1.length ≤ 1048576 := by
  unfold resFriendsOf
  split
  · rename_i h
    simp only [Bool.and_eq_true] at h
    have h1 := isP_length h.1
    have h2 := isP_range h.1
    have h3 := people_sq h2.1 h2.2
    have h4 := friendsI_le l a
    show (friendsI l a).length ≤ 1048576
    omega
  · simp

end Go.Proofs.YtmiecebdkadhbaaDoor
