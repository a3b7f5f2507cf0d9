/-
  TWO PAIRS EXCHANGED, as plain lists and as tables. Nothing here speaks of the program.
-/
import Derived.Test.YtaemodpolopcfaaNameP
import Derived.Test.YtaemodpolopcfaaAre
namespace Go.Proofs.Ytaemodpolopcfaa
open Go.RowKit

/-- four people of p, each one another -/
def fourI (p a b c d : Int) : Bool := decide ((0 ≤ a ∧ a < p) ∧ (0 ≤ b ∧ b < p) ∧ (0 ≤ c ∧ c < p) ∧ (0 ≤ d ∧ d < p) ∧ a ≠ b ∧ a ≠ c ∧ a ≠ d ∧ b ≠ c ∧ b ≠ d ∧ c ≠ d)
theorem fourI_parts {p a b c d : Int} (h : fourI p a b c d = true) : (0 ≤ a ∧ a < p) ∧ (0 ≤ b ∧ b < p) ∧ (0 ≤ c ∧ c < p) ∧ (0 ≤ d ∧ d < p) ∧ a ≠ b ∧ a ≠ c ∧ a ≠ d ∧ b ≠ c ∧ b ≠ d ∧ c ≠ d := of_decide_eq_true h
theorem fourI_not {p a b c d : Int} (h : ¬ ((0 ≤ a ∧ a < p) ∧ (0 ≤ b ∧ b < p) ∧ (0 ≤ c ∧ c < p) ∧ (0 ≤ d ∧ d < p) ∧ a ≠ b ∧ a ≠ c ∧ a ≠ d ∧ b ≠ c ∧ b ≠ d ∧ c ≠ d)) : fourI p a b c d = false := decide_eq_false h
/-- the pairs that can be exchanged -/
def canX (l : PL) (a b c d : Int) : Bool := (areF l a b && areF l c d) && (!areF l a c && !areF l b d)
def exchP (n : Nat) (l : PL) (a b c d : Int) : PL := (allP n).filter fun q => if q = (min b d, max b d) then true else if q = (min a c, max a c) then true else if q = (min c d, max c d) then false else if q = (min a b, max a b) then false else l.contains q
def resExchangePairs (p : Int) (l : PL) (a b c d : Int) : Int × PL × Bool := if isP p l && fourI p a b c d && canX l a b c d then (p, exchP p.toNat l a b c d, true) else (0, [], false)
theorem resExchangePairs_len (p : Int) (l : PL) (a b c d : Int) : (resExchangePairs p l a b c d).2.1.length ≤ 1048576 := by
  unfold resExchangePairs
  split
  · rename_i h
    simp only [Bool.and_eq_true] at h
    have := isP_range h.1.1
    exact Nat.le_trans (filter_length_le (n := p.toNat) (by omega) _) (by omega)
  · simp
/-- a table set at a pair, both ways -/
def upd2 (t : Nat → Nat → Bool) (a b : Nat) (x : Bool) : Nat → Nat → Bool := upd (upd t a b x) b a x
theorem upd2_at {t : Nat → Nat → Bool} {a b : Nat} {x : Bool} {i j : Nat} (hij : i < j) : upd2 t a b x i j = if (((i : Int), (j : Int)) : Int × Int) = (min (a : Int) b, max (a : Int) b) then x else t i j := by
  unfold upd2 upd
  by_cases h1 : i = b ∧ j = a
  · rw [if_pos h1, if_pos]
    simp only [Prod.mk.injEq]
    omega
  · by_cases h2 : i = a ∧ j = b
    · rw [if_neg h1, if_pos h2, if_pos]
      simp only [Prod.mk.injEq]
      omega
    · rw [if_neg h1, if_neg h2, if_neg]
      simp only [Prod.mk.injEq]
      omega
theorem tabP_exch {n : Nat} {l : PL} (h : isP n l = true) (a b c d : Nat) : tabP n (upd2 (upd2 (upd2 (upd2 (adj l) a b false) c d false) a c true) b d true) = exchP n l a b c d := by
  unfold tabP exchP
  refine List.filter_congr fun q hq => ?_
  have hm := mem_allP.1 hq
  obtain ⟨u, v⟩ := q
  obtain ⟨i, rfl⟩ : ∃ i : Nat, u = i := ⟨u.toNat, by simp at hm; omega⟩
  obtain ⟨j, rfl⟩ : ∃ j : Nat, v = j := ⟨v.toNat, by simp at hm; omega⟩
  simp only at hm
  have hij : i < j := by omega
  simp only [Int.toNat_natCast, upd2_at hij, adj_pair h hij]

/-! ## As the program makes them -/
def givenP (a b c d : Int) : PL := [pairI a c, pairI b d]
def takenP (a b c d : Int) : PL := [pairI a b, pairI c d]
def leftP (l : PL) (a b c d : Int) : PL := l.filter fun r => decide (¬ (r = pairI a b ∨ r = pairI c d))
def madeP (l : PL) (a b c d : Int) : PL := givenP a b c d ++ leftP l a b c d
theorem taken_contains (a b c d : Int) (r : Int × Int) : (takenP a b c d).contains r = decide (r = pairI a b ∨ r = pairI c d) := by
  rw [Bool.eq_iff_iff, List.contains_iff_mem]
  simp [takenP]
theorem given_contains (a b c d : Int) (r : Int × Int) : (givenP a b c d).contains r = decide (r = pairI a c ∨ r = pairI b d) := by
  rw [Bool.eq_iff_iff, List.contains_iff_mem]
  simp [givenP]
theorem leftP_snoc (l : PL) (a b c d : Int) (r : Int × Int) : leftP (l ++ [r]) a b c d = leftP l a b c d ++ if (takenP a b c d).contains r then [] else [r] := by
  unfold leftP
  rw [List.filter_append, taken_contains]
  congr 1
  by_cases h : r = pairI a b ∨ r = pairI c d
  · rw [List.filter_cons_of_neg (by simp [h]), if_pos (decide_eq_true h)]
    rfl
  · rw [List.filter_cons_of_pos (by simp [h]), decide_eq_false h]
    rfl
theorem areF_mem {l : PL} {a b : Int} : areF l a b = true ↔ pairI a b ∈ l := by unfold areF pairI; exact List.contains_iff_mem
theorem left_count (l : PL) {a b c d : Int} (hne : pairI a b ≠ pairI c d) : (leftP l a b c d).length + l.count (pairI a b) + l.count (pairI c d) = l.length := by
  unfold leftP
  generalize pairI a b = x at hne ⊢
  generalize pairI c d = y at hne ⊢
  induction l with
  | nil => rfl
  | cons r l ih =>
    by_cases h1 : r = x
    · subst h1
      rw [List.filter_cons_of_neg (by simp), List.count_cons_self, List.count_cons_of_ne hne, List.length_cons]
      omega
    · by_cases h2 : r = y
      · subst h2
        rw [List.filter_cons_of_neg (by simp), List.count_cons_self, List.count_cons_of_ne (Ne.symm hne), List.length_cons]
        omega
      · rw [List.filter_cons_of_pos (by simp [h1, h2]), List.count_cons_of_ne h1, List.count_cons_of_ne h2, List.length_cons, List.length_cons]
        omega
theorem plt_nodup {l : PL} (h : l.Pairwise plt) : l.Nodup := List.Pairwise.imp (fun {x y} hxy e => by subst e; unfold plt at hxy; omega) h
theorem made_len {n : Nat} {l : PL} {a b c d : Int} (hp : isP n l = true) (h4 : fourI n a b c d = true) : (madeP l a b c d).length = l.length ↔ areF l a b = true ∧ areF l c d = true := by
  obtain ⟨_, _, _, hs⟩ := isP_list hp
  have hnd := plt_nodup hs
  have h := fourI_parts h4
  have hne : pairI a b ≠ pairI c d := by unfold pairI; simp only [ne_eq, Prod.mk.injEq]; omega
  have hc := left_count l hne
  have h1 := hnd.count (a := pairI a b)
  have h2 := hnd.count (a := pairI c d)
  have e : (madeP l a b c d).length = 2 + (leftP l a b c d).length := by simp [madeP, givenP]; omega
  rw [e, areF_mem, areF_mem]
  by_cases m1 : pairI a b ∈ l <;> by_cases m2 : pairI c d ∈ l <;> simp only [m1, m2, if_true, if_false] at h1 h2 <;> simp only [m1, m2, and_self, and_true, and_false, iff_true, iff_false] <;> omega
theorem made_sorted {n : Nat} {l : PL} {a b c d : Int} (hp : isP n l = true) (h4 : fourI n a b c d = true) (hac : areF l a c = false) (hbd : areF l b d = false) : sortP (madeP l a b c d) = exchP n l a b c d := by
  obtain ⟨_, _, hm, hs⟩ := isP_list hp
  have h := fourI_parts h4
  have n1 : pairI a c ∉ l := fun hh => by rw [areF_mem.2 hh] at hac; cases hac
  have n2 : pairI b d ∉ l := fun hh => by rw [areF_mem.2 hh] at hbd; cases hbd
  have hnd : (madeP l a b c d).Nodup := by
    unfold madeP
    rw [List.nodup_append]
    refine ⟨?_, (plt_nodup hs).sublist List.filter_sublist, ?_⟩
    · simp only [givenP, List.nodup_cons, List.mem_singleton, List.not_mem_nil, not_false_eq_true, List.nodup_nil, and_true]
      unfold pairI
      simp only [Prod.mk.injEq]
      omega
    · intro x hx y hy e
      subst e
      have hl := (List.mem_filter.1 hy).1
      simp only [givenP, List.mem_cons, List.not_mem_nil, or_false] at hx
      rcases hx with rfl | rfl
      · exact n1 hl
      · exact n2 hl
  refine sorted_ext (sortP_sorted hnd) ((sorted_allP n).filter _) fun r => ?_
  unfold exchP
  rw [sortP_mem, List.mem_filter, mem_allP]
  simp only [madeP, givenP, leftP, List.mem_append, List.mem_cons, List.not_mem_nil, or_false, List.mem_filter, decide_eq_true_eq, not_or]
  constructor
  · rintro ((rfl | rfl) | ⟨hr, h1, h2⟩)
    · refine ⟨by unfold pairI; simp only; omega, ?_⟩
      by_cases e : pairI a c = (min b d, max b d)
      · rw [if_pos e]
      · rw [if_neg e, if_pos (show pairI a c = (min a c, max a c) from rfl)]
    · exact ⟨by unfold pairI; simp only; omega, by rw [if_pos (show pairI b d = (min b d, max b d) from rfl)]⟩
    · refine ⟨hm r hr, ?_⟩
      by_cases e1 : r = (min b d, max b d)
      · rw [if_pos e1]
      · by_cases e2 : r = (min a c, max a c)
        · rw [if_neg e1, if_pos e2]
        · rw [if_neg e1, if_neg e2, if_neg (show ¬ r = (min c d, max c d) from h2), if_neg (show ¬ r = (min a b, max a b) from h1)]
          simpa using hr
  · rintro ⟨_, hr⟩
    by_cases e1 : r = (min b d, max b d)
    · exact .inl (.inr e1)
    · by_cases e2 : r = (min a c, max a c)
      · exact .inl (.inl e2)
      · rw [if_neg e1, if_neg e2] at hr
        by_cases e3 : r = (min c d, max c d)
        · rw [if_pos e3] at hr; cases hr
        · rw [if_neg e3] at hr
          by_cases e4 : r = (min a b, max a b)
          · rw [if_pos e4] at hr; cases hr
          · rw [if_neg e4] at hr
            exact .inr ⟨by simpa using hr, e4, e3⟩
end Go.Proofs.Ytaemodpolopcfaa
