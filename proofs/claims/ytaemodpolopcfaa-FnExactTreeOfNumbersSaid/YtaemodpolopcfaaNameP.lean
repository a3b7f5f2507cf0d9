/-
  PEOPLE RENAMED, as plain lists and as tables. Nothing here speaks of the program.
-/
import Derived.Test.YtaemodpolopcfaaOther
namespace Go.Proofs.Ytaemodpolopcfaa
open Go.RowKit

/-- a list of all p people, each once -/
def isNamingI (p : Int) (q : List Int) : Bool := decide ((q.length : Int) = p) && (q.all (fun x => decide (0 ≤ x ∧ x < p)) && decide q.Nodup)
theorem isNamingI_len {p : Int} {q : List Int} (h : (q.length : Int) ≠ p) : isNamingI p q = false := by simp [isNamingI, h]
theorem isNamingI_bad {p : Int} {q : List Int} {k : Nat} {x : Int} (hx : q[k]? = some x) (h : ¬ (0 ≤ x ∧ x < p)) : isNamingI p q = false := by
  cases he : isNamingI p q with
  | false => rfl
  | true =>
    simp only [isNamingI, Bool.and_eq_true, decide_eq_true_eq, List.all_eq_true] at he
    exact absurd (he.2.1 x (List.mem_of_getElem? hx)) h
theorem isNamingI_dup {p : Int} {q : List Int} {k : Nat} {x : Int} (hx : q[k]? = some x) (h : x ∈ q.take k) : isNamingI p q = false := by
  cases he : isNamingI p q with
  | false => rfl
  | true =>
    simp only [isNamingI, Bool.and_eq_true, decide_eq_true_eq] at he
    have hn := he.2.2
    rw [List.Nodup, List.pairwise_iff_getElem] at hn
    obtain ⟨i, hi, e⟩ := List.getElem_of_mem h
    rw [List.length_take] at hi
    rw [List.getElem_take] at e
    have hk : k < q.length := (List.getElem?_eq_some_iff.1 hx).1
    rw [List.getElem?_eq_getElem hk] at hx
    simp only [Option.some.injEq] at hx
    exact absurd (e.trans hx.symm) (hn i k (by omega) hk (by omega))
theorem isNamingI_of {p : Int} {q : List Int} (hl : (q.length : Int) = p) (h : ∀ (k : Nat) (x : Int), k < q.length → q[k]? = some x → (0 ≤ x ∧ x < p) ∧ x ∉ q.take k) : isNamingI p q = true := by
  simp only [isNamingI, Bool.and_eq_true, decide_eq_true_eq, List.all_eq_true]
  refine ⟨hl, fun x hx => ?_, ?_⟩
  · obtain ⟨i, hi, rfl⟩ := List.getElem_of_mem hx
    exact (h i _ hi (List.getElem?_eq_getElem hi)).1
  · rw [List.Nodup, List.pairwise_iff_getElem]
    intro i j hi hj hij e
    refine (h j _ hj (List.getElem?_eq_getElem hj)).2 ?_
    rw [← e, List.mem_iff_getElem?]
    exact ⟨i, by rw [List.getElem?_take, if_pos hij, List.getElem?_eq_getElem hi]⟩
theorem isNamingI_parts {p : Int} {q : List Int} (h : isNamingI p q = true) : (q.length : Int) = p ∧ (∀ x ∈ q, 0 ≤ x ∧ x < p) ∧ q.Nodup := by
  simp only [isNamingI, Bool.and_eq_true, decide_eq_true_eq, List.all_eq_true] at h
  exact h

theorem nodup_le : ∀ (l m : List Int), l.Nodup → (∀ x ∈ l, x ∈ m) → l.length ≤ m.length
  | [], m, _, _ => Nat.zero_le _
  | a :: l, m, hn, hs => by
    rw [List.nodup_cons] at hn
    have h1 := nodup_le l (m.erase a) hn.2 fun x hx => by
      have hne : x ≠ a := by rintro rfl; exact hn.1 hx
      exact (List.mem_erase_of_ne hne).2 (hs x (List.mem_cons_of_mem _ hx))
    have ha := hs a (List.mem_cons_self ..)
    have h2 := List.length_erase_of_mem ha
    have h3 := List.length_pos_of_mem ha
    rw [List.length_cons]
    omega
theorem naming_all {p : Int} {q : List Int} (h : isNamingI p q = true) {i : Nat} (hi : (i : Int) < p) : (i : Int) ∈ q := by
  obtain ⟨hl, hm, hn⟩ := isNamingI_parts h
  apply Classical.byContradiction
  intro hc
  have := nodup_le ((i : Int) :: q) ((List.range q.length).map fun k : Nat => (k : Int)) (List.nodup_cons.2 ⟨hc, hn⟩) (by
    intro x hx
    rw [List.mem_map]
    rcases List.mem_cons.1 hx with rfl | hx
    · exact ⟨i, by rw [List.mem_range]; omega, rfl⟩
    · have := hm x hx
      exact ⟨x.toNat, by rw [List.mem_range]; omega, by omega⟩)
  rw [List.length_cons, List.length_map, List.length_range] at this
  omega

/-- the name of a person -/
def nameI (q : List Int) (x : Int) : Int := q.getD x.toNat 0
theorem nameI_at {q : List Int} {i : Nat} {x : Int} (hx : q[i]? = some x) : nameI q i = x := by
  unfold nameI
  rw [List.getD_eq_getElem?_getD, Int.toNat_natCast, hx]
  rfl
/-- who has a name -/
def whoI (q : List Int) (i : Nat) : Nat := q.idxOf (i : Int)
theorem whoI_at {q : List Int} (hn : q.Nodup) {a i : Nat} (h : q[a]? = some (i : Int)) : whoI q i = a := by
  have ha : a < q.length := (List.getElem?_eq_some_iff.1 h).1
  rw [List.getElem?_eq_getElem ha] at h
  simp only [Option.some.injEq] at h
  unfold whoI
  rw [← h]
  exact hn.idxOf_getElem a ha
theorem whoI_name {p : Int} {q : List Int} (h : isNamingI p q = true) {i : Nat} (hi : (i : Int) < p) : q[whoI q i]? = some (i : Int) := by
  have hm := naming_all h hi
  unfold whoI
  have hlt := List.idxOf_lt_length_of_mem hm
  rw [List.getElem?_eq_getElem hlt, List.getElem_idxOf]
theorem whoI_lt {p : Int} {q : List Int} (h : isNamingI p q = true) {i : Nat} (hi : (i : Int) < p) : (whoI q i : Int) < p := by
  have := (List.getElem?_eq_some_iff.1 (whoI_name h hi)).1
  have hl := (isNamingI_parts h).1
  omega

/-- the table renamed -/
def namedT (q : List Int) (t : Nat → Nat → Bool) : Nat → Nat → Bool := fun i j => t (whoI q i) (whoI q j)
/-- in the middle of being filled -/
def namedTo (q : List Int) (t : Nat → Nat → Bool) (a b : Nat) : Nat → Nat → Bool := fun i j => if whoI q i < a ∨ whoI q i = a ∧ whoI q j < b then t (whoI q i) (whoI q j) else false
theorem namedTo_start (q : List Int) (t : Nat → Nat → Bool) : namedTo q t 0 0 = fun _ _ => false := by funext i j; simp [namedTo]
theorem namedTo_next {n : Nat} {q : List Int} (h : isNamingI n q = true) (t : Nat → Nat → Bool) {a b x y : Nat} (hx : q[a]? = some (x : Int)) (hy : q[b]? = some (y : Int)) :
    ∀ i j, i < n → j < n → upd (namedTo q t a b) x y (t a b) i j = namedTo q t a (b + 1) i j := by
  intro i j hi hj
  have hn := (isNamingI_parts h).2.2
  unfold upd namedTo
  have ex := whoI_at hn hx
  have ey := whoI_at hn hy
  by_cases hc : i = x ∧ j = y
  · obtain ⟨rfl, rfl⟩ := hc
    rw [if_pos ⟨rfl, rfl⟩, ex, ey, if_pos (by omega)]
  · rw [if_neg hc]
    have hne : ¬ (whoI q i = a ∧ whoI q j = b) := by
      rintro ⟨e1, e2⟩
      have h1 := whoI_name h (i := i) (by omega)
      have h2 := whoI_name h (i := j) (by omega)
      rw [e1, hx] at h1
      rw [e2, hy] at h2
      simp only [Option.some.injEq] at h1 h2
      exact hc ⟨by omega, by omega⟩
    have : (whoI q i < a ∨ whoI q i = a ∧ whoI q j < b) ↔ (whoI q i < a ∨ whoI q i = a ∧ whoI q j < b + 1) := by omega
    simp only [this]
theorem namedTo_row {n : Nat} {q : List Int} (h : isNamingI n q = true) (t : Nat → Nat → Bool) (a : Nat) : ∀ i j, i < n → j < n → namedTo q t a n i j = namedTo q t (a + 1) 0 i j := by
  intro i j hi hj
  have := whoI_lt h (i := j) (by omega)
  unfold namedTo
  have : (whoI q i < a ∨ whoI q i = a ∧ whoI q j < n) ↔ (whoI q i < a + 1 ∨ whoI q i = a + 1 ∧ whoI q j < 0) := by omega
  simp only [this]
theorem namedTo_all {n : Nat} {q : List Int} (h : isNamingI n q = true) (t : Nat → Nat → Bool) : ∀ i j, i < n → j < n → namedTo q t n 0 i j = namedT q t i j := by
  intro i j hi hj
  have := whoI_lt h (i := i) (by omega)
  unfold namedTo namedT
  rw [if_pos (by omega)]

/-! ## Pairs, sorted -/
def pairI (a b : Int) : Int × Int := (min a b, max a b)
def sortP (l : PL) : PL := l.mergeSort fun x y => !pairLess y x
theorem pairLess_plt {a b : Int × Int} : pairLess a b = true ↔ plt a b := by unfold pairLess plt; simp
theorem sortP_perm (l : PL) : (sortP l).Perm l := List.mergeSort_perm _ _
theorem sortP_mem {l : PL} {r : Int × Int} : r ∈ sortP l ↔ r ∈ l := (sortP_perm l).mem_iff
theorem sortP_length (l : PL) : (sortP l).length = l.length := (sortP_perm l).length_eq
theorem sortP_sorted {l : PL} (hn : l.Nodup) : (sortP l).Pairwise plt := by
  have h := List.pairwise_mergeSort (le := fun x y : Int × Int => !pairLess y x) (by
    intro a b c
    simp only [Bool.not_eq_true', ← Bool.not_eq_true, pairLess_plt]
    unfold plt
    omega) (by
    intro a b
    simp only [Bool.or_eq_true, Bool.not_eq_true', ← Bool.not_eq_true, pairLess_plt]
    unfold plt
    omega) l
  have hn' : (sortP l).Nodup := (sortP_perm l).nodup_iff.2 hn
  refine (h.and hn').imp fun {a b} hab => ?_
  obtain ⟨h1, h2⟩ := hab
  simp only [Bool.not_eq_true', ← Bool.not_eq_true, pairLess_plt] at h1
  unfold plt at h1 ⊢
  apply Classical.byContradiction
  intro hc
  exact h2 (Prod.ext (by omega) (by omega))
/-- the pairs of people renamed, as they come -/
def namesP (l : PL) (q : List Int) : PL := l.map fun r => pairI (nameI q r.1) (nameI q r.2)
theorem namesP_snoc (l : PL) (q : List Int) (x y : Int) : namesP (l ++ [(x, y)]) q = namesP l q ++ [pairI (nameI q x) (nameI q y)] := by simp [namesP]
theorem namesP_length (l : PL) (q : List Int) : (namesP l q).length = l.length := by simp [namesP]
theorem name_of {p : Int} {q : List Int} (h : isNamingI p q = true) {x : Int} (hx : 0 ≤ x ∧ x < p) : ∃ i : Nat, nameI q x = i ∧ (i : Int) < p ∧ q[x.toNat]? = some (i : Int) ∧ whoI q i = x.toNat := by
  obtain ⟨hl, hm, hn⟩ := isNamingI_parts h
  obtain ⟨y, hy⟩ := getSome q x.toNat (by omega)
  have h1 := hm y (List.mem_of_getElem? hy)
  have e : ((x.toNat : Nat) : Int) = x := by omega
  have h2 := nameI_at hy
  rw [e] at h2
  refine ⟨y.toNat, by omega, by omega, by rw [hy]; congr 1; omega, whoI_at hn ?_⟩
  rw [hy]
  congr 1
  omega
theorem namesP_nodup {p : Int} {l : PL} {q : List Int} (hp : isP p l = true) (h : isNamingI p q = true) : (namesP l q).Nodup := by
  obtain ⟨_, _, hm, hs⟩ := isP_list hp
  unfold namesP
  rw [List.Nodup, List.pairwise_map]
  refine List.Pairwise.imp_of_mem (fun {r s} hr hs' hlt e => ?_) hs
  have a0 := hm r hr
  have b0 := hm s hs'
  obtain ⟨i1, e1, _, _, w1⟩ := name_of h (x := r.1) (by omega)
  obtain ⟨i2, e2, _, _, w2⟩ := name_of h (x := r.2) (by omega)
  obtain ⟨i3, e3, _, _, w3⟩ := name_of h (x := s.1) (by omega)
  obtain ⟨i4, e4, _, _, w4⟩ := name_of h (x := s.2) (by omega)
  rw [e1, e2, e3, e4] at e
  unfold pairI at e
  simp only [Prod.mk.injEq] at e
  have hc : i1 = i3 ∧ i2 = i4 ∨ i1 = i4 ∧ i2 = i3 := by omega
  unfold plt at hlt
  rcases hc with ⟨c1, c2⟩ | ⟨c1, c2⟩
  · subst c1; subst c2; omega
  · subst c1; subst c2; omega
theorem tabP_named {n : Nat} {l : PL} {q : List Int} (hp : isP n l = true) (h : isNamingI n q = true) : tabP n (namedT q (adj l)) = sortP (namesP l q) := by
  obtain ⟨_, h12, hm, hs⟩ := isP_list hp
  refine sorted_ext (filter_list (by omega) _).2.2.2 (sortP_sorted (namesP_nodup hp h)) fun r => ?_
  unfold tabP
  rw [List.mem_filter, mem_allP, sortP_mem]
  unfold namesP
  rw [List.mem_map]
  constructor
  · rintro ⟨⟨h0, h1, h2⟩, ht⟩
    have w1 := whoI_name h (i := r.1.toNat) (by omega)
    have w2 := whoI_name h (i := r.2.toNat) (by omega)
    unfold namedT adj at ht
    rw [Bool.or_eq_true, List.contains_iff_mem, List.contains_iff_mem] at ht
    rcases ht with ht | ht
    · refine ⟨_, ht, ?_⟩
      simp only
      rw [nameI_at w1, nameI_at w2]
      unfold pairI
      exact Prod.ext (by simp only; omega) (by simp only; omega)
    · refine ⟨_, ht, ?_⟩
      simp only
      rw [nameI_at w1, nameI_at w2]
      unfold pairI
      exact Prod.ext (by simp only; omega) (by simp only; omega)
  · rintro ⟨s, hsl, rfl⟩
    have b0 := hm s hsl
    obtain ⟨i1, e1, l1, _, w1⟩ := name_of h (x := s.1) (by omega)
    obtain ⟨i2, e2, l2, _, w2⟩ := name_of h (x := s.2) (by omega)
    rw [e1, e2]
    have hne : i1 ≠ i2 := by
      rintro rfl
      omega
    unfold pairI namedT adj
    have d1 : ((s.1.toNat : Nat) : Int) = s.1 := by omega
    have d2 : ((s.2.toNat : Nat) : Int) = s.2 := by omega
    rcases Nat.lt_or_ge i1 i2 with hlt | hge
    · have m1 : min (i1 : Int) i2 = i1 := by omega
      have m2 : max (i1 : Int) i2 = i2 := by omega
      rw [m1, m2]
      refine ⟨⟨by simp only; omega, by simp only; omega, by simp only; omega⟩, ?_⟩
      simp only [Int.toNat_natCast, w1, w2, d1, d2, Bool.or_eq_true, List.contains_iff_mem]
      exact .inl hsl
    · have m1 : min (i1 : Int) i2 = i2 := by omega
      have m2 : max (i1 : Int) i2 = i1 := by omega
      rw [m1, m2]
      refine ⟨⟨by simp only; omega, by simp only; omega, by simp only; omega⟩, ?_⟩
      simp only [Int.toNat_natCast, w1, w2, d1, d2, Bool.or_eq_true, List.contains_iff_mem]
      exact .inr hsl
end Go.Proofs.Ytaemodpolopcfaa
