/-
  A TREE OF NUMBERS, as plain lists. Nothing here speaks of the program.
-/
import Derived.Test.YtaemodpolopcfaaExchP
import Derived.Test.YtaemodpolopcfaaNums
import Derived.Test.YtaemodpolopcfaaHas
namespace Go.Proofs.Ytaemodpolopcfaa
open Go.RowKit

/-! ## Sums and how many are left -/
theorem foldl_acc (l : List Int) : ∀ x : Int, l.foldl (· + ·) x = x + l.foldl (· + ·) 0 := by
  induction l with
  | nil => intro x; simp
  | cons y l ih => intro x; rw [List.foldl_cons, List.foldl_cons, ih (x + y), ih (0 + y)]; omega
theorem sumI_cons (x : Int) (l : List Int) : sumI (x :: l) = x + sumI l := by unfold sumI; rw [List.foldl_cons, foldl_acc]; omega
def cntI (l : List Int) : Nat := l.countP fun x => decide (0 < x)
theorem cntI_cons (x : Int) (l : List Int) : cntI (x :: l) = cntI l + if 0 < x then 1 else 0 := by unfold cntI; rw [List.countP_cons]; simp
theorem sumI_set {l : List Int} {a : Nat} {x y : Int} (h : l[a]? = some x) : sumI (l.set a y) = sumI l - x + y := by
  induction l generalizing a with
  | nil => simp at h
  | cons z l ih =>
    cases a with
    | zero => simp at h; subst h; rw [List.set_cons_zero, sumI_cons, sumI_cons]; omega
    | succ a => rw [List.set_cons_succ, sumI_cons, sumI_cons, ih (by simpa using h)]; omega
theorem cntI_set {l : List Int} {a : Nat} {x y : Int} (h : l[a]? = some x) : cntI (l.set a y) + (if 0 < x then 1 else 0) = cntI l + if 0 < y then 1 else 0 := by
  induction l generalizing a with
  | nil => simp at h
  | cons z l ih =>
    cases a with
    | zero => simp at h; subst h; rw [List.set_cons_zero, cntI_cons, cntI_cons]; omega
    | succ a => rw [List.set_cons_succ, cntI_cons, cntI_cons]; have := ih (a := a) (by simpa using h); omega
theorem two_each {l : List Int} (h : ∀ x ∈ l, 0 ≤ x ∧ x ≠ 1) : 2 * (cntI l : Int) ≤ sumI l := by
  induction l with
  | nil => simp [cntI, sumI]
  | cons x l ih =>
    have h1 := h x (List.mem_cons_self ..)
    have h2 := ih fun y hy => h y (List.mem_cons_of_mem _ hy)
    rw [cntI_cons, sumI_cons]
    split <;> omega
theorem one_each {l : List Int} (h : ∀ x ∈ l, 0 ≤ x ∧ x ≤ 1) : (cntI l : Int) = sumI l := by
  induction l with
  | nil => simp [cntI, sumI]
  | cons x l ih =>
    have h1 := h x (List.mem_cons_self ..)
    have h2 := ih fun y hy => h y (List.mem_cons_of_mem _ hy)
    rw [cntI_cons, sumI_cons]
    split <;> omega
theorem cntI_pos {l : List Int} (h : 0 < cntI l) : ∃ (k : Nat) (x : Int), l[k]? = some x ∧ 0 < x := by
  obtain ⟨x, hx, hp⟩ := List.countP_pos_iff.1 h
  obtain ⟨k, hk, e⟩ := List.getElem_of_mem hx
  exact ⟨k, x, by rw [List.getElem?_eq_getElem hk, e], by simpa using hp⟩
theorem cntI_zero {l : List Int} (h : cntI l = 0) {k : Nat} {x : Int} (hx : l[k]? = some x) : x ≤ 0 := by
  have := List.countP_eq_zero.1 h x (List.mem_of_getElem? hx)
  simpa using this

/-! ## The two people of a step -/
/-- the first person with 1 left -/
def IsA (l : List Int) (a : Nat) : Prop := l[a]? = some 1 ∧ ∀ j, j < a → l[j]? ≠ some 1
/-- the first one with more than 1 left, or, if there is none, the other one with 1 -/
def IsB (l : List Int) (a b : Nat) : Prop := a ≠ b ∧ ((∃ x : Int, l[b]? = some x ∧ 1 < x ∧ ∀ (j : Nat) (y : Int), j < b → l[j]? = some y → ¬ 1 < y) ∨ ((∀ (j : Nat) (y : Int), l[j]? = some y → ¬ 1 < y) ∧ l[b]? = some 1 ∧ ∀ j, j ≠ a → l[j]? = some 1 → j = b))
theorem IsA.unique {l : List Int} {a a' : Nat} (h : IsA l a) (h' : IsA l a') : a = a' := by
  rcases Nat.lt_trichotomy a a' with hlt | e | hlt
  · exact absurd h.1 (h'.2 a hlt)
  · exact e
  · exact absurd h'.1 (h.2 a' hlt)
theorem IsB.unique {l : List Int} {a b b' : Nat} (h : IsB l a b) (h' : IsB l a b') : b = b' := by
  rcases h.2 with ⟨x, hx, h1, h2⟩ | ⟨h1, h2, h3⟩
  · rcases h'.2 with ⟨y, hy, k1, k2⟩ | ⟨k1, k2, k3⟩
    · rcases Nat.lt_trichotomy b b' with hlt | e | hlt
      · exact absurd h1 (k2 b x hlt hx)
      · exact e
      · exact absurd k1 (h2 b' y hlt hy)
    · exact absurd h1 (k1 b x hx)
  · rcases h'.2 with ⟨y, hy, k1, k2⟩ | ⟨k1, k2, k3⟩
    · exact absurd k1 (h1 b' y hy)
    · exact k3 b (Ne.symm h.1) h2
/-- numbers left of m people, of whom a tree can be made -/
structure TreeL (l : List Int) (m : Nat) : Prop where
  pos : ∀ x ∈ l, 0 ≤ x
  sum : sumI l = 2 * (m : Int) - 2
  cnt : cntI l = m
theorem first_at (l : List Int) (p : Int → Prop) [DecidablePred p] (h : ∃ (k : Nat) (x : Int), l[k]? = some x ∧ p x) : ∃ (k : Nat) (x : Int), l[k]? = some x ∧ p x ∧ ∀ (j : Nat) (y : Int), j < k → l[j]? = some y → ¬ p y := by
  induction l with
  | nil => obtain ⟨k, x, hx, _⟩ := h; simp at hx
  | cons z l ih =>
    by_cases hz : p z
    · exact ⟨0, z, rfl, hz, fun j y hj => by omega⟩
    · obtain ⟨k, x, hx, hp⟩ := h
      cases k with
      | zero => simp at hx; subst hx; exact absurd hp hz
      | succ k =>
        obtain ⟨k', x', hx', hp', hf⟩ := ih ⟨k, x, by simpa using hx, hp⟩
        refine ⟨k' + 1, x', by simpa using hx', hp', fun j y hj hy => ?_⟩
        cases j with
        | zero => simp at hy; subst hy; exact hz
        | succ j => exact hf j y (by omega) (by simpa using hy)
theorem TreeL.hasA {l : List Int} {m : Nat} (h : TreeL l m) : ∃ a, IsA l a := by
  have hex : ∃ (k : Nat) (x : Int), l[k]? = some x ∧ x = 1 := by
    refine Classical.byContradiction fun hn => ?_
    have h1 : ∀ x ∈ l, 0 ≤ x ∧ x ≠ 1 := fun x hx => ⟨h.pos x hx, fun e => by
      obtain ⟨k, hk, e'⟩ := List.getElem_of_mem hx
      exact hn ⟨k, x, by rw [List.getElem?_eq_getElem hk, e'], e⟩⟩
    have h2 := two_each h1
    have h3 := h.sum
    have h4 := h.cnt
    omega
  obtain ⟨k, x, hx, rfl, hf⟩ := first_at l (fun x => x = 1) hex
  exact ⟨k, hx, fun j hj e => hf j 1 hj e rfl⟩
theorem TreeL.hasB {l : List Int} {m a : Nat} (h : TreeL l m) (ha : IsA l a) : ∃ b, IsB l a b := by
  by_cases hex : ∃ (k : Nat) (x : Int), l[k]? = some x ∧ 1 < x
  · obtain ⟨k, x, hx, hp, hf⟩ := first_at l (fun x => 1 < x) hex
    refine ⟨k, fun e => ?_, .inl ⟨x, hx, hp, hf⟩⟩
    subst e
    rw [ha.1] at hx
    simp only [Option.some.injEq] at hx
    omega
  · have hno : ∀ (j : Nat) (y : Int), l[j]? = some y → ¬ 1 < y := fun j y hy hp => hex ⟨j, y, hy, hp⟩
    have h1 : ∀ x ∈ l, 0 ≤ x ∧ x ≤ 1 := fun x hx => by
      obtain ⟨k, hk, e'⟩ := List.getElem_of_mem hx
      have := hno k x (by rw [List.getElem?_eq_getElem hk, e'])
      exact ⟨h.pos x hx, by omega⟩
    have h2 := one_each h1
    have h3 := h.sum
    have h4 := h.cnt
    have hm : m = 2 := by omega
    have c1 := cntI_set (y := 0) ha.1
    simp only [Int.reduceLT, if_true, if_false] at c1
    have c2 : cntI (l.set a 0) = 1 := by simp at c1; omega
    obtain ⟨b, x, hx, hp⟩ := cntI_pos (l := l.set a 0) (by omega)
    have hab : a ≠ b := by
      intro e
      subst e
      have hal : a < l.length := (List.getElem?_eq_some_iff.1 ha.1).1
      rw [List.getElem?_set_self hal] at hx
      simp only [Option.some.injEq] at hx
      omega
    rw [List.getElem?_set_ne hab] at hx
    have hx1 : x = 1 := by have := hno b x hx; omega
    subst hx1
    refine ⟨b, hab, .inr ⟨hno, hx, fun j hja hj => ?_⟩⟩
    refine Classical.byContradiction fun hjb => ?_
    have hx' : (l.set a 0)[b]? = some 1 := by rw [List.getElem?_set_ne hab]; exact hx
    have d1 := cntI_set (y := 0) hx'
    have d2 : cntI ((l.set a 0).set b 0) = 0 := by simp at d1; omega
    have := cntI_zero d2 (k := j) (x := 1) (by rw [List.getElem?_set_ne (Ne.symm hjb), List.getElem?_set_ne (Ne.symm hja)]; exact hj)
    omega
def stepL (l : List Int) (a b : Nat) : List Int := (l.set a (l.getD a 0 - 1)).set b (l.getD b 0 - 1)
theorem IsB.val {l : List Int} {a b : Nat} (h : IsB l a b) : ∃ x, l[b]? = some x ∧ 0 < x := by
  rcases h.2 with ⟨x, hx, h1, _⟩ | ⟨_, h2, _⟩
  · exact ⟨x, hx, by omega⟩
  · exact ⟨1, h2, by omega⟩
theorem getD_of {l : List Int} {k : Nat} {x : Int} (h : l[k]? = some x) : l.getD k 0 = x := by rw [List.getD_eq_getElem?_getD, h]; rfl
theorem stepL_eq {l : List Int} {a b : Nat} {x : Int} (ha : IsA l a) (hb : l[b]? = some x) : stepL l a b = (l.set a 0).set b (x - 1) := by
  unfold stepL
  rw [getD_of ha.1, getD_of hb]
  rfl
theorem stepL_length (l : List Int) (a b : Nat) : (stepL l a b).length = l.length := by simp [stepL]
theorem stepL_pos {l : List Int} {a b : Nat} (ha : IsA l a) (hb : IsB l a b) (h : ∀ x ∈ l, 0 ≤ x) : ∀ x ∈ stepL l a b, 0 ≤ x := by
  obtain ⟨x, hx, hx0⟩ := hb.val
  rw [stepL_eq ha hx]
  intro y hy
  obtain ⟨k, hk, e⟩ := List.getElem_of_mem hy
  have he : ((l.set a 0).set b (x - 1))[k]? = some y := by rw [List.getElem?_eq_getElem hk, e]
  rw [List.getElem?_set] at he
  split at he
  · split at he
    · simp at he; omega
    · cases he
  · rw [List.getElem?_set] at he
    split at he
    · split at he
      · simp at he; omega
      · cases he
    · exact h y (List.mem_of_getElem? he)
/-- one person less, as long as more than two are left -/
theorem TreeL.step {l : List Int} {m a b : Nat} (h : TreeL l (m + 1)) (hm : 2 ≤ m) (ha : IsA l a) (hb : IsB l a b) : TreeL (stepL l a b) m := by
  obtain ⟨x, hx, hx0⟩ := hb.val
  have hx' : (l.set a 0)[b]? = some x := by rw [List.getElem?_set_ne hb.1]; exact hx
  have s1 := sumI_set (y := 0) ha.1
  have s2 := sumI_set (y := x - 1) hx'
  have c1 := cntI_set (y := 0) ha.1
  have c2 := cntI_set (y := x - 1) hx'
  have h1 := h.sum
  have h2 := h.cnt
  have hgt : 1 < x := by
    rcases hb.2 with ⟨y, hy, hy1, _⟩ | ⟨hno, _, _⟩
    · rw [hx] at hy
      simp only [Option.some.injEq] at hy
      omega
    · have h3 : ∀ y ∈ l, 0 ≤ y ∧ y ≤ 1 := fun y hy => by
        obtain ⟨k, hk, e'⟩ := List.getElem_of_mem hy
        have := hno k y (by rw [List.getElem?_eq_getElem hk, e'])
        exact ⟨h.pos y hy, by omega⟩
      have h4 := one_each h3
      omega
  rw [if_pos hx0, if_pos (show 0 < x - 1 by omega)] at c2
  simp only [Int.reduceLT, if_true, if_false] at c1
  refine ⟨stepL_pos ha hb h.pos, ?_, ?_⟩
  · rw [stepL_eq ha hx, s2, s1, h1]
    omega
  · rw [stepL_eq ha hx]
    simp at c1
    omega
end Go.Proofs.Ytaemodpolopcfaa
