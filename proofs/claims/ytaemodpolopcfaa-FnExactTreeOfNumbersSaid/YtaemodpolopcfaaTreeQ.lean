/-
  A TREE OF NUMBERS, step by step: what is left, the pairs so far, the table. Nothing here speaks of the program.
-/
import Derived.Test.YtaemodpolopcfaaTreeP
namespace Go.Proofs.Ytaemodpolopcfaa
open Go.RowKit

def firstI (p : Int → Bool) : List Int → Nat
  | [] => 0
  | x :: l => if p x then 0 else firstI p l + 1
theorem firstI_at {p : Int → Bool} {l : List Int} {k : Nat} {x : Int} (hx : l[k]? = some x) (hp : p x = true) (hf : ∀ (j : Nat) (y : Int), j < k → l[j]? = some y → p y = false) : firstI p l = k := by
  induction l generalizing k with
  | nil => simp at hx
  | cons z l ih =>
    cases k with
    | zero => simp at hx; subst hx; simp [firstI, hp]
    | succ k =>
      have h0 := hf 0 z (by omega) rfl
      simp only [firstI, h0, Bool.false_eq_true, if_false]
      rw [ih (by simpa using hx) fun j y hj hy => hf (j + 1) y (by omega) (by simpa using hy)]
def pickA (l : List Int) : Nat := firstI (fun x => decide (x = 1)) l
def pickB (l : List Int) (a : Nat) : Nat := if l.any (fun x => decide (1 < x)) then firstI (fun x => decide (1 < x)) l else firstI (fun x => decide (x = 1)) (l.set a 0)
theorem pickA_eq {l : List Int} {a : Nat} (h : IsA l a) : pickA l = a :=
  firstI_at h.1 (by simp) fun j y hj hy => decide_eq_false fun e => h.2 j hj (by rw [hy, e])
theorem pickB_eq {l : List Int} {a b : Nat} (ha : IsA l a) (h : IsB l a b) : pickB l a = b := by
  unfold pickB
  rcases h.2 with ⟨x, hx, h1, h2⟩ | ⟨h1, h2, h3⟩
  · rw [if_pos (List.any_eq_true.2 ⟨x, List.mem_of_getElem? hx, decide_eq_true h1⟩)]
    exact firstI_at hx (decide_eq_true h1) fun j y hj hy => decide_eq_false (h2 j y hj hy)
  · have hno : (l.any fun x => decide (1 < x)) = false := by
      rw [List.any_eq_false]
      intro x hx
      obtain ⟨k, hk, e'⟩ := List.getElem_of_mem hx
      have := h1 k x (by rw [List.getElem?_eq_getElem hk, e'])
      simpa using this
    rw [hno]
    simp only [Bool.false_eq_true, if_false]
    refine firstI_at (x := 1) (by rw [List.getElem?_set_ne h.1]; exact h2) (by simp) fun j y hj hy => decide_eq_false fun e => ?_
    subst e
    by_cases hja : a = j
    · subst hja
      have hal : a < l.length := (List.getElem?_eq_some_iff.1 ha.1).1
      rw [List.getElem?_set_self hal] at hy
      simp at hy
    · rw [List.getElem?_set_ne hja] at hy
      have := h3 j (Ne.symm hja) hy
      omega
def stL (q : List Int) : Nat → List Int
  | 0 => q
  | k + 1 => stepL (stL q k) (pickA (stL q k)) (pickB (stL q k) (pickA (stL q k)))
def stA (q : List Int) (k : Nat) : Nat := pickA (stL q k)
def stB (q : List Int) (k : Nat) : Nat := pickB (stL q k) (stA q k)
theorem stL_next (q : List Int) (k : Nat) : stL q (k + 1) = stepL (stL q k) (stA q k) (stB q k) := rfl
def stP (q : List Int) : Nat → PL
  | 0 => []
  | k + 1 => stP q k ++ [pairI (stA q k) (stB q k)]
def stT (q : List Int) : Nat → Nat → Nat → Bool
  | 0 => fun _ _ => false
  | k + 1 => upd2 (stT q k) (stA q k) (stB q k) true
def treeI (q : List Int) : Bool := isNums q && decide (2 ≤ q.length) && !hasI q 0 && decide (sumI q = 2 * ((q.length : Int) - 1))
theorem treeI_parts {q : List Int} (h : treeI q = true) : isNums q = true ∧ 2 ≤ q.length ∧ hasI q 0 = false ∧ sumI q = 2 * ((q.length : Int) - 1) := by
  simp only [treeI, Bool.and_eq_true, Bool.not_eq_true', decide_eq_true_eq] at h
  exact ⟨h.1.1.1, h.1.1.2, h.1.2, h.2⟩
theorem stL_length (q : List Int) (k : Nat) : (stL q k).length = q.length := by
  induction k with
  | zero => rfl
  | succ k ih => rw [stL_next, stepL_length, ih]
theorem stP_length (q : List Int) (k : Nat) : (stP q k).length = k := by
  induction k with
  | zero => rfl
  | succ k ih => simp [stP, ih]
theorem tree_left {q : List Int} (h : treeI q = true) : ∀ k, k + 1 < q.length → TreeL (stL q k) (q.length - k) ∧ IsA (stL q k) (stA q k) ∧ IsB (stL q k) (stA q k) (stB q k) := by
  have hp : ∀ l m, TreeL l m → IsA l (pickA l) ∧ IsB l (pickA l) (pickB l (pickA l)) := fun l m hl => by
    obtain ⟨a, ha⟩ := hl.hasA
    obtain ⟨b, hb⟩ := hl.hasB ha
    have e1 := pickA_eq ha
    rw [e1, pickB_eq ha hb]
    exact ⟨ha, hb⟩
  obtain ⟨h1, h2, h3, h4⟩ := treeI_parts h
  intro k
  induction k with
  | zero =>
    intro _
    have hl : TreeL q q.length := by
      refine ⟨fun x hx => (isNums_mem h1 x hx).1, by omega, ?_⟩
      unfold cntI
      rw [List.countP_eq_length]
      intro x hx
      have h5 := (isNums_mem h1 x hx).1
      have h6 : x ≠ 0 := fun e => by subst e; rw [hasI_mem.2 hx] at h3; cases h3
      simp
      omega
    exact ⟨hl, hp _ _ hl⟩
  | succ k ih =>
    intro hk
    obtain ⟨k1, k2, k3⟩ := ih (by omega)
    have e : q.length - k = (q.length - (k + 1)) + 1 := by omega
    rw [e] at k1
    have hl := k1.step (by omega) k2 k3
    rw [← stL_next] at hl
    exact ⟨hl, hp _ _ hl⟩
theorem le_sum {l : List Int} (h : ∀ x ∈ l, 0 ≤ x) : ∀ x ∈ l, x ≤ sumI l := by
  induction l with
  | nil => intro x hx; cases hx
  | cons z l ih =>
    have hs : 0 ≤ sumI l := by
      have : ∀ l : List Int, (∀ x ∈ l, 0 ≤ x) → 0 ≤ sumI l := fun l => by
        induction l with
        | nil => intro _; simp [sumI]
        | cons y l ih2 => intro h; rw [sumI_cons]; have := h y (List.mem_cons_self ..); have := ih2 fun x hx => h x (List.mem_cons_of_mem _ hx); omega
      exact this l fun x hx => h x (List.mem_cons_of_mem _ hx)
    have hz := h z (List.mem_cons_self ..)
    intro x hx
    rw [sumI_cons]
    rcases List.mem_cons.1 hx with rfl | hx
    · omega
    · have := ih (fun x hx => h x (List.mem_cons_of_mem _ hx)) x hx; omega
/-- what a step finds -/
theorem tree_step {q : List Int} (h : treeI q = true) {k : Nat} (hk : k + 1 < q.length) : stA q k < q.length ∧ stB q k < q.length ∧ stA q k ≠ stB q k ∧ (stL q k)[stA q k]? = some 1 ∧ (∃ x, (stL q k)[stB q k]? = some x ∧ 0 < x ∧ x ≤ 22) ∧ ∀ (j : Nat) (y : Int), (stL q k)[j]? = some y → 0 ≤ y ∧ y ≤ 22 := by
  obtain ⟨h1, h2, h3⟩ := tree_left h k hk
  have hl := stL_length q k
  have h12 := isNums_len (treeI_parts h).1
  obtain ⟨x, hx, hx0⟩ := h3.val
  have hr : ∀ (j : Nat) (y : Int), (stL q k)[j]? = some y → 0 ≤ y ∧ y ≤ 22 := fun j y hy => by
    have hm := List.mem_of_getElem? hy
    have e1 := le_sum h1.pos y hm
    have e2 := h1.sum
    exact ⟨h1.pos y hm, by omega⟩
  have ha := (List.getElem?_eq_some_iff.1 h2.1).1
  have hb := (List.getElem?_eq_some_iff.1 hx).1
  exact ⟨by omega, by omega, h3.1, h2.1, ⟨x, hx, hx0, (hr _ _ hx).2⟩, hr⟩
theorem stepL_at {l : List Int} {a b : Nat} {x : Int} (_hab : a ≠ b) (h1 : l[a]? = some 1) (hx : l[b]? = some x) : stepL l a b = (l.set a 0).set b (x - 1) := by
  unfold stepL
  rw [getD_of h1, getD_of hx]
  rfl
/-- each pair so far has somebody with nothing left -/
theorem tree_dead {q : List Int} (h : treeI q = true) : ∀ k, k < q.length → ∀ r ∈ stP q k, (0 ≤ r.1 ∧ r.1 < r.2 ∧ r.2 < q.length) ∧ ∃ e : Nat, ((e : Int) = r.1 ∨ (e : Int) = r.2) ∧ (stL q k)[e]? = some 0 := by
  intro k
  induction k with
  | zero => intro _ r hr; cases hr
  | succ k ih =>
    intro hk r hr
    obtain ⟨ha, hb, hab, h1, ⟨x, hx, hx0, _⟩, _⟩ := tree_step h (k := k) hk
    have e := stepL_at hab h1 hx
    have hl := stL_length q k
    rw [stL_next, e]
    simp only [stP, List.mem_append, List.mem_singleton] at hr
    rcases hr with hr | rfl
    · obtain ⟨hrr, i, hi, h0⟩ := ih (by omega) r hr
      refine ⟨hrr, i, hi, ?_⟩
      have n1 : stA q k ≠ i := fun ee => by rw [← ee, h1] at h0; simp at h0
      have n2 : stB q k ≠ i := fun ee => by rw [← ee, hx] at h0; simp at h0; omega
      rw [List.getElem?_set_ne n2, List.getElem?_set_ne n1]
      exact h0
    · refine ⟨by unfold pairI; simp only; omega, stA q k, by unfold pairI; simp only; omega, ?_⟩
      rw [List.getElem?_set_ne (Ne.symm hab), List.getElem?_set_self (by omega)]
theorem tree_nodup {q : List Int} (h : treeI q = true) : ∀ k, k < q.length → (stP q k).Nodup := by
  intro k
  induction k with
  | zero => intro _; exact List.nodup_nil
  | succ k ih =>
    intro hk
    obtain ⟨ha, hb, hab, h1, ⟨x, hx, hx0, _⟩, _⟩ := tree_step h (k := k) hk
    simp only [stP]
    rw [List.nodup_append]
    refine ⟨ih (by omega), by simp, ?_⟩
    intro r hr r' hr' e
    simp only [List.mem_singleton] at hr'
    subst hr'
    subst e
    obtain ⟨_, i, hi, h0⟩ := tree_dead h k (by omega) _ hr
    have hii : i = stA q k ∨ i = stB q k := by unfold pairI at hi; simp only at hi; omega
    rcases hii with rfl | rfl
    · rw [h1] at h0; simp at h0
    · rw [hx] at h0; simp at h0; omega
theorem stT_at {q : List Int} {i j : Nat} (hij : i < j) : ∀ k, stT q k i j = (stP q k).contains (((i : Int), (j : Int)) : Int × Int) := by
  intro k
  induction k with
  | zero => rfl
  | succ k ih =>
    simp only [stT, stP]
    rw [upd2_at hij, ih, Bool.eq_iff_iff, List.contains_iff_mem, List.mem_append, List.mem_singleton]
    by_cases e : (((i : Int), (j : Int)) : Int × Int) = (min (stA q k : Int) (stB q k), max (stA q k : Int) (stB q k))
    · rw [if_pos e]
      exact ⟨fun _ => .inr e, fun _ => rfl⟩
    · rw [if_neg e, List.contains_iff_mem]
      exact ⟨.inl, fun hh => hh.elim id fun e' => absurd e' e⟩
theorem tabP_tree {q : List Int} (h : treeI q = true) : tabP q.length (stT q (q.length - 1)) = sortP (stP q (q.length - 1)) := by
  have h2 := (treeI_parts h).2.1
  have hnd := tree_nodup h (q.length - 1) (by omega)
  have hm := tree_dead h (q.length - 1) (by omega)
  refine sorted_ext ((sorted_allP _).filter _) (sortP_sorted hnd) fun r => ?_
  unfold tabP
  rw [List.mem_filter, mem_allP, sortP_mem]
  obtain ⟨u, v⟩ := r
  constructor
  · rintro ⟨⟨g0, g1, g2⟩, ht⟩
    simp only at g0 g1 g2 ht
    rw [stT_at (by omega), List.contains_iff_mem, show ((u.toNat : Nat) : Int) = u by omega, show ((v.toNat : Nat) : Int) = v by omega] at ht
    exact ht
  · intro hr
    have hrr := (hm _ hr).1
    simp only at hrr
    refine ⟨hrr, ?_⟩
    simp only
    rw [stT_at (by omega), List.contains_iff_mem, show ((u.toNat : Nat) : Int) = u by omega, show ((v.toNat : Nat) : Int) = v by omega]
    exact hr
def resTreeOfNumbers (q : List Int) : Int × PL × Bool := if treeI q then ((q.length : Int), sortP (stP q (q.length - 1)), true) else (0, [], false)
theorem resTreeOfNumbers_len (q : List Int) : (resTreeOfNumbers q).2.1.length ≤ 1048576 := by
  unfold resTreeOfNumbers
  split
  · rename_i h
    have := isNums_len (treeI_parts h).1
    rw [sortP_length, stP_length]
    omega
  · simp
end Go.Proofs.Ytaemodpolopcfaa
