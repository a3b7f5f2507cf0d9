/-
  ALL PAIRS IN THEIR ORDER; a party's pairs are those of all that it has, in that order. Nothing here speaks of the program.
-/
import Derived.Test.YtgccapdjhnejcaaDoorPure
namespace Go.Proofs.YtgccapdjhnejcaaDoor

def plt (a b : Int × Int) : Prop := a.1 < b.1 ∨ a.1 = b.1 ∧ a.2 < b.2
theorem plt_trans {a b c : Int × Int} (h : plt a b) (k : plt b c) : plt a c := by unfold plt at *; omega
theorem plt_irrefl (a : Int × Int) : ¬ plt a a := by unfold plt; omega
theorem plt_asymm {a b : Int × Int} (h : plt a b) : ¬ plt b a := by unfold plt at *; omega

theorem sorted_ext : ∀ {l m : PL}, l.Pairwise plt → m.Pairwise plt → (∀ q, q ∈ l ↔ q ∈ m) → l = m
  | [], [], _, _, _ => rfl
  | [], b :: m, _, _, h => by have := (h b).2 (List.mem_cons_self ..); cases this
  | a :: l, [], _, _, h => by have := (h a).1 (List.mem_cons_self ..); cases this
  | a :: l, b :: m, hl, hm, h => by
    rw [List.pairwise_cons] at hl hm
    have hab : a = b := by
      rcases List.mem_cons.1 ((h a).1 (List.mem_cons_self ..)) with e | e
      · exact e
      · rcases List.mem_cons.1 ((h b).2 (List.mem_cons_self ..)) with e' | e'
        · exact e'.symm
        · exact absurd (hm.1 a e) (plt_asymm (hl.1 b e'))
    subst hab
    rw [sorted_ext hl.2 hm.2 fun q => ?_]
    constructor
    · intro hq
      rcases List.mem_cons.1 ((h q).1 (List.mem_cons_of_mem _ hq)) with e | e
      · subst e; exact absurd (hl.1 q hq) (plt_irrefl q)
      · exact e
    · intro hq
      rcases List.mem_cons.1 ((h q).2 (List.mem_cons_of_mem _ hq)) with e | e
      · subst e; exact absurd (hm.1 q hq) (plt_irrefl q)
      · exact e

/-- what a party is, said of its list -/
def IsList (p : Int) (l : PL) : Prop := 0 ≤ p ∧ p ≤ 12 ∧ (∀ q ∈ l, 0 ≤ q.1 ∧ q.1 < q.2 ∧ q.2 < p) ∧ l.Pairwise plt
theorem isP_list {p : Int} {l : PL} (h : isP p l = true) : IsList p l := by
  have hr := isP_range h
  refine ⟨hr.1, hr.2, ?_, ?_⟩
  · intro q hq
    obtain ⟨i, hi, rfl⟩ := List.getElem_of_mem hq
    exact goodAt_pair (isP_good h hi) (List.getElem?_eq_getElem hi)
  · rw [List.pairwise_iff_getElem]
    have step : ∀ (d i : Nat) (hi : i < l.length) (hj : i + d + 1 < l.length), plt l[i] l[i + d + 1] := by
      intro d
      induction d with
      | zero => intro i hi hj; exact goodAt_less (isP_good h hj) (List.getElem?_eq_getElem (by omega)) (List.getElem?_eq_getElem hj)
      | succ d ih =>
        intro i hi hj
        exact plt_trans (ih i hi (by omega)) (goodAt_less (p := p) (l := l) (i := i + d + 1) (isP_good h (by omega)) (List.getElem?_eq_getElem (by omega)) (List.getElem?_eq_getElem (by omega)))
    intro i j hi hj hij
    have e : j = i + (j - i - 1) + 1 := by omega
    have := step (j - i - 1) i hi (by omega)
    simpa only [← e] using this
theorem isP_of_list {p : Int} {l : PL} (h : IsList p l) : isP p l = true := by
  obtain ⟨h0, h1, hm, hs⟩ := h
  refine isP_of p l h0 h1 fun i hi => ?_
  have hx : l[i]? = some (l[i].1, l[i].2) := List.getElem?_eq_getElem hi
  have hg := hm l[i] (List.getElem_mem hi)
  rcases i with _ | i
  · exact goodAt_first hx hg
  · have hx' : l[i]? = some (l[i].1, l[i].2) := List.getElem?_eq_getElem (by omega)
    exact goodAt_next hx' hx hg ((List.pairwise_iff_getElem.1 hs) i (i + 1) (by omega) hi (by omega))

def rowP (a n : Nat) : PL := (List.range' (a + 1) (n - (a + 1))).map fun b : Nat => ((a : Int), (b : Int))
def allP (n : Nat) : PL := (List.range n).flatMap fun a => rowP a n
theorem mem_rowP {a n : Nat} {q : Int × Int} : q ∈ rowP a n ↔ q.1 = a ∧ q.1 < q.2 ∧ q.2 < n := by
  obtain ⟨x, y⟩ := q
  simp only [rowP, List.mem_map, List.mem_range'_1, Prod.mk.injEq]
  constructor
  · rintro ⟨b, hb, rfl, rfl⟩; omega
  · rintro ⟨rfl, h1, h2⟩; exact ⟨y.toNat, by omega, rfl, by omega⟩
theorem mem_allP {n : Nat} {q : Int × Int} : q ∈ allP n ↔ 0 ≤ q.1 ∧ q.1 < q.2 ∧ q.2 < n := by
  simp only [allP, List.mem_flatMap, List.mem_range, mem_rowP]
  constructor
  · rintro ⟨a, ha, h1, h2, h3⟩; omega
  · rintro ⟨h0, h1, h2⟩; exact ⟨q.1.toNat, by omega, by omega, h1, h2⟩
theorem sorted_rowP (a n : Nat) : (rowP a n).Pairwise plt := by
  unfold rowP
  rw [List.pairwise_map]
  exact List.Pairwise.imp (fun {b c} h => Or.inr ⟨rfl, by omega⟩) List.pairwise_lt_range'
theorem sorted_allP (n : Nat) : (allP n).Pairwise plt := by
  unfold allP
  rw [List.pairwise_flatMap]
  refine ⟨fun a _ => sorted_rowP a n, ?_⟩
  refine List.Pairwise.imp (fun {a b} h x hx y hy => ?_) (List.pairwise_lt_range (n := n))
  have h1 := mem_rowP.1 hx
  have h2 := mem_rowP.1 hy
  exact .inl (by omega)
theorem filter_list {n : Nat} (hn : n ≤ 12) (f : Int × Int → Bool) : IsList n ((allP n).filter f) := by
  refine ⟨by omega, by omega, fun q hq => ?_, (sorted_allP n).filter _⟩
  exact mem_allP.1 (List.mem_filter.1 hq).1
theorem filter_isP {n : Nat} (hn : n ≤ 12) (f : Int × Int → Bool) : isP n ((allP n).filter f) = true := isP_of_list (filter_list hn f)
/-- A party's pairs are those of all that it has. -/
theorem isP_filter {n : Nat} {l : PL} (h : isP n l = true) : (allP n).filter (fun q => l.contains q) = l := by
  obtain ⟨_, _, hm, hs⟩ := isP_list h
  refine sorted_ext ((sorted_allP n).filter _) hs fun q => ?_
  rw [List.mem_filter, List.contains_iff_mem]
  exact ⟨fun hq => hq.2, fun hq => ⟨mem_allP.2 (hm q hq), hq⟩⟩
theorem allP_length_le {n : Nat} (hn : n ≤ 12) : (allP n).length ≤ 66 := by
  have h := isP_length (filter_isP hn fun _ => true)
  have h2 := people_sq (p := (n : Int)) (by omega) (by omega)
  rw [List.filter_eq_self.2 (by simp)] at h
  omega
theorem filter_length_le {n : Nat} (hn : n ≤ 12) (f : Int × Int → Bool) : ((allP n).filter f).length ≤ 66 := Nat.le_trans (List.length_filter_le _ _) (allP_length_le hn)
/-- The pairs before the pair (a, b) in the order. -/
def upTo (n a b : Nat) : PL := ((List.range a).flatMap fun a => rowP a n) ++ (List.range' (a + 1) (b - (a + 1))).map fun b : Nat => ((a : Int), (b : Int))
theorem upTo_start (n : Nat) : upTo n 0 1 = [] := rfl
theorem upTo_next {n a b : Nat} (h : a < b) : upTo n a (b + 1) = upTo n a b ++ [((a : Int), (b : Int))] := by
  unfold upTo
  rw [List.append_assoc, show b + 1 - (a + 1) = (b - (a + 1)) + 1 from by omega, List.range'_concat]
  simp
  omega
theorem upTo_row (n a : Nat) : upTo n a n = upTo n (a + 1) (a + 1 + 1) := by
  unfold upTo
  rw [List.range_succ, List.flatMap_append]
  simp [rowP]
theorem upTo_begin (n a : Nat) : upTo n a (a + 1) = (List.range a).flatMap fun a => rowP a n := by simp [upTo]
theorem upTo_all (n : Nat) : upTo n n (n + 1) = allP n := by rw [upTo_begin]; rfl
end Go.Proofs.YtgccapdjhnejcaaDoor
