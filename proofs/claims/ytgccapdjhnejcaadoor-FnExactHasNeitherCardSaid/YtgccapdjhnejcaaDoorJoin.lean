/-
  TWO PARTIES BESIDE EACH OTHER, as lists and as tables.
-/
import Derived.Test.YtgccapdjhnejcaaDoorOther
namespace Go.Proofs.YtgccapdjhnejcaaDoor
open Go.RowKit

def shifted (p : Int) (l : PL) : PL := l.map fun q => (q.1 + p, q.2 + p)
def besideP (p : Int) (l m : PL) : PL := l ++ shifted p m
theorem mem_shifted {p : Int} {l : PL} {q : Int × Int} : q ∈ shifted p l ↔ (q.1 - p, q.2 - p) ∈ l := by
  unfold shifted
  rw [List.mem_map]
  constructor
  · rintro ⟨r, hr, rfl⟩
    have e : (r.1 + p - p, r.2 + p - p) = r := Prod.ext (by simp) (by simp)
    rw [e]
    exact hr
  · intro h
    exact ⟨_, h, Prod.ext (by simp) (by simp)⟩
theorem beside_list {p s : Int} {l m : PL} (hl : isP p l = true) (hm : isP s m = true) (h : p + s ≤ 12) : IsList (p + s) (besideP p l m) := by
  obtain ⟨a0, a1, a2, a3⟩ := isP_list hl
  obtain ⟨b0, b1, b2, b3⟩ := isP_list hm
  refine ⟨by omega, h, fun q hq => ?_, ?_⟩
  · unfold besideP at hq
    rcases List.mem_append.1 hq with hq | hq
    · have := a2 q hq
      omega
    · have := b2 _ (mem_shifted.1 hq)
      simp only at this
      omega
  · unfold besideP
    rw [List.pairwise_append]
    refine ⟨a3, ?_, ?_⟩
    · unfold shifted
      rw [List.pairwise_map]
      exact b3.imp fun {x y} h => by unfold plt at *; simp only; omega
    · intro x hx y hy
      have h1 := a2 x hx
      have h2 := b2 _ (mem_shifted.1 hy)
      unfold plt
      simp only at h2
      omega
/-- the table of both: each one's own, and x between them -/
def joinT (p : Nat) (t t' : Nat → Nat → Bool) (x : Bool) : Nat → Nat → Bool := fun i j => if i < p then (if j < p then t i j else x) else if j < p then x else t' (i - p) (j - p)
theorem joinT_adj {p s : Nat} {l m : PL} (hl : isP p l = true) (hm : isP s m = true) {i j : Nat} (hij : i < j) : joinT p (adj l) (adj m) false i j = true ↔ ((i : Int), (j : Int)) ∈ besideP p l m := by
  have a2 := (isP_list hl).2.2.1
  have b2 := (isP_list hm).2.2.1
  unfold joinT besideP
  rw [List.mem_append, mem_shifted]
  by_cases hj : j < p
  · rw [if_pos (by omega), if_pos hj, adj_pair hl hij, List.contains_iff_mem]
    refine ⟨.inl, fun h => h.elim id fun h => ?_⟩
    have := b2 _ h
    simp only at this
    omega
  · have hn : ¬ ((i : Int), (j : Int)) ∈ l := fun h => by
      have := a2 _ h
      simp only at this
      omega
    by_cases hi : i < p
    · rw [if_pos hi, if_neg hj]
      refine ⟨fun h => (by cases h), fun h => ?_⟩
      rcases h with h | h
      · exact absurd h hn
      · have := b2 _ h
        simp only at this
        omega
    · rw [if_neg hi, if_neg hj, adj_pair hm (by omega), List.contains_iff_mem]
      have e1 : ((i - p : Nat) : Int) = (i : Int) - p := by omega
      have e2 : ((j - p : Nat) : Int) = (j : Int) - p := by omega
      rw [e1, e2]
      exact ⟨.inr, fun h => h.elim (fun h => absurd h hn) id⟩
theorem tabP_beside {p s : Nat} {l m : PL} (hl : isP p l = true) (hm : isP s m = true) (h : p + s ≤ 12) : tabP (p + s) (joinT p (adj l) (adj m) false) = besideP p l m := by
  have hb := beside_list hl hm (by omega)
  refine sorted_ext (filter_list h _).2.2.2 hb.2.2.2 fun q => ?_
  unfold tabP
  rw [List.mem_filter, mem_allP]
  constructor
  · rintro ⟨⟨h0, h1, h2⟩, ht⟩
    have e : q = (((q.1.toNat : Nat) : Int), ((q.2.toNat : Nat) : Int)) := Prod.ext (by simp; omega) (by simp; omega)
    rw [e]
    exact (joinT_adj hl hm (by omega)).1 ht
  · intro hq
    have h3 := hb.2.2.1 q hq
    have e : q = (((q.1.toNat : Nat) : Int), ((q.2.toNat : Nat) : Int)) := Prod.ext (by simp; omega) (by simp; omega)
    refine ⟨by omega, (joinT_adj hl hm (by omega)).2 ?_⟩
    rw [← e]
    exact hq
end Go.Proofs.YtgccapdjhnejcaaDoor
