/-
  The model's table of two parties, by its contract: rows copied into a greater table, then stores.
-/
import Derived.Test.YtgccapdjhnejcaaFriends
import Derived.Test.YtgccapdjhnejcaaJoin2
import Derived.Laws.IdiomCopy
import Derived.Lib.LazyBuf
import Derived.Deep.RegionWith
namespace Go.Proofs.Ytgccapdjhnejcaa
open Go.RowKit

theorem grownBy_setCells (b : Nat) : ∀ (vs : List Value) (o : Nat) (w : World), w.grownBy (w.setCells b o vs) (some b)
  | [], _, w => World.grownBy.refl _ _
  | v :: r, o, w => by
    have h1 : w.grownBy (w.setCell ⟨b, o, none⟩ v) (some b) := ⟨rfl, rfl, rfl, by simp, fun i _ hi => Below.heap_setCell w _ _ i (fun e => hi (by rw [e]))⟩
    exact gb_trans h1 (grownBy_setCells b r (o + 1) _)
section
variable {w w' : World} {B k n b : Nat} {v : Value} {G : Nat → Nat} {t : Nat → Nat → Bool}
/-- a table apart from what is written -/
theorem TabG.apart (h : TabG w B v k n G t) (hg : w.grownBy w' (some b)) (hb : b < B) : TabG w' B v k n G t :=
  ⟨h.own.kept hg (.inr fun e => by have := (h.own.lt b e).1; omega), fun i hi => ⟨(h.row i hi).1, (h.row i hi).2.of_block (hg.block _ (h.row i hi).2.lt (fun e => by have := (h.row i hi).1; simp at e; omega))⟩, h.inj⟩
/-- a run of cells copied into a row -/
def putT (t : Nat → Nat → Bool) (a o p : Nat) (f : Nat → Bool) : Nat → Nat → Bool := fun i j => if i = a ∧ o ≤ j ∧ j < o + p then f (j - o) else t i j
theorem TabG.copy (h : TabG w B v k n G t) {a : Nat} (ha : a < k) (o p : Nat) (f : Nat → Bool) : TabG (w.setCells (G a) o ((List.range p).map fun j => Value.bool (f j))) B v k n G (putT t a o p f) := by
  have hne := row_ne_own h.own (h.row a ha).2 (by decide)
  refine ⟨h.own.kept (grownBy_setCells _ _ _ _) (.inr hne), fun i hi => ⟨(h.row i hi).1, ?_⟩, h.inj⟩
  by_cases e : i = a
  · subst e
    refine (rowIs_setCells _ _ _ _ (h.row i hi).2).congr fun j _ => ?_
    unfold putT
    simp only [List.length_map, List.length_range]
    by_cases hj : o ≤ j ∧ j < o + p
    · rw [if_pos hj, if_pos (by refine ⟨?_, hj⟩; first | trivial | rfl), List.getElem?_map, List.getElem?_range (by omega)]
      rfl
    · rw [if_neg hj, if_neg (by omega)]
  · have hG : G i ≠ G a := fun hh => e (h.inj i a hi ha hh)
    refine (rowIs_setCells_other hG _ _ _ (h.row i hi).2).congr fun j _ => ?_
    unfold putT
    rw [if_neg (by omega)]
theorem TabG.drew (h : TabG w B v k n G t) : TabG w.drew B v k n G t := h.of_blocks ⟨rfl, rfl, rfl, Nat.le_refl _, fun _ _ _ => rfl⟩
end
theorem fillA_next (p : Nat) (t : Nat → Nat → Bool) (a : Nat) : putT (fillA p t a) a 0 p (t a) = fillA p t (a + 1) := by
  funext i j
  unfold putT fillA
  by_cases h : i = a ∧ 0 ≤ j ∧ j < 0 + p
  · rw [if_pos h, if_pos (by omega), h.1]; rfl
  · rw [if_neg h]
    have : (i < a ∧ j < p) ↔ (i < a + 1 ∧ j < p) := by omega
    simp only [this]
theorem fillB_next {n : Nat} (p s : Nat) (t t' : Nat → Nat → Bool) (a : Nat) (hn : n = p + s) : ∀ i j, i < n → j < n → putT (fillB p t t' a) (p + a) p s (t' a) i j = fillB p t t' (a + 1) i j := by
  intro i j hi hj
  unfold putT fillB
  by_cases h : i = p + a ∧ p ≤ j ∧ j < p + s
  · rw [if_pos h, if_neg (by omega), if_pos (by omega), h.1, show p + a - p = a from by omega]
  · rw [if_neg h]
    by_cases c : i < p ∧ j < p
    · rw [if_pos c, if_pos c]
    · rw [if_neg c, if_neg c]
      have : (p ≤ i ∧ i < p + a ∧ p ≤ j) ↔ (p ≤ i ∧ i < p + (a + 1) ∧ p ≤ j) := by omega
      simp only [this]

/-- what 'copy' does with a row of a table -/
theorem copy_run {w : World} {B B' k n k' n' : Nat} {v v' : Value} {G G' : Nat → Nat} {t t' : Nat → Nat → Bool} (h : TabG w B v k n G t) (h' : TabG w B' v' k' n' G' t') {a a' : Nat} (ha : a < k) (ha' : a' < k') (o : Nat) (ho : o + n' ≤ n) (ty : TypeId) (dl dc : Nat) (hd : n' ≤ dl) :
    (Builtin.copy_ #[72, 72] ty #[.slice (some ⟨G a, o, none⟩) dl dc, .slice (some ⟨G' a', 0, none⟩) n' n']).run Try.prog w = .ok (goInt n') (w.setCells (G a) o ((List.range n').map fun j => Value.bool (t' a' j))) := by
  have := run_copy_cells (P := Try.prog) w 72 72 ty 4 (G a) o dl dc ⟨G' a', 0, none⟩ n' n' ((List.range n').map fun j => Value.bool (t' a' j)) Try.underlying72 (by kernel_rfl) (by rw [List.length_map, List.length_range]; exact (Nat.min_eq_left hd).symm)
    (fun j u hj => by
      have hjn : j < n' := by have := (List.getElem?_eq_some_iff.1 hj).1; simpa using this
      rw [List.getElem?_map, List.getElem?_range hjn] at hj
      simp only [Option.map_some, Option.some.injEq] at hj
      subst hj
      have := h'.cell ha' hjn
      rw [show (⟨G' a', 0, none⟩ : Addr).add j = ⟨G' a', j, none⟩ from by unfold Addr.add; split <;> simp_all]
      exact this)
    (fun j hj => by
      have hjn : j < n' := by simpa using hj
      rw [h.cell ha (j := o + j) (by omega)]
      rfl)
    (fun j _ => h.frozen ha (o + j))
    (fun u hu => by obtain ⟨_, _, rfl⟩ := List.mem_map.1 hu; rfl)
  simpa using this
end Go.Proofs.Ytgccapdjhnejcaa
