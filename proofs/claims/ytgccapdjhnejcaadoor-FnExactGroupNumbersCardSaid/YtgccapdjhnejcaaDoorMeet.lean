/-
  THE PROGRAM's MEETINGS OF A PARTY (each pair of people, and whether they are friends), by its contract.
-/
import Derived.Test.YtgccapdjhnejcaaDoorOther
namespace Go.Proofs.YtgccapdjhnejcaaDoor
open Go.RowKit

abbrev ML := List (Int × Int × Bool)
def mcells : ML → List Value
  | [] => []
  | m :: l => .int .i64 m.1 :: .int .i64 m.2.1 :: .bool m.2.2 :: mcells l
theorem mcells_length (l : ML) : (mcells l).length = l.length * 3 := by
  induction l with
  | nil => rfl
  | cons p l ih => simp only [mcells, List.length_cons, ih]; omega
theorem mcells_append (l m : ML) : mcells (l ++ m) = mcells l ++ mcells m := by
  induction l with
  | nil => rfl
  | cons p l ih => simp [mcells, ih]
theorem mcells_at {l : ML} {k : Nat} {x y : Int} {f : Bool} (h : l[k]? = some (x, y, f)) : (mcells l)[k * 3]? = some (.int .i64 x) ∧ (mcells l)[k * 3 + 1]? = some (.int .i64 y) ∧ (mcells l)[k * 3 + 2]? = some (.bool f) := by
  induction l generalizing k with
  | nil => simp at h
  | cons p l ih =>
    cases k with
    | zero => simp at h; subst h; exact ⟨rfl, rfl, rfl⟩
    | succ k =>
      have := ih (k := k) (by simpa using h)
      rw [show (k + 1) * 3 = k * 3 + 3 from by omega, show k * 3 + 3 + 1 = k * 3 + 1 + 3 from by omega, show k * 3 + 3 + 2 = k * 3 + 2 + 3 from by omega]
      simpa [mcells] using this
theorem CRead.meet {w : World} {B : Nat} {ad : Option Addr} {l : ML} (h : CRead w B ad (mcells l)) {k : Nat} {x y : Int} {f : Bool} (hk : l[k]? = some (x, y, f)) :
    ∃ b off, ad = some ⟨b, off, none⟩ ∧ b < B ∧ w.cell? ⟨b, off + k * 3, none⟩ = some (.int .i64 x) ∧ w.cell? ⟨b, off + k * 3 + 1, none⟩ = some (.int .i64 y) ∧ w.cell? ⟨b, off + k * 3 + 2, none⟩ = some (.bool f) := by
  obtain ⟨e0, e1, e2⟩ := mcells_at hk
  obtain ⟨b, off, rfl, hb, h0⟩ := h _ _ e0
  obtain ⟨b', off', e, _, h1⟩ := h _ _ e1
  simp only [Option.some.injEq, Addr.mk.injEq, and_true] at e
  obtain ⟨rfl, rfl⟩ := e
  obtain ⟨b', off', e, _, h2⟩ := h _ _ e2
  simp only [Option.some.injEq, Addr.mk.injEq, and_true] at e
  obtain ⟨rfl, rfl⟩ := e
  exact ⟨b, off, rfl, hb, h0, h1, h2⟩

/-- the meetings of pairs -/
def meets (l : PL) (qs : PL) : ML := qs.map fun q => (q.1, q.2, l.contains q)
theorem meets_snoc (l qs : PL) (a b : Int) : meets l (qs ++ [(a, b)]) = meets l qs ++ [(a, b, l.contains (a, b))] := by simp [meets]
theorem meets_length (l qs : PL) : (meets l qs).length = qs.length := by simp [meets]

theorem upTo_prefix {n a b : Nat} (ha : a < n) (hab : a < b) (hb : b ≤ n) : ∃ rest, allP n = upTo n a b ++ rest := by
  have e1 : List.range n = List.range (a + 1) ++ (List.range (n - (a + 1))).map (a + 1 + ·) := by
    rw [← List.range_add]; congr 1; omega
  have e2 : rowP a n = (List.range' (a + 1) (b - (a + 1))).map (fun b : Nat => ((a : Int), (b : Int))) ++ (List.range' b (n - b)).map (fun b : Nat => ((a : Int), (b : Int))) := by
    unfold rowP
    rw [← List.map_append]
    congr 1
    have := List.range'_append_1 (s := a + 1) (m := b - (a + 1)) (n := n - b)
    rw [show a + 1 + (b - (a + 1)) = b from by omega] at this
    rw [this]
    congr 1
    omega
  unfold allP
  rw [e1, List.flatMap_append, List.range_succ, List.flatMap_append]
  simp only [List.flatMap_cons, List.flatMap_nil, List.append_nil]
  rw [e2]
  unfold upTo
  exact ⟨_, by simp only [List.append_assoc]; rfl⟩
/-- how many of the pairs so far are friends -/
def toldTo (n : Nat) (l : PL) (a b : Nat) : Nat := ((upTo n a b).filter fun q => l.contains q).length
theorem toldTo_le {n : Nat} {l : PL} (h : isP n l = true) {a b : Nat} (ha : a < n) (hab : a < b) (hb : b ≤ n) : toldTo n l a b ≤ l.length := by
  obtain ⟨rest, hr⟩ := upTo_prefix ha hab hb
  have hl := isP_filter h
  rw [hr, List.filter_append] at hl
  unfold toldTo
  rw [← congrArg List.length hl, List.length_append]
  omega
theorem told_at {n : Nat} {l : PL} (h : isP n l = true) {a b : Nat} (hab : a < b) (hb : b < n) (hc : l.contains ((a : Int), (b : Int)) = true) : l[toldTo n l a b]? = some ((a : Int), (b : Int)) := by
  obtain ⟨rest, hr⟩ := upTo_prefix (n := n) (a := a) (b := b + 1) (by omega) (by omega) (by omega)
  have hl := isP_filter h
  rw [hr, upTo_next hab, List.append_assoc, List.filter_append] at hl
  simp only [List.singleton_append, List.filter_cons, hc, if_true] at hl
  unfold toldTo
  generalize (upTo n a b).filter (fun q => l.contains q) = F at hl ⊢
  rw [← hl]
  simp
theorem told_not {l : PL} {k : Nat} {x y : Int} (hx : l[k]? = some (x, y)) (a b : Int) (hc : l.contains (a, b) = false) : ¬ (x = a ∧ y = b) := by
  rintro ⟨rfl, rfl⟩
  rw [Bool.eq_false_iff] at hc
  exact hc (List.contains_iff_mem.2 (List.mem_of_getElem? hx))
theorem toldTo_yes {n : Nat} {l : PL} {a b : Nat} (hab : a < b) (hc : l.contains ((a : Int), (b : Int)) = true) : toldTo n l a (b + 1) = toldTo n l a b + 1 := by
  unfold toldTo; rw [upTo_next hab, List.filter_append]; simp only [List.filter_cons, hc, if_true, List.filter_nil, List.length_append, List.length_singleton]
theorem toldTo_no {n : Nat} {l : PL} {a b : Nat} (hab : a < b) (hc : l.contains ((a : Int), (b : Int)) = false) : toldTo n l a (b + 1) = toldTo n l a b := by
  unfold toldTo; rw [upTo_next hab, List.filter_append]; simp only [List.filter_cons, hc, Bool.false_eq_true, if_false, List.filter_nil, List.append_nil]
theorem toldTo_row (n : Nat) (l : PL) (a : Nat) : toldTo n l a n = toldTo n l (a + 1) (a + 1 + 1) := by unfold toldTo; rw [upTo_row]
theorem three_cells {w : World} {g : Nat} {u v x : Value} (h : w.cell? ⟨g, 0, none⟩ = some u) (h' : w.cell? ⟨g, 1, none⟩ = some v) (h'' : w.cell? ⟨g, 2, none⟩ = some x) : ∀ j y, [u, v, x][j]? = some y → w.cell? ((⟨g, 0, none⟩ : Addr).add j) = some y := by
  intro j y hy
  match j, hy with
  | 0, hy => simp at hy; subst hy; simpa [Addr.add] using h
  | 1, hy => simp at hy; subst hy; simpa [Addr.add] using h'
  | 2, hy => simp at hy; subst hy; simpa [Addr.add] using h''
theorem three_one {u v x : Value} (h : u.oneCell' = true) (h' : v.oneCell' = true) (h'' : x.oneCell' = true) : ∀ y ∈ [u, v, x], y.oneCell' = true := by
  intro y hy
  simp at hy
  rcases hy with rfl | rfl | rfl
  · exact h
  · exact h'
  · exact h''
end Go.Proofs.YtgccapdjhnejcaaDoor
