/-
  Texts put together for the claim of 'IsColouring' (pack 2): Pairs, Tab, Nums, NumsW, Has, Table, Of, Other, ChooseP, Ways, GroupP.
-/
import Derived.Test.YtnpljmipicjacaaIsColouringP1
import Derived.Deep.OwnRows
import Derived.StillTailTactics
/-
  ALL PAIRS IN THEIR ORDER; a party's pairs are those of all that it has, in that order. Nothing here speaks of the program.
-/
namespace Go.Proofs.Ytnpljmipicjacaa

def plt (a b : Int × Int) : Prop := a.1 < b.1 ∨ a.1 = b.1 ∧ a.2 < b.2
theorem plt_trans {a b c : Int × Int} (h : plt a b) (k : plt b c) : plt a c := by unfold plt at *; omega
theorem plt_irrefl (a : Int × Int) : ¬ plt a a := by unfold plt; omega
theorem plt_asymm {a b : Int × Int} (h : plt a b) : ¬ plt b a := by unfold plt at *; omega

theorem sorted_ext : ∀ {l m : PL}, l.Pairwise plt → m.Pairwise plt → (∀ q, q ∈ l ↔ q ∈ m) → l = m
  | [], [], _, _, _ => rfl
  | [], b :: m, _, _, h => by have := (h b).2 (List.mem_cons_self ..); cases this
  | a :: l, [], _, _, h => by have := (h a).1 (List.mem_cons_self ..); cases this
  | a :: l, b :: m, hl, hm, h => by
    rw [List.pairwise_cons] at hl hm
    have hab : a = b := by
      rcases List.mem_cons.1 ((h a).1 (List.mem_cons_self ..)) with e | e
      · exact e
      · rcases List.mem_cons.1 ((h b).2 (List.mem_cons_self ..)) with e' | e'
        · exact e'.symm
        · exact absurd (hm.1 a e) (plt_asymm (hl.1 b e'))
    subst hab
    rw [sorted_ext hl.2 hm.2 fun q => ?_]
    constructor
    · intro hq
      rcases List.mem_cons.1 ((h q).1 (List.mem_cons_of_mem _ hq)) with e | e
      · subst e; exact absurd (hl.1 q hq) (plt_irrefl q)
      · exact e
    · intro hq
      rcases List.mem_cons.1 ((h q).2 (List.mem_cons_of_mem _ hq)) with e | e
      · subst e; exact absurd (hm.1 q hq) (plt_irrefl q)
      · exact e

/-- what a party is, said of its list -/
def IsList (p : Int) (l : PL) : Prop := 0 ≤ p ∧ p ≤ 12 ∧ (∀ q ∈ l, 0 ≤ q.1 ∧ q.1 < q.2 ∧ q.2 < p) ∧ l.Pairwise plt
theorem isP_list {p : Int} {l : PL} (h : isP p l = true) : IsList p l := by
  have hr := isP_range h
  refine ⟨hr.1, hr.2, ?_, ?_⟩
  · intro q hq
    obtain ⟨i, hi, rfl⟩ := List.getElem_of_mem hq
    exact goodAt_pair (isP_good h hi) (List.getElem?_eq_getElem hi)
  · rw [List.pairwise_iff_getElem]
    have step : ∀ (d i : Nat) (hi : i < l.length) (hj : i + d + 1 < l.length), plt l[i] l[i + d + 1] := by
      intro d
      induction d with
      | zero => intro i hi hj; exact goodAt_less (isP_good h hj) (List.getElem?_eq_getElem (by omega)) (List.getElem?_eq_getElem hj)
      | succ d ih =>
        intro i hi hj
        exact plt_trans (ih i hi (by omega)) (goodAt_less (p := p) (l := l) (i := i + d + 1) (isP_good h (by omega)) (List.getElem?_eq_getElem (by omega)) (List.getElem?_eq_getElem (by omega)))
    intro i j hi hj hij
    have e : j = i + (j - i - 1) + 1 := by omega
    have := step (j - i - 1) i hi (by omega)
    simpa only [← e] using this
theorem isP_of_list {p : Int} {l : PL} (h : IsList p l) : isP p l = true := by
  obtain ⟨h0, h1, hm, hs⟩ := h
  refine isP_of p l h0 h1 fun i hi => ?_
  have hx : l[i]? = some (l[i].1, l[i].2) := List.getElem?_eq_getElem hi
  have hg := hm l[i] (List.getElem_mem hi)
  rcases i with _ | i
  · exact goodAt_first hx hg
  · have hx' : l[i]? = some (l[i].1, l[i].2) := List.getElem?_eq_getElem (by omega)
    exact goodAt_next hx' hx hg ((List.pairwise_iff_getElem.1 hs) i (i + 1) (by omega) hi (by omega))

def rowP (a n : Nat) : PL := (List.range' (a + 1) (n - (a + 1))).map fun b : Nat => ((a : Int), (b : Int))
def allP (n : Nat) : PL := (List.range n).flatMap fun a => rowP a n
theorem mem_rowP {a n : Nat} {q : Int × Int} : q ∈ rowP a n ↔ q.1 = a ∧ q.1 < q.2 ∧ q.2 < n := by
  obtain ⟨x, y⟩ := q
  simp only [rowP, List.mem_map, List.mem_range'_1, Prod.mk.injEq]
  constructor
  · rintro ⟨b, hb, rfl, rfl⟩; omega
  · rintro ⟨rfl, h1, h2⟩; exact ⟨y.toNat, by omega, rfl, by omega⟩
theorem mem_allP {n : Nat} {q : Int × Int} : q ∈ allP n ↔ 0 ≤ q.1 ∧ q.1 < q.2 ∧ q.2 < n := by
  simp only [allP, List.mem_flatMap, List.mem_range, mem_rowP]
  constructor
  · rintro ⟨a, ha, h1, h2, h3⟩; omega
  · rintro ⟨h0, h1, h2⟩; exact ⟨q.1.toNat, by omega, by omega, h1, h2⟩
theorem sorted_rowP (a n : Nat) : (rowP a n).Pairwise plt := by
  unfold rowP
  rw [List.pairwise_map]
  exact List.Pairwise.imp (fun {b c} h => Or.inr ⟨rfl, by omega⟩) List.pairwise_lt_range'
theorem sorted_allP (n : Nat) : (allP n).Pairwise plt := by
  unfold allP
  rw [List.pairwise_flatMap]
  refine ⟨fun a _ => sorted_rowP a n, ?_⟩
  refine List.Pairwise.imp (fun {a b} h x hx y hy => ?_) (List.pairwise_lt_range (n := n))
  have h1 := mem_rowP.1 hx
  have h2 := mem_rowP.1 hy
  exact .inl (by omega)
theorem filter_list {n : Nat} (hn : n ≤ 12) (f : Int × Int → Bool) : IsList n ((allP n).filter f) := by
  refine ⟨by omega, by omega, fun q hq => ?_, (sorted_allP n).filter _⟩
  exact mem_allP.1 (List.mem_filter.1 hq).1
theorem filter_isP {n : Nat} (hn : n ≤ 12) (f : Int × Int → Bool) : isP n ((allP n).filter f) = true := isP_of_list (filter_list hn f)
/-- A party's pairs are those of all that it has. -/
theorem isP_filter {n : Nat} {l : PL} (h : isP n l = true) : (allP n).filter (fun q => l.contains q) = l := by
  obtain ⟨_, _, hm, hs⟩ := isP_list h
  refine sorted_ext ((sorted_allP n).filter _) hs fun q => ?_
  rw [List.mem_filter, List.contains_iff_mem]
  exact ⟨fun hq => hq.2, fun hq => ⟨mem_allP.2 (hm q hq), hq⟩⟩
theorem allP_length_le {n : Nat} (hn : n ≤ 12) : (allP n).length ≤ 66 := by
  have h := isP_length (filter_isP hn fun _ => true)
  have h2 := people_sq (p := (n : Int)) (by omega) (by omega)
  rw [List.filter_eq_self.2 (by simp)] at h
  omega
theorem filter_length_le {n : Nat} (hn : n ≤ 12) (f : Int × Int → Bool) : ((allP n).filter f).length ≤ 66 := Nat.le_trans (List.length_filter_le _ _) (allP_length_le hn)
/-- The pairs before the pair (a, b) in the order. -/
def upTo (n a b : Nat) : PL := ((List.range a).flatMap fun a => rowP a n) ++ (List.range' (a + 1) (b - (a + 1))).map fun b : Nat => ((a : Int), (b : Int))
theorem upTo_start (n : Nat) : upTo n 0 1 = [] := rfl
theorem upTo_next {n a b : Nat} (h : a < b) : upTo n a (b + 1) = upTo n a b ++ [((a : Int), (b : Int))] := by
  unfold upTo
  rw [List.append_assoc, show b + 1 - (a + 1) = (b - (a + 1)) + 1 from by omega, List.range'_concat]
  simp
  omega
theorem upTo_row (n a : Nat) : upTo n a n = upTo n (a + 1) (a + 1 + 1) := by
  unfold upTo
  rw [List.range_succ, List.flatMap_append]
  simp [rowP]
theorem upTo_begin (n a : Nat) : upTo n a (a + 1) = (List.range a).flatMap fun a => rowP a n := by simp [upTo]
theorem upTo_all (n : Nat) : upTo n n (n + 1) = allP n := by rw [upTo_begin]; rfl
end Go.Proofs.Ytnpljmipicjacaa
/-
  TABLES OF WHO IS WHOSE FRIEND, in memory of the call's own: one row of rows.
-/
namespace Go.Proofs.Ytnpljmipicjacaa
open Go.RowKit

def upd (t : Nat → Nat → Bool) (a b : Nat) (x : Bool) : Nat → Nat → Bool := fun i j => if i = a ∧ j = b then x else t i j
def adj (l : PL) (i j : Nat) : Bool := l.contains ((i : Int), (j : Int)) || l.contains ((j : Int), (i : Int))
theorem adj_nil : adj [] = fun _ _ => false := rfl
theorem adj_snoc (l : PL) (a b : Nat) : adj (l ++ [((a : Int), (b : Int))]) = upd (upd (adj l) a b true) b a true := by
  funext i j
  simp only [adj, upd, List.contains_append, List.contains_cons, List.contains_nil, Bool.or_false]
  have e1 : (((i : Int), (j : Int)) == ((a : Int), (b : Int))) = decide (i = a ∧ j = b) := by rw [Bool.eq_iff_iff]; simp; omega
  have e2 : (((j : Int), (i : Int)) == ((a : Int), (b : Int))) = decide (i = b ∧ j = a) := by rw [Bool.eq_iff_iff]; simp; omega
  rw [e1, e2]
  by_cases h1 : i = b ∧ j = a
  · simp [h1]
  · by_cases h2 : i = a ∧ j = b
    · simp [h2]
    · simp [h1, h2]
theorem adj_pair {n : Nat} {l : PL} (h : isP n l = true) {i j : Nat} (hij : i < j) : adj l i j = l.contains ((i : Int), (j : Int)) := by
  unfold adj
  have : l.contains ((j : Int), (i : Int)) = false := by
    rw [Bool.eq_false_iff]
    intro hc
    rw [List.contains_iff_mem] at hc
    have := (isP_list h).2.2.1 _ hc
    simp at this
    omega
  rw [this, Bool.or_false]
theorem adj_comm (l : PL) (i j : Nat) : adj l i j = adj l j i := by unfold adj; rw [Bool.or_comm]

/-- k rows of n bools each, row i in block G i, under the slice v. -/
structure TabG (w : World) (B : Nat) (v : Value) (k n : Nat) (G : Nat → Nat) (t : Nat → Nat → Bool) : Prop where
  own : w.ownsRow B 67 1 v k ((List.range k).map fun i => Value.slice (some ⟨G i, 0, none⟩) n n)
  row : ∀ i, i < k → B ≤ G i ∧ w.rowIs (G i) 4 n (fun j => .bool (t i j))
  inj : ∀ i j, i < k → j < k → G i = G j → i = j
section
variable {w w' : World} {B k n : Nat} {v : Value} {G : Nat → Nat} {t t' : Nat → Nat → Bool}
theorem TabG.congr (h : TabG w B v k n G t) (e : ∀ i j, i < k → j < n → t i j = t' i j) : TabG w B v k n G t' :=
  ⟨h.own, fun i hi => ⟨(h.row i hi).1, (h.row i hi).2.congr fun j hj => by rw [e i j hi hj]⟩, h.inj⟩
theorem TabG.of_blocks (h : TabG w B v k n G t) (hg : w.grownBy w' none) : TabG w' B v k n G t :=
  ⟨h.own.kept hg (by cases v.ownBlock <;> simp), fun i hi => ⟨(h.row i hi).1, (h.row i hi).2.of_block (hg.block _ (h.row i hi).2.lt (by simp))⟩, h.inj⟩
theorem TabG.alloc (h : TabG w B v k n G t) (o : Obj) : TabG (w.alloc o) B v k n G t := h.of_blocks (World.grownBy_alloc w o none)
theorem TabG.below (h : TabG w B v k n G t) {B' : Nat} (hb : Below B' w w') (hB : w.heap.size ≤ B') : TabG w' B v k n G t := h.of_blocks (below_grownBy hb hB none)
theorem TabG.lower (h : TabG w B v k n G t) {B' : Nat} (hB : B' ≤ B) : TabG w B' v k n G t := ⟨own_lower h.own hB, fun i hi => ⟨Nat.le_trans hB (h.row i hi).1, (h.row i hi).2⟩, h.inj⟩
theorem TabG.cell (h : TabG w B v k n G t) {i j : Nat} (hi : i < k) (hj : j < n) : w.cell? ⟨G i, j, none⟩ = some (.bool (t i j)) := (h.row i hi).2.cell hj
theorem TabG.frozen (h : TabG w B v k n G t) {i : Nat} (hi : i < k) (j : Nat) : w.frozen? ⟨G i, j, none⟩ = false := (h.row i hi).2.frozen j
theorem TabG.blk (h : TabG w B v k n G t) {i : Nat} (hi : i < k) : B ≤ G i ∧ G i < w.heap.size := ⟨(h.row i hi).1, (h.row i hi).2.lt⟩
theorem TabG.outer {g c : Nat} (h : TabG w B (.slice (some ⟨g, 0, none⟩) k c) k n G t) {i : Nat} (hi : i < k) : w.cell? ⟨g, i, none⟩ = some (.slice (some ⟨G i, 0, none⟩) n n) := by
  rw [h.own.cellAt i (by omega)]
  simp [hi]
theorem row_ne_own {e b t : Nat} {size m : Nat} {xs : List Value} {f : Nat → Value} (h : w.ownsRow B e size v m xs) (hr : w.rowIs b t n f) (hne : e ≠ t) : v.ownBlock ≠ some b := by
  rcases h.2 with ⟨rfl, _⟩ | ⟨g, cap, cur, rfl, _, hh, _⟩
  · simp [Value.ownBlock]
  · intro e
    have hgb : g = b := by simpa [Value.ownBlock] using e
    subst hgb
    obtain ⟨c, hc, _⟩ := hr
    rw [hh] at hc
    injection hc with hc
    injection hc with _ ht
    exact hne ht
/-- a store into the table -/
theorem TabG.set (h : TabG w B v k n G t) {a b : Nat} (ha : a < k) (x : Bool) : TabG (w.setCell ⟨G a, b, none⟩ (.bool x)) B v k n G (upd t a b x) := by
  have hne := row_ne_own h.own (h.row a ha).2 (by decide)
  have hg : w.grownBy (w.setCell ⟨G a, b, none⟩ (.bool x)) (some (G a)) := ⟨rfl, rfl, rfl, by simp, fun i _ hi => Below.heap_setCell w _ _ i (fun e => hi (by rw [e]))⟩
  refine ⟨h.own.kept hg (.inr hne), fun i hi => ⟨(h.row i hi).1, ?_⟩, h.inj⟩
  by_cases e : i = a
  · subst e
    exact ((h.row i hi).2.set b (.bool x)).congr fun j _ => by
      unfold upd
      by_cases hj : j = b <;> simp [hj]
  · have hG : G i ≠ G a := fun hh => e (h.inj i a hi ha hh)
    exact ((h.row i hi).2.setOther (a := ⟨G a, b, none⟩) hG _).congr fun j _ => by unfold upd; simp [e]
/-- one row more -/
theorem TabG.push {W : World} {v' : Value} (h : TabG W B v k n G (fun _ _ => false)) (hB : B ≤ W.heap.size) {o : Obj} (hg : ((W.alloc (.cells (madeCells #[.bool false] n) 4)).alloc o).grownBy w' v.ownBlock)
    (hown : w'.ownsRow B 67 1 v' (k + 1) (((List.range k).map fun i => Value.slice (some ⟨G i, 0, none⟩) n n) ++ [.slice (some ⟨W.heap.size, 0, none⟩) n n])) :
    TabG w' B v' (k + 1) n (fun i => if i < k then G i else W.heap.size) (fun _ _ => false) := by
  have h2 := (h.alloc (.cells (madeCells #[.bool false] n) 4)).alloc o
  have hnew : ((W.alloc (.cells (madeCells #[.bool false] n) 4)).alloc o).rowIs W.heap.size 4 n (fun _ => .bool false) := (World.rowIs_made W (.bool false) n 4).alloc o
  have hne : ∀ b f, ((W.alloc (.cells (madeCells #[.bool false] n) 4)).alloc o).rowIs b 4 n f → w'.rowIs b 4 n f := fun b f hr =>
    hr.of_block (hg.block b hr.lt (fun e => row_ne_own h2.own hr (by decide) e.symm))
  refine ⟨?_, fun i hi => ?_, fun i j hi hj e => ?_⟩
  · have : (List.range (k + 1)).map (fun i => Value.slice (some ⟨if i < k then G i else W.heap.size, 0, none⟩) n n) = ((List.range k).map fun i => Value.slice (some ⟨G i, 0, none⟩) n n) ++ [.slice (some ⟨W.heap.size, 0, none⟩) n n] := by
      rw [List.range_succ, List.map_append]
      congr 1
      · exact List.map_congr_left fun i hi => by simp [List.mem_range.1 hi]
      · simp
    rw [this]
    exact hown
  · by_cases hik : i < k
    · simp only [hik, if_true]
      exact ⟨(h.row i hik).1, hne _ _ (h2.row i hik).2⟩
    · simp only [hik, if_false]
      exact ⟨hB, hne _ _ hnew⟩
  · by_cases hik : i < k <;> by_cases hjk : j < k <;> simp only [hik, hjk, if_true, if_false] at e
    · exact h.inj i j hik hjk e
    · have := (h.row i hik).2.lt; omega
    · have := (h.row j hjk).2.lt; omega
    · omega
theorem TabG.nil (w : World) (B n : Nat) (G : Nat → Nat) (t : Nat → Nat → Bool) : TabG w B (.slice none 0 0) 0 n G t := ⟨World.ownsRow_nil _ _ _ _, fun i hi => by omega, fun i j hi => by omega⟩
end
theorem own_cap {w : World} {base : Nat} {e : TypeId} {size n c : Nat} {A : Option Addr} {xs : List Value} (h : w.ownsRow base e size (.slice A n c) n xs) : n ≤ c := by
  rcases h.2 with ⟨h1, h2⟩ | ⟨g, cap, cur, hv, _, _, hm, _, _⟩
  · omega
  · simp only [Value.slice.injEq] at hv
    omega
theorem own_shape {w : World} {B : Nat} {e : TypeId} {size m : Nat} {v : Value} {xs : List Value} (h : w.ownsRow B e size v m xs) : ∃ A c, v = .slice A m c ∧ m ≤ c + 0 ∧ c ≤ maxLen := by
  rcases h.2 with ⟨rfl, rfl⟩ | ⟨g, cap, cur, rfl, _, _, hm, hc, _⟩
  · exact ⟨none, 0, rfl, Nat.le_refl _, by simp [maxLen]⟩
  · exact ⟨_, cap, rfl, hm, hc⟩
/-- the one cell of a slice that was built for an append -/
theorem one_cell {w : World} {g : Nat} {v : Value} (h : w.cell? ⟨g, 0, none⟩ = some v) : ∀ j u, [v][j]? = some u → w.cell? ((⟨g, 0, none⟩ : Addr).add j) = some u := by
  intro j u hu
  match j, hu with
  | 0, hu => simp at hu; subst hu; simpa [Addr.add] using h
theorem one_one {v : Value} (h : v.oneCell' = true) : ∀ u ∈ [v], u.oneCell' = true := by
  intro u hu
  simp at hu
  subst hu
  exact h
/-- A call came back with a table. -/
def GotTab (w : World) (n : Nat) (t : Nat → Nat → Bool) (e : Ending) (w' : World) : Prop :=
  ∃ A c G, e = .returned (.slice A n c) ∧ TabG w' w.heap.size (.slice A n c) n n G t ∧ Below w.heap.size w w'
end Go.Proofs.Ytnpljmipicjacaa
/-
  LISTS OF NUMBERS OF FRIENDS AS PLAIN LISTS: what numbers are; sorted so that they are falling; sums; where they fail. Nothing here speaks of the program.
-/
namespace Go.Proofs.Ytnpljmipicjacaa

def isNums (q : List Int) : Bool := decide (q.length ≤ 12) && q.all fun x => decide (0 ≤ x ∧ x < q.length)
theorem isNums_len {q : List Int} (h : isNums q = true) : q.length ≤ 12 := by
  simp only [isNums, Bool.and_eq_true, decide_eq_true_eq] at h
  exact h.1
theorem isNums_mem {q : List Int} (h : isNums q = true) : ∀ x ∈ q, 0 ≤ x ∧ x < q.length := by
  simp only [isNums, Bool.and_eq_true, List.all_eq_true, decide_eq_true_eq] at h
  exact h.2
theorem isNums_at {q : List Int} (h : isNums q = true) {k : Nat} {x : Int} (hx : q[k]? = some x) : 0 ≤ x ∧ x < q.length := isNums_mem h x (List.mem_of_getElem? hx)
theorem isNums_of {q : List Int} (h : q.length ≤ 12) (h2 : ∀ (k : Nat) (x : Int), k < q.length → q[k]? = some x → 0 ≤ x ∧ x < q.length) : isNums q = true := by
  simp only [isNums, Bool.and_eq_true, List.all_eq_true, decide_eq_true_eq]
  refine ⟨h, fun x hx => ?_⟩
  obtain ⟨i, hi, rfl⟩ := List.getElem_of_mem hx
  exact h2 i _ hi (List.getElem?_eq_getElem hi)
theorem isNums_bad {q : List Int} {k : Nat} {x : Int} (hx : q[k]? = some x) (h : ¬ (0 ≤ x ∧ x < q.length)) : isNums q = false := by
  cases he : isNums q with
  | false => rfl
  | true => exact absurd (isNums_at he hx) h
theorem isNums_many {q : List Int} (h : 12 < q.length) : isNums q = false := by
  cases he : isNums q with
  | false => rfl
  | true => have := isNums_len he; omega

/-! ## Falling -/
def fall (q : List Int) : List Int := q.mergeSort fun x y => decide (y ≤ x)
theorem fall_perm (q : List Int) : (fall q).Perm q := List.mergeSort_perm _ _
theorem fall_length (q : List Int) : (fall q).length = q.length := (fall_perm q).length_eq
theorem fall_mem {q : List Int} {x : Int} : x ∈ fall q ↔ x ∈ q := (fall_perm q).mem_iff
theorem fall_sorted (q : List Int) : (fall q).Pairwise fun x y => y ≤ x := by
  have h := List.pairwise_mergeSort (le := fun x y : Int => decide (y ≤ x)) (by intro a b c; simp; omega) (by intro a b; simp; omega) q
  exact h.imp (by simp)
theorem fall_unique {l q : List Int} (hs : l.Pairwise fun x y => y ≤ x) (hp : l.Perm q) : l = fall q :=
  List.Perm.eq_of_pairwise (le := fun x y : Int => y ≤ x) (fun a b _ _ h1 h2 => by omega) hs (fall_sorted q) (hp.trans (fall_perm q).symm)
theorem fall_nums {q : List Int} (h : isNums q = true) : isNums (fall q) = true := by
  refine isNums_of (by rw [fall_length]; exact isNums_len h) fun k x _ hx => ?_
  have := isNums_mem h x (fall_mem.1 (List.mem_of_getElem? hx))
  rw [fall_length]
  exact this

/-- the numbers from n down, j of them, each as often as it is in the list -/
def blockI (q : List Int) (x : Int) : List Int := q.filter fun y => decide (x = y)
def descI (q : List Int) (n j : Nat) : List Int := (List.range j).flatMap fun i : Nat => blockI q ((n : Int) - (i : Int))
theorem descI_zero (q : List Int) (n : Nat) : descI q n 0 = [] := rfl
theorem descI_next (q : List Int) (n j : Nat) : descI q n (j + 1) = descI q n j ++ blockI q ((n : Int) - j) := by
  unfold descI
  rw [List.range_succ, List.flatMap_append]
  simp
theorem blockI_snoc (q : List Int) (x y : Int) : blockI (q ++ [y]) x = blockI q x ++ if x = y then [y] else [] := by
  unfold blockI
  rw [List.filter_append]
  congr 1
  by_cases h : x = y
  · rw [if_pos h, List.filter_cons_of_pos (by simpa using h)]; rfl
  · rw [if_neg h, List.filter_cons_of_neg (by simpa using h)]; rfl
theorem mem_blockI {q : List Int} {x y : Int} : y ∈ blockI q x ↔ y ∈ q ∧ x = y := by simp [blockI]
theorem mem_descI {q : List Int} {n j : Nat} {y : Int} : y ∈ descI q n j ↔ y ∈ q ∧ (n : Int) - j < y ∧ y ≤ n := by
  simp only [descI, List.mem_flatMap, List.mem_range, mem_blockI]
  constructor
  · rintro ⟨i, hi, hy, rfl⟩; exact ⟨hy, by omega, by omega⟩
  · rintro ⟨hy, h1, h2⟩; exact ⟨((n : Int) - y).toNat, by omega, hy, by omega⟩
theorem descI_sorted (q : List Int) (n j : Nat) : (descI q n j).Pairwise fun x y => y ≤ x := by
  induction j with
  | zero => exact List.Pairwise.nil
  | succ j ih =>
    rw [descI_next, List.pairwise_append]
    refine ⟨ih, ?_, fun a ha b hb => ?_⟩
    · rw [List.pairwise_iff_getElem]
      intro a b ha hb _
      have h1 := (mem_blockI.1 (List.getElem_mem ha)).2
      have h2 := (mem_blockI.1 (List.getElem_mem hb)).2
      omega
    · have h1 := mem_descI.1 ha
      have h2 := (mem_blockI.1 hb).2
      omega
theorem count_blockI (q : List Int) (x y : Int) : (blockI q x).count y = if x = y then q.count y else 0 := by
  unfold blockI
  by_cases h : x = y
  · subst h
    rw [if_pos rfl, List.count_filter (by simp)]
  · rw [if_neg h, List.count_eq_zero]
    intro hm
    exact h (by simpa using (List.mem_filter.1 hm).2)
theorem count_descI (q : List Int) (n j : Nat) (y : Int) : (descI q n j).count y = if (n : Int) - j < y ∧ y ≤ n then q.count y else 0 := by
  induction j with
  | zero => rw [descI_zero, if_neg (by omega)]; rfl
  | succ j ih =>
    rw [descI_next, List.count_append, ih, count_blockI]
    by_cases h1 : (n : Int) - j = y
    · rw [if_pos h1, if_neg (by omega), if_pos (by omega), Nat.zero_add]
    · rw [if_neg h1, Nat.add_zero]
      by_cases h2 : (n : Int) - j < y ∧ y ≤ n
      · rw [if_pos h2, if_pos (by omega)]
      · rw [if_neg h2, if_neg (by omega)]
theorem descI_fall {q : List Int} (h : isNums q = true) : descI q q.length (q.length + 1) = fall q := by
  refine fall_unique (descI_sorted _ _ _) (List.perm_iff_count.2 fun y => ?_)
  rw [count_descI]
  split
  · rfl
  · rename_i hn
    symm
    rw [List.count_eq_zero]
    intro hy
    have := isNums_mem h y hy
    omega
theorem descI_le (q : List Int) (n j : Nat) : (descI q n j).length ≤ j * q.length := by
  induction j with
  | zero => simp [descI_zero]
  | succ j ih =>
    rw [descI_next, List.length_append, Nat.add_mul, Nat.one_mul]
    have : (blockI q ((n : Int) - j)).length ≤ q.length := List.length_filter_le _ _
    omega
theorem blockI_le (q : List Int) (x : Int) : (blockI q x).length ≤ q.length := List.length_filter_le _ _

/-! ## Sums -/
def sumI (q : List Int) : Int := q.foldl (· + ·) 0
theorem sumI_snoc (q : List Int) (x : Int) : sumI (q ++ [x]) = sumI q + x := by simp [sumI, List.foldl_append]
theorem sumI_nil : sumI [] = 0 := rfl
/-- a bound of the sum of a beginning -/
theorem sumI_take_bound {q : List Int} {m : Int} (hm : 0 ≤ m) (h : ∀ x ∈ q, 0 ≤ x ∧ x ≤ m) : ∀ k, 0 ≤ sumI (q.take k) ∧ sumI (q.take k) ≤ k * m := by
  intro k
  induction k with
  | zero => simp [sumI_nil]
  | succ k ih =>
    rw [List.take_add_one]
    have e : ((k + 1 : Nat) : Int) * m = k * m + m := by rw [Int.natCast_add, Int.add_mul]; simp
    rw [e]
    cases hx : q[k]? with
    | none => simp; omega
    | some x =>
      have := h x (List.mem_of_getElem? hx)
      rw [Option.toList_some, sumI_snoc]
      omega
theorem sumI_perm {q l : List Int} (h : q.Perm l) : sumI q = sumI l := by
  unfold sumI
  exact h.foldl_eq' (fun x _ y _ z => by omega) 0

/-! ## Where numbers fail -/
def minsI (k : Int) (q : List Int) : List Int := q.map fun x => if k < x then k else x
theorem minsI_snoc (k : Int) (q : List Int) (x : Int) : minsI k (q ++ [x]) = minsI k q ++ [if k < x then k else x] := by simp [minsI]
def mostI (s : List Int) (k : Nat) : Int := (k : Int) * (k - 1) + sumI (minsI k (s.drop k))
def failAt (s : List Int) (k : Nat) : Bool := decide (mostI s k < sumI (s.take k))
def failsI (s : List Int) : Int := match (List.range s.length).find? fun i => failAt s (i + 1) with | none => 0 | some i => (i : Int) + 1
theorem failsI_at {s : List Int} {k : Nat} (hk : k < s.length) (h : ∀ j, j < k → failAt s (j + 1) = false) (hf : failAt s (k + 1) = true) : failsI s = k + 1 := by
  have : (List.range s.length).find? (fun i => failAt s (i + 1)) = some k := by
    rw [List.find?_range_eq_some]
    exact ⟨hf, by simpa using hk, fun j hj => by simp [h j hj]⟩
  unfold failsI
  rw [this]
theorem failsI_none {s : List Int} (h : ∀ j, j < s.length → failAt s (j + 1) = false) : failsI s = 0 := by
  have : (List.range s.length).find? (fun i => failAt s (i + 1)) = none := by
    rw [List.find?_range_eq_none]
    intro j hj
    simp [h j hj]
  unfold failsI
  rw [this]
theorem failsI_range (s : List Int) : 0 ≤ failsI s ∧ failsI s ≤ s.length := by
  unfold failsI
  split
  · omega
  · rename_i i hi
    have := List.mem_of_find?_eq_some hi
    rw [List.mem_range] at this
    omega
theorem minsI_bound {s : List Int} {m k : Int} (hk : 0 ≤ k) (h : ∀ x ∈ s, 0 ≤ x ∧ x ≤ m) : ∀ x ∈ minsI k s, 0 ≤ x ∧ x ≤ m := by
  intro x hx
  obtain ⟨y, hy, rfl⟩ := List.mem_map.1 hx
  have := h y hy
  split <;> omega
/-- they can be -/
def canI (q : List Int) : Bool := decide (sumI q % 2 = 0) && decide (failsI (fall q) = 0)
end Go.Proofs.Ytnpljmipicjacaa
/-
  NUMBERS OF FRIENDS: what they are, by the model's and the program's contracts.
-/
namespace Go.Proofs.Ytnpljmipicjacaa
open Go.RowKit

def l1AllB (q : List Int) (lo hi : Int) : Bool := q.all fun x => decide (lo ≤ x ∧ x ≤ hi)
theorem l1AllB_yes {q : List Int} {lo hi : Int} (h : ∀ (j : Nat) (x : Int), j < q.length → q[j]? = some x → lo ≤ x ∧ x ≤ hi) : l1AllB q lo hi = true := by
  simp only [l1AllB, List.all_eq_true, decide_eq_true_eq]
  intro x hx
  obtain ⟨i, hi, rfl⟩ := List.getElem_of_mem hx
  exact h i _ hi (List.getElem?_eq_getElem hi)
theorem l1AllB_no {q : List Int} {lo hi : Int} {k : Nat} {x : Int} (hx : q[k]? = some x) (h : ¬ (lo ≤ x ∧ x ≤ hi)) : l1AllB q lo hi = false := by
  cases he : l1AllB q lo hi with
  | false => rfl
  | true =>
    simp only [l1AllB, List.all_eq_true, decide_eq_true_eq] at he
    exact absurd (he x (List.mem_of_getElem? hx)) h

set_option maxHeartbeats 1000000 in
theorem l1All_any (q : List Int) (A : Option Addr) (c : Nat) (lo hi : Int) (w : World) (hl : q.length ≤ 1048576) (hA : CRead w w.heap.size A (icells q)) :
    Calls Try.prog 81 #[.slice A q.length c, .int .i64 lo, .int .i64 hi] w fun e w' => e = .returned (.bool (l1AllB q lo hi)) ∧ w = w' := by
  go_enter Try.func81, Try.ntmps81
  go_wp2
  go_loop [11] (fun i => ∃ k : Nat, k ≤ q.length ∧ i = .int .i64 k ∧ ∀ (j : Nat) (x : Int), j < k → q[j]? = some x → lo ≤ x ∧ x ≤ hi) (fun i => q.length - (intOf i).toNat)
  case atStart => exact ⟨0, Nat.zero_le _, rfl, fun j x hj => by omega⟩
  case round =>
    obtain ⟨k, hk, rfl, hg⟩ := hrel
    have Hg := Lib.hid hg
    clear hg
    by_cases hlt : k < q.length
    · obtain ⟨x, hx⟩ := getSome q k hlt
      obtain ⟨b, off, rfl, hbb, c0⟩ := hA.int hx
      have hki : (k : Int) < (q.length : Int) := by omega
      have Hx := Lib.hid hx
      clear hx
      by_cases hin : lo ≤ x ∧ x ≤ hi
      · go_wp2_with (go_at_call 75; refine (l1In_yes _ _ _ hin.1 hin.2 _).mono ?_; rintro e w' ⟨rfl, rfl⟩)
        go_round
        case rel =>
          refine ⟨k + 1, by omega, by go_num, fun j y hj hy => ?_⟩
          by_cases hjk : j = k
          · subst hjk
            rw [Hx.out] at hy
            simp only [Option.some.injEq] at hy
            subst hy
            exact hin
          · exact Hg.out j y (by omega) hy
        case measure => simp [intOf]; omega
      · have e : l1AllB q lo hi = false := l1AllB_no Hx.out hin
        have He := Lib.hid e
        clear e
        go_wp2_with (go_at_call 75; refine (l1In_no _ _ _ (by omega) _).mono ?_; rintro e w' ⟨rfl, rfl⟩)
        go_ret
        exact ⟨by rw [He.out]; rfl, rfl⟩
    · have hkl : k = q.length := by omega
      have e : l1AllB q lo hi = true := l1AllB_yes fun j x hj hx => Hg.out j x (by omega) hx
      have He := Lib.hid e
      clear e
      have hge : ¬ ((k : Int) < (q.length : Int)) := by omega
      go_wp2
      go_ret
      exact ⟨by rw [He.out]; rfl, rfl⟩

theorem isNums_all {q : List Int} (h : q.length ≤ 12) : l1AllB q 0 ((q.length : Int) - 1) = isNums q := by
  unfold l1AllB isNums
  rw [decide_eq_true h, Bool.true_and]
  congr 1
  funext x
  congr 1
  apply propext
  omega

set_option maxHeartbeats 1000000 in
theorem deGood_any (q : List Int) (A : Option Addr) (c : Nat) (w : World) (hl : q.length ≤ 1048576) (hA : CRead w w.heap.size A (icells q)) :
    Calls Try.prog 61 #[.slice A q.length c] w fun e w' => e = .returned (.bool (isNums q)) ∧ w = w' := by
  by_cases h : q.length ≤ 12
  · have e := isNums_all h
    have He := Lib.hid e
    clear e
    have hi : (q.length : Int) ≤ 12 := by omega
    go_enter Try.func61, Try.ntmps61
    go_wp2_with fail
    refine (l1All_any _ _ _ _ _ _ hl hA).mono ?_
    rw [He.out]
    rintro e w' ⟨rfl, rfl⟩
    go_wp2
    go_ret
    exact ⟨rfl, rfl⟩
  · rw [isNums_many (by omega)]
    have hi : ¬ (q.length : Int) ≤ 12 := by omega
    go_enter Try.func61, Try.ntmps61
    go_wp2
    go_ret
    exact ⟨rfl, rfl⟩

def resIsNumbers (q : List Int) : Bool := isNums q
set_option maxHeartbeats 1000000 in
theorem isNumbers_any (q : List Int) (A : Option Addr) (c : Nat) (w : World) (hl : q.length ≤ 1048576) (hA : CRead w w.heap.size A (icells q)) :
    Calls Try.prog 64 #[.slice A q.length c] w fun e w' => e = .returned (.bool (isNums q)) ∧ w = w' := by
  by_cases h : q.length ≤ 12
  · have hi : ¬ (12 < (q.length : Int)) := by omega
    go_enter Try.func64, Try.ntmps64
    go_wp2
    go_loop [10] (fun i => ∃ k : Nat, k ≤ q.length ∧ i = .int .i64 k ∧ ∀ (j : Nat) (x : Int), j < k → q[j]? = some x → 0 ≤ x ∧ x < q.length) (fun i => q.length - (intOf i).toNat)
    case atStart => exact ⟨0, Nat.zero_le _, rfl, fun j x hj => by omega⟩
    case round =>
      obtain ⟨k, hk, rfl, hg⟩ := hrel
      have Hg := Lib.hid hg
      clear hg
      by_cases hlt : k < q.length
      · obtain ⟨x, hx⟩ := getSome q k hlt
        obtain ⟨b, off, rfl, hbb, c0⟩ := hA.int hx
        have hki : (k : Int) < (q.length : Int) := by omega
        have Hx := Lib.hid hx
        clear hx
        by_cases h0 : x < 0
        · have He := Lib.hid (isNums_bad Hx.out (by omega))
          go_wp2
          go_ret
          exact ⟨by rw [He.out]; rfl, rfl⟩
        · by_cases h1 : (q.length : Int) ≤ x
          · have He := Lib.hid (isNums_bad Hx.out (by omega))
            go_wp2
            go_ret
            exact ⟨by rw [He.out]; rfl, rfl⟩
          · go_wp2
            go_round
            case rel =>
              refine ⟨k + 1, by omega, by go_num, fun j y hj hy => ?_⟩
              by_cases hjk : j = k
              · subst hjk
                rw [Hx.out] at hy
                simp only [Option.some.injEq] at hy
                subst hy
                omega
              · exact Hg.out j y (by omega) hy
            case measure => simp [intOf]; omega
      · have hkl : k = q.length := by omega
        have He := Lib.hid (isNums_of h fun j x hj hx => Hg.out j x (by omega) hx)
        have hge : ¬ ((k : Int) < (q.length : Int)) := by omega
        go_wp2
        go_ret
        exact ⟨by rw [He.out]; rfl, rfl⟩
  · rw [isNums_many (by omega)]
    have hi : (12 : Int) < (q.length : Int) := by omega
    go_enter Try.func64, Try.ntmps64
    go_wp2
    go_ret
    exact ⟨rfl, rfl⟩
theorem implIsNumbers_any (q : List Int) (A : Option Addr) (c : Nat) (w : World) (hl : q.length ≤ 1048576) (hA : CRead w w.heap.size A (icells q)) :
    Calls Try.prog 64 #[.slice A q.length c] w fun e w' => e = .returned (.bool (resIsNumbers q)) ∧ Below w.heap.size w w' :=
  (isNumbers_any q A c w hl hA).mono fun e w' ⟨he, hw⟩ => ⟨he, by subst hw; exact Below.refl _ _⟩

/-! ## Sums -/
set_option maxHeartbeats 1000000 in
theorem deSum_any (q : List Int) (A : Option Addr) (c : Nat) (w : World) (hq : isNums q = true) (hA : CRead w w.heap.size A (icells q)) :
    Calls Try.prog 93 #[.slice A q.length c] w fun e w' => e = .returned (.int .i64 (sumI q)) ∧ w = w' := by
  have hl := isNums_len hq
  have Hq := Lib.hid hq
  clear hq
  go_enter Try.func93, Try.ntmps93
  go_wp2
  go_loop [3, 8] (fun v i => ∃ (k : Nat) (s : Int), k ≤ q.length ∧ i = .int .i64 k ∧ v = .int .i64 s ∧ s = sumI (q.take k) ∧ 0 ≤ s ∧ s ≤ 12 * k) (fun _ i => q.length - (intOf i).toNat)
  case atStart => exact ⟨0, 0, Nat.zero_le _, rfl, rfl, rfl, by omega, by omega⟩
  case round =>
    obtain ⟨k, s, hk, rfl, rfl, hs, hs0, hs1⟩ := hrel
    have Hs := Lib.hid hs
    clear hs
    by_cases hlt : k < q.length
    · obtain ⟨x, hx⟩ := getSome q k hlt
      obtain ⟨b, off, rfl, hbb, c0⟩ := hA.int hx
      have hx0 := isNums_at Hq.out hx
      have hki : (k : Int) < (q.length : Int) := by omega
      have Hx := Lib.hid hx
      clear hx
      go_wp2
      go_round
      case rel =>
        refine ⟨k + 1, s + x, by omega, by go_num, by go_num, ?_, by omega, by omega⟩
        rw [List.take_add_one, Hx.out, Option.toList_some, sumI_snoc, ← Hs.out]
      case measure => simp [intOf]; omega
    · have hkl : k = q.length := by omega
      subst hkl
      have hge : ¬ ((q.length : Int) < (q.length : Int)) := by omega
      go_wp2
      go_ret
      exact ⟨by rw [Hs.out, List.take_length]; rfl, rfl⟩

set_option maxHeartbeats 1000000 in
theorem sumOf_any (q : List Int) (A : Option Addr) (c : Nat) (w : World) (hq : isNums q = true) (hA : CRead w w.heap.size A (icells q)) :
    Calls Try.prog 97 #[.slice A q.length c] w fun e w' => e = .returned (.int .i64 (sumI q)) ∧ w = w' := by
  have hl := isNums_len hq
  have Hq := Lib.hid hq
  clear hq
  go_enter Try.func97, Try.ntmps97
  go_wp2
  go_loop [3, 8] (fun v i => ∃ (k : Nat) (s : Int), k ≤ q.length ∧ i = .int .i64 k ∧ v = .int .i64 s ∧ s = sumI (q.take k) ∧ 0 ≤ s ∧ s ≤ 12 * k) (fun _ i => q.length - (intOf i).toNat)
  case atStart => exact ⟨0, 0, Nat.zero_le _, rfl, rfl, rfl, by omega, by omega⟩
  case round =>
    obtain ⟨k, s, hk, rfl, rfl, hs, hs0, hs1⟩ := hrel
    have Hs := Lib.hid hs
    clear hs
    by_cases hlt : k < q.length
    · obtain ⟨x, hx⟩ := getSome q k hlt
      obtain ⟨b, off, rfl, hbb, c0⟩ := hA.int hx
      have hx0 := isNums_at Hq.out hx
      have hki : (k : Int) < (q.length : Int) := by omega
      have Hx := Lib.hid hx
      clear hx
      go_wp2
      go_round
      case rel =>
        refine ⟨k + 1, s + x, by omega, by go_num, by go_num, ?_, by omega, by omega⟩
        rw [List.take_add_one, Hx.out, Option.toList_some, sumI_snoc, ← Hs.out]
      case measure => simp [intOf]; omega
    · have hkl : k = q.length := by omega
      subst hkl
      have hge : ¬ ((q.length : Int) < (q.length : Int)) := by omega
      go_wp2
      go_ret
      exact ⟨by rw [Hs.out, List.take_length]; rfl, rfl⟩

/-! ## Sorted so that they are falling: the model's -/
set_option maxHeartbeats 1000000 in
set_option maxRecDepth 100000 in
theorem deSorted_any (q : List Int) (A : Option Addr) (c : Nat) (w : World) (hq : isNums q = true) (hA : CRead w w.heap.size A (icells q)) :
    Calls Try.prog 115 #[.slice A q.length c] w fun e w' => ∃ A' c', e = .returned (.slice A' (fall q).length c') ∧
      w'.ownsRow w.heap.size 3 1 (.slice A' (fall q).length c') (fall q).length (icells (fall q)) ∧ Below w.heap.size w w' := by
  obtain ⟨i0, hi, hz0, hz1, hz2⟩ := info_parts Try.infoInt
  have hl := isNums_len hq
  have Hfall := Lib.hid (descI_fall hq)
  clear hq
  go_enter Try.func115, Try.ntmps115
  go_wp2
  go_loopw [3, 4] (fun v i wr => ∃ (j : Nat) (y : Int), j ≤ q.length + 1 ∧ i = .int .i64 y ∧ y = (q.length : Int) - j ∧ wr.ownsRow w.heap.size 3 1 v (descI q q.length j).length (icells (descI q q.length j)) ∧ Below w.heap.size w wr) (fun _ i _ => (intOf i + 1).toNat)
  case atStart => exact ⟨0, q.length, Nat.zero_le _, rfl, by omega, World.ownsRow_nil _ _ _ _, Below.refl _ _⟩
  case round =>
    obtain ⟨j, y, hj, rfl, hy, hown, hb⟩ := hrel
    by_cases hlt : j < q.length + 1
    · have hge : 0 ≤ y := by omega
      have hge2 : y ≤ 12 := by omega
      have hjn : (j : Int) ≤ q.length := by omega
      have hdl := descI_le q q.length j
      have hdl2 : j * q.length ≤ 12 * 12 := Nat.mul_le_mul (by omega) hl
      have Hnext := Lib.hid (descI_next q q.length j)
      rw [← hy] at Hnext
      have Hy := Lib.hid hy
      have Hown := Lib.hid hown
      have Hb := Lib.hid hb
      clear hown hb hy
      go_wp2
      go_loopw [3, 15] (fun v i wx => ∃ m : Nat, m ≤ q.length ∧ i = .int .i64 m ∧ wx.ownsRow w.heap.size 3 1 v (descI q q.length j ++ blockI (q.take m) y).length (icells (descI q q.length j ++ blockI (q.take m) y)) ∧ Below w.heap.size w wx) (fun _ i _ => q.length - (intOf i).toNat)
      case atStart => exact ⟨0, Nat.zero_le _, rfl, by simpa [blockI] using Hown.out, Hb.out⟩
      case round =>
        clear Hown Hb
        obtain ⟨m, hm, rfl, hown, hb⟩ := hrel
        have hs := hb.size
        have hbl : (blockI (q.take m) y).length ≤ 12 := Nat.le_trans (blockI_le _ _) (Nat.le_trans (List.length_take_le' _ _) hl)
        have hdb : (descI q q.length j ++ blockI (q.take m) y).length ≤ 1000 := by rw [List.length_append]; omega
        by_cases hmt : m < q.length
        · obtain ⟨x, hx⟩ := getSome q m hmt
          obtain ⟨b, off, rfl, hbb, c0⟩ := (hA.below hb (Nat.le_refl _)).int hx
          have hmi : (m : Int) < (q.length : Int) := by omega
          have Hsn := Lib.hid (blockI_snoc (q.take m) y x)
          have Hx := Lib.hid hx
          clear hx
          by_cases hxe : x = y
          · subst hxe
            go_wp2_with (at_builtin; refine wpList_append_own _ rfl _ _ 25 rfl w.heap.size 3 i0 _ 1 8 Try.underlying25 hi hz0 hz1 hz2 rfl (by decide) _ _ _ rfl (hown.alloc _) ⟨wr.heap.size, 0, none⟩ 1 1 [.int .i64 x] rfl rfl (one_cell (by simp)) (one_one rfl) (by unfold maxLen; omega) (by omega) (by simp; omega) ?_; intro v1 w3 hown3 hg3 _; obtain ⟨A1, d1', rfl, _⟩ := own_shape hown3)
            go_roundw
            case rel =>
              refine ⟨m + 1, by omega, by go_num, ?_, ?_⟩
              · rw [List.take_add_one, Hx.out, Option.toList_some, Hsn.out, if_pos rfl, ← List.append_assoc]
                have el : (descI q q.length j).length + (blockI (q.take m) x).length = (descI q q.length j ++ blockI (q.take m) x).length := by rw [List.length_append]
                rw [el]
                generalize descI q q.length j ++ blockI (q.take m) x = L at hown3 ⊢
                rw [icells_append, List.length_append]
                exact hown3
              · exact (hb.alloc hs _).grown hg3 (by simp; omega) (fun k hk => (hown.lt k hk).1)
            case measure => simp [intOf]; omega
          · have hne : ¬ y = x := fun e => hxe e.symm
            go_wp2
            go_roundw
            case rel =>
              refine ⟨m + 1, by omega, by go_num, ?_, hb⟩
              rw [List.take_add_one, Hx.out, Option.toList_some, Hsn.out, if_neg hne, List.append_nil]
              exact hown
            case measure => simp [intOf]; omega
        · have hml : m = q.length := by omega
          subst hml
          have hgm : ¬ ((q.length : Int) < q.length) := by omega
          rw [List.take_length, ← Hnext.out] at hown
          go_wp2
          go_roundw
          case rel => exact ⟨j + 1, y - 1, by omega, by go_num, by have := Hy.out; omega, hown, hb⟩
          case measure => simp [intOf]; omega
    · have hjl : j = q.length + 1 := by omega
      subst hjl
      have hneg : ¬ (0 ≤ y) := by omega
      rw [Hfall.out] at hown
      obtain ⟨A', c', rfl, _⟩ := own_shape hown
      have Hown := Lib.hid hown
      clear hown
      go_wp2
      go_ret
      exact ⟨A', c', rfl, Hown.out, hb⟩
end Go.Proofs.Ytnpljmipicjacaa
/-
  WHETHER A NUMBER IS IN A LIST: the model's look; a list's front.
-/
namespace Go.Proofs.Ytnpljmipicjacaa
open Go.RowKit

theorem icells_getD {l : List Int} {j : Nat} (h : j < l.length) : (icells l)[j]? = some (.int .i64 (l.getD j 0)) := by
  simp [icells, List.getD_eq_getElem?_getD, List.getElem?_eq_getElem h]
theorem CRead.ints {w : World} {B : Nat} {A : Option Addr} {q : List Int} (h : CRead w B A (icells q)) (hq : 0 < q.length) : ∃ b off, A = some ⟨b, off, none⟩ ∧ b < B ∧ ∀ j, j < q.length → w.cell? ⟨b, off + j, none⟩ = some (.int .i64 (q.getD j 0)) := by
  obtain ⟨b, off, rfl, hb, _⟩ := h 0 _ (icells_getD hq)
  refine ⟨b, off, rfl, hb, fun j hj => ?_⟩
  obtain ⟨b', off', e, _, hc⟩ := h j _ (icells_getD hj)
  simp only [Option.some.injEq, Addr.mk.injEq, and_true] at e
  obtain ⟨rfl, rfl⟩ := e
  exact hc

theorem CRead.front {w : World} {B : Nat} {A : Option Addr} {q : List Int} (h : CRead w B A (icells q)) (k : Nat) : CRead w B A (icells (q.take k)) := fun j u hu => by
  refine h j u ?_
  unfold icells at hu ⊢
  rw [List.map_take, List.getElem?_take] at hu
  split at hu
  · exact hu
  · cases hu


/-- whether a number is in a list -/
def hasI (q : List Int) (x : Int) : Bool := q.contains x
theorem hasI_mem {q : List Int} {x : Int} : hasI q x = true ↔ x ∈ q := List.contains_iff_mem
set_option maxHeartbeats 1000000 in
theorem l1Has_any (q : List Int) (x : Int) (A : Option Addr) (c : Nat) (w : World) (hl : q.length ≤ 1048576) (hA : CRead w w.heap.size A (icells q)) :
    Calls Try.prog 74 #[.slice A q.length c, .int .i64 x] w fun e w' => e = .returned (.bool (hasI q x)) ∧ w = w' := by
  go_enter Try.func74, Try.ntmps74
  go_wp2
  go_loop [9] (fun i => ∃ k : Nat, k ≤ q.length ∧ i = .int .i64 k ∧ ∀ (j : Nat) (y : Int), j < k → q[j]? = some y → y ≠ x) (fun i => q.length - (intOf i).toNat)
  case atStart => exact ⟨0, Nat.zero_le _, rfl, fun j x hj => by omega⟩
  case round =>
    obtain ⟨k, hk, rfl, hg⟩ := hrel
    have Hg := Lib.hid hg
    clear hg
    by_cases hlt : k < q.length
    · obtain ⟨y, hy⟩ := getSome q k hlt
      obtain ⟨b, off, rfl, hbb, c0⟩ := hA.int hy
      have hki : (k : Int) < (q.length : Int) := by omega
      have Hy := Lib.hid hy
      clear hy
      by_cases hyx : y = x
      · subst hyx
        have He := Lib.hid (show hasI q y = true from hasI_mem.2 (List.mem_of_getElem? Hy.out))
        go_wp2
        go_ret
        exact ⟨by rw [He.out]; rfl, rfl⟩
      · go_wp2
        go_round
        case rel =>
          refine ⟨k + 1, by omega, by go_num, fun j z hj hz => ?_⟩
          by_cases hjk : j = k
          · subst hjk
            rw [Hy.out] at hz
            simp only [Option.some.injEq] at hz
            subst hz
            exact hyx
          · exact Hg.out j z (by omega) hz
        case measure => simp [intOf]; omega
    · have hkl : k = q.length := by omega
      have e : hasI q x = false := by
        rw [Bool.eq_false_iff]
        intro hc
        rw [hasI_mem] at hc
        obtain ⟨i, hi, e⟩ := List.getElem_of_mem hc
        exact Hg.out i _ (by omega) (List.getElem?_eq_getElem hi) e
      have He := Lib.hid e
      clear e
      have hge : ¬ ((k : Int) < (q.length : Int)) := by omega
      go_wp2
      go_ret
      exact ⟨by rw [He.out]; rfl, rfl⟩
end Go.Proofs.Ytnpljmipicjacaa
/-
  THE MODEL's TABLE OF A PARTY, AND THE PARTY OF A TABLE, by their contracts.
-/
namespace Go.Proofs.Ytnpljmipicjacaa
open Go.RowKit

theorem Try.infoRow : (Try.prog.info? 67).map (fun i => (i.zero, i.size, i.bytes)) = some (some (.slice none 0 0), 1, 24) := by kernel_rfl

set_option maxHeartbeats 2000000 in
set_option maxRecDepth 100000 in
theorem paTable_any (p : Int) (l : PL) (A : Option Addr) (c : Nat) (w : World) (hp : isP p l = true) (hA : CRead w w.heap.size A (pcells l)) :
    Calls Try.prog 53 #[.agg #[.int .i64 p, .slice A l.length c]] w (GotTab w p.toNat (adj l)) := by
  obtain ⟨i0, hi, hz0, hz1, hz2⟩ := info_parts Try.infoRow
  obtain ⟨i1, hj, hy0, hy1, hy2⟩ := info_parts Try.infoBool
  obtain ⟨n, rfl⟩ : ∃ n : Nat, p = n := ⟨p.toNat, by have := isP_range hp; omega⟩
  have hn := isP_range hp
  have hlen : l.length ≤ 66 := by have h1 := isP_length hp; have h2 := people_sq hn.1 hn.2; omega
  simp only [Int.toNat_natCast]
  have Hp := Lib.hid hp
  clear hp
  generalize hB : w.heap.size + 1 = B
  have hBw : w.heap.size < B := by omega
  have HB := Lib.hid hB
  have hB0 : w.heap.size + 1 ≤ B := by omega
  have hB1 : B ≤ w.heap.size + 1 := by omega
  clear hB
  go_enter Try.func53, Try.ntmps53
  go_wp2
  go_loopw [3, 4] (fun v i wr => ∃ k : Nat, ∃ G, k ≤ n ∧ i = .int .i64 k ∧ TabG wr B v k n G (fun _ _ => false) ∧ Below B (w.alloc (Obj.cells #[.int .i64 (n : Int), .slice A l.length c] 31)) wr) (fun _ i _ => n - (intOf i).toNat)
  case atStart => exact ⟨0, fun _ => 0, Nat.zero_le _, rfl, TabG.nil _ _ _ _ _, Below.refl _ _⟩
  case round =>
    obtain ⟨k, G, hk, rfl, htab, hb⟩ := hrel
    have hs := hb.size
    simp only [World.size_alloc] at hs
    have u0 : wr.cell? ⟨w.heap.size, 0, none⟩ = some (.int .i64 n) := carry hb (by simp) hBw
    have u1 : wr.cell? ⟨w.heap.size, 1, none⟩ = some (.slice A l.length c) := carry hb (by simp) hBw
    by_cases hlt : k < n
    · have hki : (k : Int) < n := by omega
      go_wp2_with (first
        | (at_make; refine wpList_make_row _ rfl _ _ 67 rfl 4 i1 (.bool false) Try.underlying67 hj hy0 hy1 rfl _ _ n rfl rfl (by rw [hy2]; omega) (by omega) ?_)
        | (at_builtin; refine wpList_append_own _ rfl _ _ 65 rfl B 67 i0 (.slice none 0 0) 1 24 Try.underlying65 hi hz0 hz1 hz2 rfl (by decide) _ _ _ rfl ((htab.own.alloc _).alloc _) ⟨wr.heap.size + 1, 0, none⟩ 1 1 [.slice (some ⟨wr.heap.size, 0, none⟩) n n] rfl rfl (one_cell (by simp)) (one_one rfl) (by unfold maxLen; omega) (by omega) (by simp; omega) ?_; intro v' w1 hown' hgrow _; have htab' := htab.push (by omega) hgrow hown'))
      have hb1 : Below B (w.alloc (Obj.cells #[.int .i64 (n : Int), .slice A l.length c] 31)) w1 := ((hb.alloc (by omega) _).alloc (by simp; omega) _).grown hgrow (by simp; omega) (fun b hb => (htab.own.lt b hb).1)
      clear hown' hgrow
      go_roundw
      case rel => exact ⟨k + 1, _, by omega, by go_num, htab', hb1⟩
      case measure => simp [intOf]; omega
    · have hkl : n = k := by omega
      subst hkl
      have hge : ¬ ((n : Int) < n) := by omega
      obtain ⟨A', c', rfl, _⟩ := own_shape htab.own
      go_wp2
      go_loopw [22] (fun i wx => ∃ m : Nat, m ≤ l.length ∧ i = .int .i64 m ∧ TabG wx B (.slice A' n c') n n G (adj (l.take m)) ∧ Below B (w.alloc (Obj.cells #[.int .i64 (n : Int), .slice A l.length c] 31)) wx) (fun i _ => l.length - (intOf i).toNat)
      case atStart => exact ⟨0, Nat.zero_le _, rfl, by simpa [adj_nil] using htab, hb⟩
      case round =>
        clear htab hb u0 u1 hs
        obtain ⟨m, hm, rfl, htab, hb⟩ := hrel
        have hs := hb.size
        simp only [World.size_alloc] at hs
        have hbw : Below w.heap.size w wr := Below.trans (b := _) (by go_grown) (hb.mono (by omega))
        by_cases hmt : m < l.length
        · obtain ⟨⟨x, y⟩, hx⟩ := getSome l m hmt
          obtain ⟨h0, h1, h2⟩ := goodAt_pair (isP_good Hp.out hmt) hx
          obtain ⟨a, rfl⟩ : ∃ a : Nat, x = a := ⟨x.toNat, by omega⟩
          obtain ⟨b, rfl⟩ : ∃ b : Nat, y = b := ⟨y.toNat, by omega⟩
          obtain ⟨bb, off, rfl, hbb, c0, c1⟩ := (hA.below hbw (Nat.le_refl _)).pair hx
          obtain ⟨g, rfl⟩ := own_form htab.own (by omega)
          have hmi : (m : Int) < (l.length : Int) := by omega
          have han : a < n := by omega
          have hbn : b < n := by omega
          have ha : (a : Int) < n := by omega
          have hb' : (b : Int) < n := h2
          have hGa := htab.blk han
          have hGb := htab.blk hbn
          have Hx := Lib.hid hx
          clear hx
          go_wp2
          generalize hW : wr.alloc (Obj.cells #[.int .i64 (a : Int), .int .i64 (b : Int)] 60) = W
          have tW : TabG W B (.slice (some ⟨g, 0, none⟩) n c') n n G (adj (l.take m)) := by rw [← hW]; exact htab.alloc _
          have bW : Below B (w.alloc (Obj.cells #[.int .i64 (n : Int), .slice (some ⟨bb, off, none⟩) l.length c] 31)) W := by rw [← hW]; exact hb.alloc (by omega) _
          have e0 : W.cell? ⟨wr.heap.size, 0, none⟩ = some (.int .i64 a) := by rw [← hW]; simp
          have e1 : W.cell? ⟨wr.heap.size, 1, none⟩ = some (.int .i64 b) := by rw [← hW]; simp
          clear hW
          have t1 := tW.set (b := b) han true
          have t2 := t1.set (b := a) hbn true
          rw [← adj_snoc] at t2
          have d0 := tW.outer han
          have d1 := tW.cell han hbn
          have d2 := tW.frozen han b
          have d3 := t1.outer hbn
          have d4 := t1.cell hbn han
          have d5 := t1.frozen hbn a
          have e2 : (W.setCell ⟨G a, b, none⟩ (.bool true)).cell? ⟨wr.heap.size, 0, none⟩ = some (.int .i64 a) := by rw [World.cell?_setCell_other _ _ _ _ (by simp)]; exact e0
          have e3 : (W.setCell ⟨G a, b, none⟩ (.bool true)).cell? ⟨wr.heap.size, 1, none⟩ = some (.int .i64 b) := by rw [World.cell?_setCell_other _ _ _ _ (by simp)]; exact e1
          have T2 := Lib.hid t2
          clear t1 t2 tW htab
          refine wp_region_still_tail 8 (by kernel_rfl) (by kernel_rfl) ?_
          simp only [List.take_succ_cons, List.take_zero, List.drop_succ_cons, List.drop_zero]
          repeat still_step
          refine wpStill_nil ?_
          change wpList _ _ _ _ _ (World.drew _)
          go_wp2
          generalize hW2 : (W.setCell ⟨G a, b, none⟩ (.bool true)).drew = W2
          have f0 : W2.cell? ⟨wr.heap.size, 0, none⟩ = some (.int .i64 a) := by rw [← hW2]; exact e2
          have f1 : W2.cell? ⟨wr.heap.size, 1, none⟩ = some (.int .i64 b) := by rw [← hW2]; exact e3
          have f3 : W2.cell? ⟨g, b, none⟩ = some (.slice (some ⟨G b, 0, none⟩) n n) := by rw [← hW2]; exact d3
          have f4 : W2.cell? ⟨G b, a, none⟩ = some (.bool (upd (adj (l.take m)) a b true b a)) := by rw [← hW2]; exact d4
          have f5 : W2.frozen? ⟨G b, a, none⟩ = false := by rw [← hW2]; exact d5
          have b2 : Below B (w.alloc (Obj.cells #[.int .i64 (n : Int), .slice (some ⟨bb, off, none⟩) l.length c] 31)) (W2.setCell ⟨G b, a, none⟩ (.bool true)).drew := by
            rw [← hW2]
            exact (((bW.setCell (p := ⟨G a, b, none⟩) hGa.1 _).drew).setCell (p := ⟨G b, a, none⟩) hGb.1 _).drew
          have t3 : TabG (W2.setCell ⟨G b, a, none⟩ (.bool true)).drew B (.slice (some ⟨g, 0, none⟩) n c') n n G (adj (l.take m ++ [((a : Int), (b : Int))])) := by
            rw [← hW2]
            exact T2.out.of_blocks ⟨rfl, rfl, rfl, Nat.le_refl _, fun _ _ _ => rfl⟩
          have B2 := Lib.hid b2
          have T3 := Lib.hid t3
          clear hW2 d0 d1 d2 d3 d4 d5 e0 e1 e2 e3 T2 bW b2 t3
          refine wp_region_still_tail 8 (by kernel_rfl) (by kernel_rfl) ?_
          simp only [List.take_succ_cons, List.take_zero, List.drop_succ_cons, List.drop_zero]
          repeat still_step
          refine wpStill_nil ?_
          change wpList _ _ _ _ _ (World.drew _)
          go_wp2
          go_roundw
          case rel =>
            refine ⟨m + 1, by omega, by go_num, ?_, B2.out⟩
            rw [List.take_add_one, Hx.out, Option.toList_some]
            exact T3.out
          case measure => simp [intOf]; omega
        · have hml : m = l.length := by omega
          subst hml
          have hgm : ¬ ((l.length : Int) < l.length) := by omega
          go_wp2
          go_ret
          rw [List.take_length] at htab
          exact ⟨A', c', G, rfl, htab.lower (by omega), hbw⟩
end Go.Proofs.Ytnpljmipicjacaa
/-
  THE MODEL's PARTY OF A TABLE, by its contract.
-/
namespace Go.Proofs.Ytnpljmipicjacaa
open Go.RowKit

def tabP (n : Nat) (t : Nat → Nat → Bool) : PL := (allP n).filter fun q => t q.1.toNat q.2.toNat

/-- 'paOf' in the middle of its loops: the result's box is as it was made, the party's box holds the pairs so far. -/
structure OfRel (w wr : World) (n : Nat) (v : Value) (L : PL) : Prop where
  below : Below w.heap.size w wr
  res : wr.heap[w.heap.size]? = some (.cells #[.int .i64 0, .slice none 0 0] 31 (0, 0))
  box : wr.heap[w.heap.size + 1]? = some (.cells #[.int .i64 n, v] 31 (0, 0))
  own : wr.ownsRow (w.heap.size + 2) 60 2 v L.length (pcells L)
theorem lt_of_heap {w : World} {b : Nat} {o : Obj} (h : w.heap[b]? = some o) : b < w.heap.size := (Array.getElem?_eq_some_iff.1 h).1
theorem OfRel.start (w : World) (n : Nat) : OfRel w ((w.alloc (.cells #[.int .i64 0, .slice none 0 0] 31)).alloc (.cells #[.int .i64 n, .slice none 0 0] 31)) n (.slice none 0 0) [] := by
  refine ⟨by go_grown, ?_, ?_, World.ownsRow_nil _ _ _ _⟩
  · rw [Below.heap_alloc _ _ _ (by simp)]
    exact heap_alloc_new w _
  · have := heap_alloc_new (w.alloc (.cells #[.int .i64 0, .slice none 0 0] 31)) (.cells #[.int .i64 n, .slice none 0 0] 31)
    simpa using this
/-- one pair more -/
theorem OfRel.push {w wr w1 : World} {n : Nat} {v v' : Value} {L : PL} {x y : Int} {o : Obj} (h : OfRel w wr n v L) (hown : w1.ownsRow (w.heap.size + 2) 60 2 v' (L.length + 1) (pcells L ++ [.int .i64 x, .int .i64 y])) (hg : (wr.alloc o).grownBy w1 v.ownBlock) :
    OfRel w (w1.setCell ⟨w.heap.size + 1, 1, none⟩ v') n v' (L ++ [(x, y)]) := by
  have hs := lt_of_heap h.box
  have hb : ∀ k, k < w.heap.size + 2 → w1.heap[k]? = wr.heap[k]? := fun k hk => by
    rw [hg.block k (by simp; omega) (fun e => by have := (h.own.lt k e.symm).1; omega), Below.heap_alloc _ _ _ (by omega)]
  have e1 := (hb (w.heap.size + 1) (by omega)).trans h.box
  refine ⟨?_, ?_, ?_, ?_⟩
  · exact ((h.below.alloc (by omega) o).grown hg (by simp; omega) (fun k hk => by have := (h.own.lt k hk).1; omega)).setCell (p := ⟨w.heap.size + 1, 1, none⟩) (by simp) _
  · rw [heap_setCell_other _ _ _ _ (by simp)]
    exact (hb _ (by omega)).trans h.res
  · exact heap_setCell_same w1 (w.heap.size + 1) 1 _ _ v' e1
  · have e : (L ++ [(x, y)]).length = L.length + 1 := by simp
    rw [e, pcells_append]
    refine hown.kept (row := some (w.heap.size + 1)) ⟨rfl, rfl, rfl, by simp, fun k _ hk => heap_setCell_other _ _ _ _ (fun e => hk (by rw [e]))⟩ ?_
    right
    intro e
    have := (hown.lt _ e).1
    omega
/-- what the walk reads behind an append -/
theorem OfRel.kept {w wr w1 : World} {n : Nat} {v : Value} {L : PL} {o : Obj} (h : OfRel w wr n v L) (hg : (wr.alloc o).grownBy w1 v.ownBlock) :
    w1.cell? ⟨w.heap.size + 1, 1, none⟩ = some v ∧ w1.frozen? ⟨w.heap.size + 1, 1, none⟩ = false ∧ wr.heap.size < w1.heap.size ∧ w.heap.size + 1 < w1.heap.size ∧ w.heap.size < w1.heap.size := by
  have hs := lt_of_heap h.box
  have e1 : w1.heap[w.heap.size + 1]? = some (.cells #[.int .i64 n, v] 31 (0, 0)) := by
    rw [hg.block _ (by simp; omega) (fun e => by have := (h.own.lt _ e.symm).1; omega), Below.heap_alloc _ _ _ (by omega)]
    exact h.box
  have := hg.size
  simp only [World.size_alloc] at this
  exact ⟨by rw [cell_of_row _ _ _ _ _ _ e1]; rfl, frozen_of_row _ _ _ _ _ e1, by omega, by omega, by omega⟩
theorem two_cells {w : World} {g : Nat} {u v : Value} (h : w.cell? ⟨g, 0, none⟩ = some u) (h' : w.cell? ⟨g, 1, none⟩ = some v) : ∀ j x, [u, v][j]? = some x → w.cell? ((⟨g, 0, none⟩ : Addr).add j) = some x := by
  intro j x hx
  match j, hx with
  | 0, hx => simp at hx; subst hx; simpa [Addr.add] using h
  | 1, hx => simp at hx; subst hx; simpa [Addr.add] using h'
theorem two_one {u v : Value} (h : u.oneCell' = true) (h' : v.oneCell' = true) : ∀ x ∈ [u, v], x.oneCell' = true := by
  intro x hx
  simp at hx
  rcases hx with rfl | rfl
  · exact h
  · exact h'
theorem OfRel.cells {w wr : World} {n : Nat} {v : Value} {L : PL} (h : OfRel w wr n v L) : wr.cell? ⟨w.heap.size, 0, none⟩ = some (.int .i64 0) ∧ wr.cell? ⟨w.heap.size, 1, none⟩ = some (.slice none 0 0) ∧
    wr.cell? ⟨w.heap.size + 1, 0, none⟩ = some (.int .i64 n) ∧ wr.cell? ⟨w.heap.size + 1, 1, none⟩ = some v ∧ (∀ j, wr.frozen? ⟨w.heap.size, j, none⟩ = false) ∧ (∀ j, wr.frozen? ⟨w.heap.size + 1, j, none⟩ = false) :=
  ⟨by rw [cell_of_row _ _ _ _ _ _ h.res]; rfl, by rw [cell_of_row _ _ _ _ _ _ h.res]; rfl, by rw [cell_of_row _ _ _ _ _ _ h.box]; rfl, by rw [cell_of_row _ _ _ _ _ _ h.box]; rfl,
    fun j => frozen_of_row _ _ j _ _ h.res, fun j => frozen_of_row _ _ j _ _ h.box⟩

theorem filter_upTo_yes {n a b : Nat} {t : Nat → Nat → Bool} (h : a < b) (ht : t a b = true) : (upTo n a (b + 1)).filter (fun q => t q.1.toNat q.2.toNat) = (upTo n a b).filter (fun q => t q.1.toNat q.2.toNat) ++ [((a : Int), (b : Int))] := by
  rw [upTo_next h, List.filter_append]
  simp [ht]
theorem filter_upTo_no {n a b : Nat} {t : Nat → Nat → Bool} (h : a < b) (ht : t a b = false) : (upTo n a (b + 1)).filter (fun q => t q.1.toNat q.2.toNat) = (upTo n a b).filter (fun q => t q.1.toNat q.2.toNat) := by
  rw [upTo_next h, List.filter_append]
  simp [ht]
theorem upTo_length {n a b : Nat} (ha : a ≤ 12) (hb : b ≤ 13) (hn : n ≤ 12) : (upTo n a b).length ≤ 1000 := by
  unfold upTo rowP
  simp only [List.length_append, List.length_flatMap, List.length_map, List.length_range']
  have h : ∀ l : List Nat, (l.map fun a => n - (a + 1)).sum ≤ l.length * n := by
    intro l
    induction l with
    | nil => simp
    | cons x l ih => simp only [List.map_cons, List.sum_cons, List.length_cons, Nat.add_mul, Nat.one_mul]; omega
  have h1 := h (List.range a)
  rw [List.length_range] at h1
  have h2 : a * n ≤ 12 * 12 := Nat.mul_le_mul ha hn
  omega

set_option maxHeartbeats 2000000 in
set_option maxRecDepth 100000 in
theorem paOf_any (n : Nat) (t : Nat → Nat → Bool) (A : Option Addr) (c : Nat) (G : Nat → Nat) (B : Nat) (w : World) (hn : n ≤ 12) (htab0 : TabG w B (.slice A n c) n n G t) :
    Calls Try.prog 96 #[.slice A n c] w (GotParty w n (tabP n t)) := by
  obtain ⟨i0, hi, hz0, hz1, hz2⟩ := info_parts Try.infoPair
  have hn' : (n : Int) ≤ 12 := by omega
  go_enter Try.func96, Try.ntmps96
  go_wp2
  go_loopw [11] (fun i wr => ∃ a : Nat, ∃ v, a ≤ n ∧ i = .int .i64 a ∧ OfRel w wr n v ((upTo n a (a + 1)).filter fun q => t q.1.toNat q.2.toNat)) (fun i _ => n - (intOf i).toNat)
  case atStart => exact ⟨0, _, Nat.zero_le _, rfl, by simpa [upTo_start] using OfRel.start w n⟩
  case round =>
    obtain ⟨a, v, ha, rfl, hrel⟩ := hrel
    by_cases hlt : a < n
    · have hai : (a : Int) < n := by omega
      have Hrel := Lib.hid hrel
      clear hrel
      go_wp2
      go_loopw [5] (fun i wx => ∃ b : Nat, ∃ v, a < b ∧ b ≤ n ∧ i = .int .i64 b ∧ OfRel w wx n v ((upTo n a b).filter fun q => t q.1.toNat q.2.toNat)) (fun i _ => n - (intOf i).toNat)
      case atStart => exact ⟨a + 1, v, by omega, by omega, by go_num, Hrel.out⟩
      case round =>
        clear Hrel
        obtain ⟨b, v, hab, hb, rfl, hrel⟩ := hrel
        by_cases hbt : b < n
        · have hbi : (b : Int) < n := by omega
          obtain ⟨r0, r1, r2, r3, r4, r5⟩ := hrel.cells
          have hsz := lt_of_heap hrel.box
          have htab := htab0.below hrel.below (Nat.le_refl _)
          obtain ⟨g, rfl⟩ := own_form htab.own (by omega)
          have d0 := htab.outer hlt
          have d1 := htab.cell hlt hbt
          have q5 := r5 1
          have hlen : ((upTo n a b).filter fun q => t q.1.toNat q.2.toNat).length ≤ 1000 := Nat.le_trans (List.length_filter_le _ _) (upTo_length (by omega) (by omega) hn)
          cases ht : t a b with
          | false =>
            rw [ht] at d1
            have Ht := Lib.hid ht
            clear ht r4 r5
            go_wp2
            go_roundw
            case rel => exact ⟨b + 1, v, by omega, by omega, by go_num, by rw [filter_upTo_no hab Ht.out]; exact hrel⟩
            case measure => simp [intOf]; omega
          | true =>
            rw [ht] at d1
            have Ht := Lib.hid ht
            clear ht r4 r5
            go_wp2_with (at_builtin; refine wpList_append_own _ rfl _ _ 29 rfl (w.heap.size + 2) 60 i0 _ 2 16 Try.underlying29 hi hz0 hz1 hz2 rfl (by decide) _ _ _ rfl (hrel.own.alloc _) ⟨wr.heap.size, 0, none⟩ 1 1 [.int .i64 a, .int .i64 b] rfl rfl (two_cells (by simp) (by simp)) (two_one rfl rfl) (by unfold maxLen; omega) (by omega) (by simp; omega) ?_; intro v1 w1 hown1 hg1 _; obtain ⟨A1, d1', rfl, _⟩ := own_shape hown1; have hr1 := hrel.push hown1 hg1; obtain ⟨z0, z1, z2, z3, z4⟩ := hrel.kept hg1)
            go_roundw
            case rel => exact ⟨b + 1, _, by omega, by omega, by go_num, by rw [filter_upTo_yes hab Ht.out]; exact hr1⟩
            case measure => simp [intOf]; omega
        · have hbn : b = n := by omega
          subst hbn
          have hge : ¬ ((b : Int) < b) := by omega
          go_wp2
          go_roundw
          case rel => exact ⟨a + 1, v, by omega, by go_num, by rw [← upTo_row]; exact hrel⟩
          case measure => simp [intOf]; omega
    · have hal : n = a := by omega
      subst hal
      have hge : ¬ ((n : Int) < n) := by omega
      obtain ⟨r0, r1, r2, r3, r4, r5⟩ := hrel.cells
      have q40 := r4 0
      have q41 := r4 1
      rw [upTo_all] at hrel
      obtain ⟨A', c', rfl, _⟩ := own_shape hrel.own
      have hs := lt_of_heap hrel.box
      have Hrel := Lib.hid hrel
      clear hrel r4 r5
      go_wp2
      refine bodyPost_ret (v := .agg #[.int .i64 n, .slice A' (tabP n t).length c']) (by simp [results, Try.results96, go_sem, tabP, r0, r1]) rfl ?_
      exact ⟨A', c', rfl, ownsRow_setCell_below (ownsRow_setCell_below (own_lower Hrel.out.own (Nat.le_succ _)) (a := ⟨w.heap.size, 0, none⟩) (by simp) _) (a := ⟨w.heap.size, 1, none⟩) (by simp) _ |> fun h => own_lower h (Nat.le_succ _), (Hrel.out.below.setCell (p := ⟨w.heap.size, 0, none⟩) (Nat.le_refl _) _).setCell (p := ⟨w.heap.size, 1, none⟩) (Nat.le_refl _) _⟩
end Go.Proofs.Ytnpljmipicjacaa
/-
  THE MODEL's PARTY WITH FRIENDS AND STRANGERS EXCHANGED, by its contract.
-/
namespace Go.Proofs.Ytnpljmipicjacaa
open Go.RowKit

def otherP (n : Nat) (l : PL) : PL := (allP n).filter fun q => !l.contains q
theorem tabP_congr {n : Nat} {t t' : Nat → Nat → Bool} (h : ∀ i j, i < j → j < n → t i j = t' i j) : tabP n t = tabP n t' := by
  unfold tabP
  refine List.filter_congr fun q hq => ?_
  have := mem_allP.1 hq
  exact h _ _ (by omega) (by omega)
theorem tabP_contains {n : Nat} {l : PL} (f : Bool → Bool) (h : isP n l = true) : tabP n (fun i j => f (adj l i j)) = (allP n).filter fun q => f (l.contains q) := by
  unfold tabP
  refine List.filter_congr fun q hq => ?_
  have hm := mem_allP.1 hq
  show f (adj l q.1.toNat q.2.toNat) = _
  rw [adj_pair h (i := q.1.toNat) (j := q.2.toNat) (by omega)]
  have e : (((q.1.toNat : Nat) : Int), ((q.2.toNat : Nat) : Int)) = q := by
    obtain ⟨x, y⟩ := q
    simp only [Prod.mk.injEq]
    simp at hm
    omega
  rw [e]
theorem tabP_other {n : Nat} {l : PL} (h : isP n l = true) : tabP n (fun i j => !adj l i j) = otherP n l := tabP_contains (fun b => !b) h
theorem tabP_same {n : Nat} {l : PL} (h : isP n l = true) : tabP n (adj l) = l := (tabP_contains (fun b => b) h).trans (isP_filter h)

/-- the table in the middle of being turned -/
def turnT (t : Nat → Nat → Bool) (a b : Nat) : Nat → Nat → Bool := fun i j => if i < a ∨ i = a ∧ j < b then !t i j else t i j
theorem turnT_start (t : Nat → Nat → Bool) : turnT t 0 0 = t := by funext i j; simp [turnT]
theorem turnT_next (t : Nat → Nat → Bool) (a b : Nat) : upd (turnT t a b) a b (!t a b) = turnT t a (b + 1) := by
  funext i j
  unfold upd turnT
  by_cases h : i = a ∧ j = b
  · obtain ⟨rfl, rfl⟩ := h
    simp
  · rw [if_neg h]
    have : (i < a ∨ i = a ∧ j < b) ↔ (i < a ∨ i = a ∧ j < b + 1) := by omega
    simp only [this]
theorem turnT_row {n : Nat} (t : Nat → Nat → Bool) (a : Nat) : ∀ i j, i < n → j < n → turnT t a n i j = turnT t (a + 1) 0 i j := by
  intro i j hi hj
  unfold turnT
  have : (i < a ∨ i = a ∧ j < n) ↔ (i < a + 1 ∨ i = a + 1 ∧ j < 0) := by omega
  simp only [this]
theorem turnT_all {n : Nat} (t : Nat → Nat → Bool) : ∀ i j, i < n → j < n → turnT t n 0 i j = !t i j := by
  intro i j hi hj
  unfold turnT
  rw [if_pos (.inl hi)]
theorem turnT_at (t : Nat → Nat → Bool) (a b : Nat) : turnT t a b a b = t a b := by unfold turnT; rw [if_neg (by omega)]

set_option maxHeartbeats 2000000 in
set_option maxRecDepth 100000 in
theorem paOther_any (p : Int) (l : PL) (A : Option Addr) (c : Nat) (w : World) (hp : isP p l = true) (hA : CRead w w.heap.size A (pcells l)) :
    Calls Try.prog 72 #[.agg #[.int .i64 p, .slice A l.length c]] w (GotParty w p (otherP p.toNat l)) := by
  obtain ⟨n, rfl⟩ : ∃ n : Nat, p = n := ⟨p.toNat, by have := isP_range hp; omega⟩
  have hn := isP_range hp
  have hn12 : n ≤ 12 := by omega
  simp only [Int.toNat_natCast]
  have Hp := Lib.hid hp
  clear hp
  go_enter Try.func72, Try.ntmps72
  go_wp2_with fail
  refine (paTable_any _ _ _ _ _ Hp.out ((hA.below (B' := w.heap.size) (by go_grown) (Nat.le_refl _)).more (by go_size))).mono ?_
  simp only [Int.toNat_natCast]
  rintro e w1 ⟨A1, c1, G, rfl, tab1, hb1⟩
  simp only [World.size_alloc] at hb1 tab1
  have s1 := hb1.size
  simp only [World.size_alloc] at s1
  have x0 : w1.cell? ⟨w.heap.size + 1, 0, none⟩ = some (.int .i64 0) := carry hb1 (by simp) (by omega)
  have x1 : w1.cell? ⟨w.heap.size + 1, 1, none⟩ = some (.slice none 0 0) := carry hb1 (by simp) (by omega)
  have z0 : w1.frozen? ⟨w.heap.size + 1, 0, none⟩ = false := (hb1.frozen (p := ⟨w.heap.size + 1, 0, none⟩) (by simp)).trans (by simp)
  have z1 : w1.frozen? ⟨w.heap.size + 1, 1, none⟩ = false := (hb1.frozen (p := ⟨w.heap.size + 1, 1, none⟩) (by simp)).trans (by simp)
  have k1 : Below (w.heap.size + 2) w1 w1 := Below.refl _ _
  have kw : Below w.heap.size w w1 := Below.trans (b := _) (by go_grown) (hb1.mono (by omega))
  go_wp2
  go_loopw [10] (fun i wr => ∃ a : Nat, a ≤ n ∧ i = .int .i64 a ∧ TabG wr (w.heap.size + 2) (.slice A1 n c1) n n G (turnT (adj l) a 0) ∧ Below (w.heap.size + 2) w1 wr) (fun i _ => n - (intOf i).toNat)
  case atStart => exact ⟨0, Nat.zero_le _, rfl, by rw [turnT_start]; exact tab1, k1⟩
  case round =>
    obtain ⟨a, ha, rfl, tab, hb⟩ := hrel
    by_cases hlt : a < n
    · have hai : (a : Int) < n := by omega
      have Tab := Lib.hid tab
      have Hb := Lib.hid hb
      clear tab hb tab1
      go_wp2
      go_loopw [15] (fun i wx => ∃ b : Nat, b ≤ n ∧ i = .int .i64 b ∧ TabG wx (w.heap.size + 2) (.slice A1 n c1) n n G (turnT (adj l) a b) ∧ Below (w.heap.size + 2) w1 wx) (fun i _ => n - (intOf i).toNat)
      case atStart => exact ⟨0, Nat.zero_le _, rfl, Tab.out, Hb.out⟩
      case round =>
        clear Tab Hb
        obtain ⟨b, hbn, rfl, tab, hb⟩ := hrel
        by_cases hbt : b < n
        · have hbi : (b : Int) < n := by omega
          obtain ⟨g, rfl⟩ := own_form tab.own (by omega)
          have d0 := tab.outer hlt
          have d1 := tab.cell hlt hbt
          rw [turnT_at] at d1
          have d2 := tab.frozen hlt b
          have hG := tab.blk hlt
          have t1 := tab.set (b := b) hlt (!adj l a b)
          rw [turnT_next] at t1
          have T1 := Lib.hid t1
          have Hb := Lib.hid hb
          clear t1 tab hb
          go_wp2
          refine wp_region_still_tail 14 (by kernel_rfl) (by kernel_rfl) ?_
          simp only [List.take_succ_cons, List.take_zero, List.drop_succ_cons, List.drop_zero]
          repeat still_step
          refine wpStill_nil ?_
          change wpList _ _ _ _ _ (World.drew _)
          go_wp2
          go_roundw
          case rel =>
            refine ⟨b + 1, by omega, by go_num, ?_, ?_⟩
            · exact T1.out.of_blocks ⟨rfl, rfl, rfl, Nat.le_refl _, fun _ _ _ => rfl⟩
            · exact (Hb.out.setCell (p := ⟨G a, b, none⟩) hG.1 _).drew
          case measure => simp [intOf]; omega
        · have hbn' : n = b := by omega
          subst hbn'
          have hge : ¬ ((n : Int) < n) := by omega
          go_wp2
          go_roundw
          case rel => exact ⟨a + 1, by omega, by go_num, tab.congr (turnT_row _ _), hb⟩
          case measure => simp [intOf]; omega
    · have hal : n = a := by omega
      subst hal
      have hge : ¬ ((n : Int) < n) := by omega
      have tab2 := tab.congr (turnT_all _)
      have y0 := carry hb x0 (by omega)
      have y1 := carry hb x1 (by omega)
      have y2 := (hb.frozen (p := ⟨w.heap.size + 1, 0, none⟩) (by simp)).trans z0
      have y3 := (hb.frozen (p := ⟨w.heap.size + 1, 1, none⟩) (by simp)).trans z1
      have hs := hb.size
      have kr := kw.trans (hb.mono (by omega))
      clear x0 x1 z0 z1
      go_wp2_with fail
      refine (paOf_any _ _ _ _ _ _ _ hn12 tab2).mono ?_
      rw [tabP_other Hp.out]
      rintro e w2 ⟨A2, c2, rfl, own2, hb2⟩
      have o0 := carry hb2 y0 (by omega)
      have o1 := carry hb2 y1 (by omega)
      have o2 := (hb2.frozen (p := ⟨w.heap.size + 1, 0, none⟩) (by simp; omega)).trans y2
      have o3 := (hb2.frozen (p := ⟨w.heap.size + 1, 1, none⟩) (by simp; omega)).trans y3
      have hs2 := hb2.size
      clear y0 y1 y2 y3
      go_wp2
      refine bodyPost_ret (v := .agg #[.int .i64 n, .slice A2 (otherP n l).length c2]) (by simp [results, Try.results72, go_sem, o0, o1]) rfl ?_
      exact ⟨A2, c2, rfl, own_lower (ownsRow_setCell_below (ownsRow_setCell_below own2 (a := ⟨w.heap.size + 1, 0, none⟩) (by simp; omega) _) (a := ⟨w.heap.size + 1, 1, none⟩) (by simp; omega) _) (by omega),
        ((kr.trans (hb2.mono (by omega))).setCell (p := ⟨w.heap.size + 1, 0, none⟩) (by simp) _).setCell (p := ⟨w.heap.size + 1, 1, none⟩) (by simp) _⟩
end Go.Proofs.Ytnpljmipicjacaa
/-
  PEOPLE CHOSEN AND RENAMED, as plain lists and as tables. Nothing here speaks of the program.
-/
namespace Go.Proofs.Ytnpljmipicjacaa
open Go.RowKit

def choiceAt (p : Int) (q : List Int) (i : Nat) : Bool :=
  match q[i]? with
  | none => true
  | some x => decide (0 ≤ x ∧ x < p) && (i == 0 || match q[i - 1]? with | none => true | some y => decide (y < x))
/-- an increasing list of some of p people -/
def isChoiceI (p : Int) (q : List Int) : Bool := (List.range q.length).all (choiceAt p q)
theorem isChoiceI_of {p : Int} {q : List Int} (h : ∀ i, i < q.length → choiceAt p q i = true) : isChoiceI p q = true := by
  simp only [isChoiceI, List.all_eq_true, List.mem_range]
  exact h
theorem isChoiceI_no {p : Int} {q : List Int} {i : Nat} (hi : i < q.length) (h : choiceAt p q i = false) : isChoiceI p q = false := by
  cases he : isChoiceI p q with
  | false => rfl
  | true =>
    simp only [isChoiceI, List.all_eq_true, List.mem_range] at he
    rw [he i hi] at h
    cases h
theorem isChoiceI_good {p : Int} {q : List Int} (h : isChoiceI p q = true) {i : Nat} (hi : i < q.length) : choiceAt p q i = true := by
  simp only [isChoiceI, List.all_eq_true, List.mem_range] at h
  exact h i hi
theorem choiceAt_man {p : Int} {q : List Int} {i : Nat} {x : Int} (h : choiceAt p q i = true) (hx : q[i]? = some x) : 0 ≤ x ∧ x < p := by
  simp only [choiceAt, hx, Bool.and_eq_true, decide_eq_true_eq] at h
  exact h.1
theorem choiceAt_less {p : Int} {q : List Int} {i : Nat} {x y : Int} (h : choiceAt p q (i + 1) = true) (hx : q[i]? = some x) (hy : q[i + 1]? = some y) : x < y := by
  simp only [choiceAt, hy, Nat.add_sub_cancel, hx, Bool.and_eq_true, Bool.or_eq_true, decide_eq_true_eq] at h
  rcases h.2 with h | h
  · simp at h
  · exact h
theorem choiceAt_zero {p : Int} {q : List Int} {k : Nat} {x : Int} (hk : k = 0) (hx : q[k]? = some x) (h : 0 ≤ x ∧ x < p) : choiceAt p q k = true := by
  subst hk
  simp [choiceAt, hx, h.1, h.2]
theorem choiceAt_later {p : Int} {q : List Int} {k : Nat} {x y : Int} (_hk : 0 < k) (hx : q[k - 1]? = some x) (hy : q[k]? = some y) (h : 0 ≤ y ∧ y < p) (hl : x < y) : choiceAt p q k = true := by
  simp [choiceAt, hx, hy, h.1, h.2, hl]
theorem choiceAt_bad {p : Int} {q : List Int} {k : Nat} {x : Int} (hx : q[k]? = some x) (h : ¬ (0 ≤ x ∧ x < p)) : choiceAt p q k = false := by
  simp only [choiceAt, hx, Bool.and_eq_false_iff, decide_eq_false_iff_not]
  exact .inl h
theorem choiceAt_stale {p : Int} {q : List Int} {k : Nat} {x y : Int} (hk : 0 < k) (hx : q[k - 1]? = some x) (hy : q[k]? = some y) (hl : ¬ x < y) : choiceAt p q k = false := by
  cases h : choiceAt p q k with
  | false => rfl
  | true =>
    obtain ⟨j, rfl⟩ : ∃ j, k = j + 1 := ⟨k - 1, by omega⟩
    exact absurd (choiceAt_less h hx hy) hl
theorem isChoiceI_sorted {p : Int} {q : List Int} (h : isChoiceI p q = true) : q.Pairwise (· < ·) := by
  rw [List.pairwise_iff_getElem]
  have step : ∀ (d i : Nat) (hi : i < q.length) (hj : i + d + 1 < q.length), q[i] < q[i + d + 1] := by
    intro d
    induction d with
    | zero => intro i hi hj; exact choiceAt_less (isChoiceI_good h hj) (List.getElem?_eq_getElem (by omega)) (List.getElem?_eq_getElem hj)
    | succ d ih =>
      intro i hi hj
      have h1 := ih i hi (by omega)
      have h2 := choiceAt_less (p := p) (q := q) (i := i + d + 1) (isChoiceI_good h (by omega)) (List.getElem?_eq_getElem (by omega)) (List.getElem?_eq_getElem (by omega))
      exact Int.lt_trans h1 h2
  intro i j hi hj hij
  have e : j = i + (j - i - 1) + 1 := by omega
  have := step (j - i - 1) i hi (by omega)
  simpa only [← e] using this
theorem isChoiceI_mem {p : Int} {q : List Int} (h : isChoiceI p q = true) : ∀ x ∈ q, 0 ≤ x ∧ x < p := by
  intro x hx
  obtain ⟨i, hi, rfl⟩ := List.getElem_of_mem hx
  exact choiceAt_man (isChoiceI_good h hi) (List.getElem?_eq_getElem hi)
theorem isChoiceI_long {p : Int} {q : List Int} (h : isChoiceI p q = true) : (q.length : Int) ≤ p ∨ q = [] := by
  have hs := isChoiceI_sorted h
  have low : ∀ (i : Nat) (x : Int), q[i]? = some x → (i : Int) ≤ x := by
    intro i
    induction i with
    | zero => intro x hx; exact (isChoiceI_mem h x (List.mem_of_getElem? hx)).1
    | succ i ih =>
      intro x hx
      have hl : i + 1 < q.length := (List.getElem?_eq_some_iff.1 hx).1
      obtain ⟨y, hy⟩ := getSome q i (by omega)
      have h1 := ih y hy
      have h2 := choiceAt_less (isChoiceI_good h hl) hy hx
      omega
  by_cases hl : q.length = 0
  · exact .inr (List.eq_nil_of_length_eq_zero hl)
  · obtain ⟨x, hx⟩ := getSome q (q.length - 1) (by omega)
    have h1 := low _ _ hx
    have h2 := (isChoiceI_mem h x (List.mem_of_getElem? hx)).2
    left
    omega

theorem countP_at : ∀ (q : List Int), q.Pairwise (· < ·) → ∀ (i : Nat) (x : Int), q[i]? = some x → q.countP (fun y => decide (y < x)) = i
  | [], _, i, x, h => by simp at h
  | a :: q, hs, 0, x, h => by
    simp only [List.getElem?_cons_zero, Option.some.injEq] at h
    subst h
    rw [List.pairwise_cons] at hs
    rw [List.countP_eq_zero]
    intro b hb
    rcases List.mem_cons.1 hb with rfl | hb
    · simp
    · have := hs.1 b hb
      simp only [decide_eq_true_eq]
      omega
  | a :: q, hs, i + 1, x, h => by
    rw [List.pairwise_cons] at hs
    have hx : q[i]? = some x := by simpa using h
    have := hs.1 x (List.mem_of_getElem? hx)
    rw [List.countP_cons_of_pos (by simpa using this), countP_at q hs.2 i x hx]

/-- how many of a list are less -/
def ltI (q : List Int) (x : Int) : Int := ((q.countP (· < x) : Nat) : Int)
theorem ltI_at {q : List Int} (hs : q.Pairwise (· < ·)) {i : Nat} {x : Int} (hx : q[i]? = some x) : ltI q x = i := by
  unfold ltI
  rw [countP_at q hs i x hx]
theorem ltI_mem {q : List Int} (hs : q.Pairwise (· < ·)) {x : Int} (hx : x ∈ q) : ∃ i : Nat, ltI q x = i ∧ q[i]? = some x := by
  obtain ⟨i, hi, rfl⟩ := List.getElem_of_mem hx
  exact ⟨i, ltI_at hs (List.getElem?_eq_getElem hi), List.getElem?_eq_getElem hi⟩
theorem ltI_le (q : List Int) (x : Int) : 0 ≤ ltI q x ∧ ltI q x ≤ q.length := by
  unfold ltI
  have := List.countP_le_length (p := fun y => decide (y < x)) (l := q)
  omega
/-- the pairs of the people chosen -/
def chooseP (l : PL) (q : List Int) : PL := l.filterMap fun r => if q.contains r.1 = true ∧ q.contains r.2 = true then some (ltI q r.1, ltI q r.2) else none
theorem chooseP_snoc (l : PL) (q : List Int) (x y : Int) : chooseP (l ++ [(x, y)]) q = chooseP l q ++ if q.contains x = true ∧ q.contains y = true then [(ltI q x, ltI q y)] else [] := by
  unfold chooseP
  rw [List.filterMap_append]
  congr 1
  by_cases h : q.contains x = true ∧ q.contains y = true
  · rw [if_pos h, List.filterMap_cons_some (by rw [if_pos h]), List.filterMap_nil]
  · rw [if_neg h, List.filterMap_cons_none (by rw [if_neg h]), List.filterMap_nil]
theorem chooseP_le (l : PL) (q : List Int) : (chooseP l q).length ≤ l.length := List.length_filterMap_le _ _
def gI (q : List Int) (i : Nat) : Nat := (q.getD i 0).toNat
def chosenT (l : PL) (q : List Int) (i j : Nat) : Bool := adj l (gI q i) (gI q j)
theorem gI_at {q : List Int} {i : Nat} {x : Int} (hx : q[i]? = some x) (h0 : 0 ≤ x) : ((gI q i : Nat) : Int) = x := by
  unfold gI
  rw [List.getD_eq_getElem?_getD, hx]
  simp only [Option.getD_some]
  omega
theorem mem_chooseP {l : PL} {q : List Int} {r : Int × Int} : r ∈ chooseP l q ↔ ∃ s ∈ l, s.1 ∈ q ∧ s.2 ∈ q ∧ r = (ltI q s.1, ltI q s.2) := by
  unfold chooseP
  rw [List.mem_filterMap]
  constructor
  · rintro ⟨s, hs, h⟩
    split at h
    · rename_i hc
      rw [List.contains_iff_mem, List.contains_iff_mem] at hc
      exact ⟨s, hs, hc.1, hc.2, by simpa using h.symm⟩
    · cases h
  · rintro ⟨s, hs, h1, h2, rfl⟩
    refine ⟨s, hs, ?_⟩
    rw [if_pos (by rw [List.contains_iff_mem, List.contains_iff_mem]; exact ⟨h1, h2⟩)]
theorem chooseP_list {p : Int} {l : PL} {q : List Int} (hp : isP p l = true) (hq : isChoiceI p q = true) : IsList q.length (chooseP l q) := by
  have hr := isP_range hp
  obtain ⟨_, _, hm, hs⟩ := isP_list hp
  have hqs := isChoiceI_sorted hq
  have hmono : ∀ x y, x ∈ q → y ∈ q → x < y → ltI q x < ltI q y := by
    intro x y hx hy hxy
    obtain ⟨i, ei, hi⟩ := ltI_mem hqs hx
    obtain ⟨j, ej, hj⟩ := ltI_mem hqs hy
    rw [ei, ej]
    have hil : i < q.length := (List.getElem?_eq_some_iff.1 hi).1
    have hjl : j < q.length := (List.getElem?_eq_some_iff.1 hj).1
    have e1 : q[i] = x := by rw [List.getElem?_eq_getElem hil] at hi; simpa using hi
    have e2 : q[j] = y := by rw [List.getElem?_eq_getElem hjl] at hj; simpa using hj
    rcases Nat.lt_trichotomy i j with h | h | h
    · omega
    · subst h; omega
    · have := (List.pairwise_iff_getElem.1 hqs) j i hjl hil h
      omega
  have hlen : (q.length : Int) ≤ 12 := by
    rcases isChoiceI_long hq with h | h
    · omega
    · simp [h]
  refine ⟨by omega, hlen, fun r hr => ?_, ?_⟩
  · obtain ⟨s, hsl, h1, h2, rfl⟩ := mem_chooseP.1 hr
    have h3 := hmono _ _ h1 h2 (hm s hsl).2.1
    obtain ⟨j, ej, hj⟩ := ltI_mem hqs h2
    have hjl : j < q.length := (List.getElem?_eq_some_iff.1 hj).1
    have := ltI_le q s.1
    simp only
    omega
  · unfold chooseP
    rw [List.pairwise_filterMap]
    refine List.Pairwise.imp (fun {a b} hlt u hu v hv => ?_) hs
    split at hu
    · split at hv
      · rename_i h1 h2
        rw [List.contains_iff_mem, List.contains_iff_mem] at h1 h2
        simp only [Option.some.injEq] at hu hv
        subst hu
        subst hv
        unfold plt at hlt ⊢
        rcases hlt with hlt | ⟨e, hlt⟩
        · exact .inl (hmono _ _ h1.1 h2.1 hlt)
        · exact .inr ⟨by simp only; rw [e], hmono _ _ h1.2 h2.2 hlt⟩
      · cases hv
    · cases hu
theorem tabP_choose {p : Int} {l : PL} {q : List Int} (hp : isP p l = true) (hq : isChoiceI p q = true) : tabP q.length (chosenT l q) = chooseP l q := by
  have hc := chooseP_list hp hq
  have hqs := isChoiceI_sorted hq
  obtain ⟨_, _, hm, hs⟩ := isP_list hp
  have hlen : q.length ≤ 12 := by have := hc.2.1; omega
  refine sorted_ext (filter_list hlen _).2.2.2 hc.2.2.2 fun r => ?_
  unfold tabP
  rw [List.mem_filter, mem_allP, mem_chooseP]
  constructor
  · rintro ⟨⟨h0, h1, h2⟩, ht⟩
    obtain ⟨x, hx⟩ := getSome q r.1.toNat (by omega)
    obtain ⟨y, hy⟩ := getSome q r.2.toNat (by omega)
    have hx0 := isChoiceI_mem hq x (List.mem_of_getElem? hx)
    have hy0 := isChoiceI_mem hq y (List.mem_of_getElem? hy)
    have ex := gI_at hx hx0.1
    have ey := gI_at hy hy0.1
    have hxy : x < y := by
      have hil : r.1.toNat < q.length := (List.getElem?_eq_some_iff.1 hx).1
      have hjl : r.2.toNat < q.length := (List.getElem?_eq_some_iff.1 hy).1
      have := (List.pairwise_iff_getElem.1 hqs) _ _ hil hjl (by omega)
      rw [List.getElem?_eq_getElem hil] at hx
      rw [List.getElem?_eq_getElem hjl] at hy
      simp only [Option.some.injEq] at hx hy
      rwa [hx, hy] at this
    have hmem : (x, y) ∈ l := by
      unfold chosenT adj at ht
      rw [ex, ey, Bool.or_eq_true, List.contains_iff_mem, List.contains_iff_mem] at ht
      rcases ht with ht | ht
      · exact ht
      · have := hm _ ht
        simp only at this
        omega
    refine ⟨(x, y), hmem, List.mem_of_getElem? hx, List.mem_of_getElem? hy, ?_⟩
    rw [ltI_at hqs hx, ltI_at hqs hy]
    exact Prod.ext (by simp; omega) (by simp; omega)
  · rintro ⟨s, hsl, h1, h2, rfl⟩
    have hin := hc.2.2.1 _ (mem_chooseP.2 ⟨s, hsl, h1, h2, rfl⟩)
    refine ⟨hin, ?_⟩
    obtain ⟨i, ei, hi⟩ := ltI_mem hqs h1
    obtain ⟨j, ej, hj⟩ := ltI_mem hqs h2
    have hs0 := hm s hsl
    simp only [ei, ej, Int.toNat_natCast]
    unfold chosenT adj
    rw [gI_at hi (by omega), gI_at hj (by omega), Bool.or_eq_true, List.contains_iff_mem]
    left
    exact hsl
end Go.Proofs.Ytnpljmipicjacaa
/-
  WAYS TO CHOOSE: the program's 'waysToChoose' and the model's 'trChoose', by their contracts; 'GroupBound', 'LeastMustHave', 'LeastOneKind'.
-/
namespace Go.Proofs.Ytnpljmipicjacaa
open Go.RowKit

/-- the product of the first steps, as the program takes them -/
def waysI (n : Int) : Nat → Int
  | 0 => 1
  | i + 1 => (waysI n i * (n - i)).tdiv (i + 1)
/-- as the model takes them -/
def stepsI (n k : Int) : Nat → Int
  | 0 => 1
  | i + 1 => (stepsI n k i * (n - k + (i + 1))).tdiv (i + 1)
def InWays (n : Int) (k : Nat) : Prop := (0 ≤ n ∧ n ≤ 12 ∧ k ≤ 12) ∨ (0 ≤ n ∧ n ≤ 132 ∧ k ≤ 2)
theorem waysI_all : (∀ n : Fin 13, ∀ k : Fin 13, 0 ≤ waysI (n.val : Int) k.val ∧ waysI (n.val : Int) k.val ≤ 10000) ∧ (∀ n : Fin 133, ∀ k : Fin 3, 0 ≤ waysI (n.val : Int) k.val ∧ waysI (n.val : Int) k.val ≤ 10000) := by
  constructor <;> decide +kernel
theorem waysI_bound {n : Int} {k : Nat} (h : InWays n k) : 0 ≤ waysI n k ∧ waysI n k ≤ 10000 := by
  rcases h with ⟨h0, h1, h2⟩ | ⟨h0, h1, h2⟩
  · have := waysI_all.1 ⟨n.toNat, by omega⟩ ⟨k, by omega⟩
    rwa [show ((n.toNat : Nat) : Int) = n from by omega] at this
  · have := waysI_all.2 ⟨n.toNat, by omega⟩ ⟨k, by omega⟩
    rwa [show ((n.toNat : Nat) : Int) = n from by omega] at this
theorem InWays.less {n : Int} {k i : Nat} (h : InWays n k) (hi : i ≤ k) : InWays n i := by unfold InWays at *; omega
theorem stepsI_all : (∀ n : Fin 13, ∀ k : Fin 13, k.val ≤ n.val → ∀ i : Fin 13, i.val ≤ k.val → 0 ≤ stepsI (n.val : Int) (k.val : Int) i.val ∧ stepsI (n.val : Int) (k.val : Int) i.val ≤ 10000) ∧ (∀ n : Fin 133, ∀ k : Fin 3, k.val ≤ n.val → ∀ i : Fin 3, i.val ≤ k.val → 0 ≤ stepsI (n.val : Int) (k.val : Int) i.val ∧ stepsI (n.val : Int) (k.val : Int) i.val ≤ 10000) := by
  constructor <;> decide +kernel
theorem stepsI_bound {n : Int} {k i : Nat} (h : InWays n k) (hk : (k : Int) ≤ n) (hi : i ≤ k) : 0 ≤ stepsI n k i ∧ stepsI n k i ≤ 10000 := by
  rcases h with ⟨h0, h1, h2⟩ | ⟨h0, h1, h2⟩
  · have := stepsI_all.1 ⟨n.toNat, by omega⟩ ⟨k, by omega⟩ (by show k ≤ n.toNat; omega) ⟨i, by omega⟩ hi
    rwa [show ((n.toNat : Nat) : Int) = n from by omega] at this
  · have := stepsI_all.2 ⟨n.toNat, by omega⟩ ⟨k, by omega⟩ (by show k ≤ n.toNat; omega) ⟨i, by omega⟩ hi
    rwa [show ((n.toNat : Nat) : Int) = n from by omega] at this
theorem ways_steps_all : (∀ n : Fin 13, ∀ k : Fin 13, waysI (n.val : Int) k.val = if k.val > n.val then 0 else stepsI (n.val : Int) (k.val : Int) k.val) ∧ (∀ n : Fin 133, ∀ k : Fin 3, waysI (n.val : Int) k.val = if k.val > n.val then 0 else stepsI (n.val : Int) (k.val : Int) k.val) := by
  constructor <;> decide +kernel
theorem ways_steps {n : Int} {k : Nat} (h : InWays n k) : waysI n k = if (k : Int) > n then 0 else stepsI n k k := by
  rcases h with ⟨h0, h1, h2⟩ | ⟨h0, h1, h2⟩
  · have := ways_steps_all.1 ⟨n.toNat, by omega⟩ ⟨k, by omega⟩
    rw [show ((n.toNat : Nat) : Int) = n from by omega] at this
    rw [this]
    by_cases hk : k > n.toNat
    · rw [if_pos hk, if_pos (by omega)]
    · rw [if_neg hk, if_neg (by omega)]
  · have := ways_steps_all.2 ⟨n.toNat, by omega⟩ ⟨k, by omega⟩
    rw [show ((n.toNat : Nat) : Int) = n from by omega] at this
    rw [this]
    by_cases hk : k > n.toNat
    · rw [if_pos hk, if_pos (by omega)]
    · rw [if_neg hk, if_neg (by omega)]
/-- what a step's product is within -/
theorem mul_within {a b : Int} (ha : 0 ≤ a ∧ a ≤ 10000) (hb : -200 ≤ b ∧ b ≤ 200) : -2000000 ≤ a * b ∧ a * b ≤ 2000000 := by
  constructor
  · have h1 : a * (-200) ≤ a * b := Int.mul_le_mul_of_nonneg_left hb.1 ha.1
    omega
  · have h1 : a * b ≤ a * 200 := Int.mul_le_mul_of_nonneg_left hb.2 ha.1
    omega
theorem wrap_small {x : Int} (h : -9223372036854775808 ≤ x ∧ x ≤ 9223372036854775807) : IntKind.i64.wrap x = x := by simp [IntKind.wrap, IntKind.bits, IntKind.signed]; omega

end Go.Proofs.Ytnpljmipicjacaa
/-
  GROUPS AS PLAIN LISTS: a list is a group just if all of its pairs are chosen. Nothing here speaks of the program.
-/
namespace Go.Proofs.Ytnpljmipicjacaa
open Go.RowKit

/-- a person who is a friend of all of a list -/
def knowsI (l : PL) (q : List Int) (x : Int) : Bool := q.all fun y => adj l x.toNat y.toNat
def groupAt (p : Int) (l : PL) (q : List Int) (k : Nat) : Bool := choiceAt p q k && knowsI l (q.take k) (q.getD k 0)
def isGroupI (p : Int) (l : PL) (q : List Int) : Bool := (List.range q.length).all (groupAt p l q)
theorem isGroupI_of {p : Int} {l : PL} {q : List Int} (h : ∀ i, i < q.length → groupAt p l q i = true) : isGroupI p l q = true := by
  simp only [isGroupI, List.all_eq_true, List.mem_range]
  exact h
theorem isGroupI_no {p : Int} {l : PL} {q : List Int} {i : Nat} (hi : i < q.length) (h : groupAt p l q i = false) : isGroupI p l q = false := by
  cases he : isGroupI p l q with
  | false => rfl
  | true =>
    simp only [isGroupI, List.all_eq_true, List.mem_range] at he
    rw [he i hi] at h
    cases h
theorem allP_length : ∀ n : Fin 13, ((allP n.val).length : Int) = waysI n.val 2 := by decide +kernel
theorem allP_ways {n : Nat} (hn : n ≤ 12) : ((allP n).length : Int) = waysI n 2 := allP_length ⟨n, by omega⟩
theorem groups_all {p : Int} {l : PL} {q : List Int} (hp : isP p l = true) (hq : isChoiceI p q = true) : isGroupI p l q = decide (((chooseP l q).length : Int) = waysI q.length 2) := by
  have hlen : q.length ≤ 12 := by have := isP_range hp; rcases isChoiceI_long hq with h | h; (· omega); (· simp [h])
  have hall : ((chooseP l q).length : Int) = waysI q.length 2 ↔ ∀ i j, i < j → j < q.length → chosenT l q i j = true := by
    rw [← tabP_choose hp hq, ← allP_ways hlen]
    unfold tabP
    constructor
    · intro h
      have h2 := List.length_filter_eq_length_iff.1 (Int.ofNat_inj.1 h)
      intro i j hij hj
      have := h2 ((i : Int), (j : Int)) (mem_allP.2 ⟨by simp, by simp; omega, by simp; omega⟩)
      simpa using this
    · intro h
      congr 1
      rw [List.length_filter_eq_length_iff]
      intro r hr
      have h3 := mem_allP.1 hr
      exact h r.1.toNat r.2.toNat (by omega) (by omega)
  have hat : ∀ k, k < q.length → (groupAt p l q k = true ↔ ∀ i, i < k → chosenT l q i k = true) := by
    intro k hk
    unfold groupAt knowsI
    rw [isChoiceI_good hq hk, Bool.true_and, List.all_eq_true]
    constructor
    · intro h i hi
      obtain ⟨y, hy⟩ := getSome q i (by omega)
      have := h y (List.mem_of_getElem? (l := q.take k) (i := i) (by rw [List.getElem?_take, if_pos hi]; exact hy))
      unfold chosenT gI
      rw [adj_comm, show q.getD i 0 = y by rw [List.getD_eq_getElem?_getD, hy]; rfl]
      exact this
    · intro h y hy
      obtain ⟨i, hi, e⟩ := List.getElem_of_mem hy
      rw [List.length_take] at hi
      rw [List.getElem_take] at e
      have := h i (by omega)
      unfold chosenT gI at this
      rw [adj_comm, show q.getD i 0 = y by rw [List.getD_eq_getElem?_getD, List.getElem?_eq_getElem (by omega), e]; rfl] at this
      exact this
  by_cases h : ((chooseP l q).length : Int) = waysI q.length 2
  · rw [decide_eq_true h]
    exact isGroupI_of fun k hk => (hat k hk).2 fun i hi => hall.1 h i k hi hk
  · rw [decide_eq_false h]
    cases he : isGroupI p l q with
    | false => rfl
    | true =>
      refine absurd (hall.2 fun i j hij hj => ?_) h
      simp only [isGroupI, List.all_eq_true, List.mem_range] at he
      exact (hat j hj).1 (he j hj) i hij
theorem groups_not {p : Int} {l : PL} {q : List Int} (hq : isChoiceI p q = false) : isGroupI p l q = false := by
  simp only [isChoiceI, List.all_eq_false, List.mem_range] at hq
  obtain ⟨k, hk, h⟩ := hq
  exact isGroupI_no hk (by unfold groupAt; simp only [Bool.not_eq_true] at h; rw [h, Bool.false_and])
def resIsGroup (p : Int) (l : PL) (q : List Int) : Bool × Bool := if isP p l then (isGroupI p l q, true) else (false, false)
end Go.Proofs.Ytnpljmipicjacaa
