/-
  Texts put together for the claims of 'MostInPairs' (pack 1): Base, Said, Pure, Pairs, MatP, TiedP, MatB, Iter.
-/
import Derived.WalkKit
import Derived.Handy
import Derived.Lib.Hide
import Derived.BigQuiet
import Derived.Laws.OwnMore
import Derived.Test.YtkiobefojckocaaRows
import Derived.ProofKit
import Derived.OpenShut
import Derived.Deep.SlicePairs
import Derived.Lib.SmallJoins
import Derived.Laws.BitsAllLaws
import Derived.Lib.TrailingZeros
import Derived.RangeFuncNested
import Derived.RangeFuncBound
import Derived.RangeFuncCalls
import Derived.RangeFuncLeaves
import Derived.Shelf.Abstract
import Derived.Shelf.RegionOpen
import Derived.OwnWalkIn
import Derived.TacticsInMore
import Derived.LoopNIn
import Derived.LoopIn
/-
  THE BASE OF THIS SEAT's TEXTS: lists of pairs and of numbers as cells; 'CRead': a slice that reads as a list of cells; 'Ext': the worlds that differ from one only above a block; regions that draw their order and whose calls make memory. Nothing here speaks of the program.
-/
namespace Go.Proofs.Ytkiobefojckocaa
open Go.RowKit

/-! ## Lists as cells -/
abbrev PL := List (Int × Int)
def pcells : PL → List Value
  | [] => []
  | p :: l => .int .i64 p.1 :: .int .i64 p.2 :: pcells l
def icells (l : List Int) : List Value := l.map (Value.int .i64)
def bcells (l : List Bool) : List Value := l.map Value.bool

theorem pcells_length (l : PL) : (pcells l).length = l.length * 2 := by
  induction l with
  | nil => rfl
  | cons p l ih => simp only [pcells, List.length_cons, ih]; omega
theorem icells_length (l : List Int) : (icells l).length = l.length := by simp [icells]
theorem bcells_length (l : List Bool) : (bcells l).length = l.length := by simp [bcells]
theorem pcells_append (l m : PL) : pcells (l ++ m) = pcells l ++ pcells m := by
  induction l with
  | nil => rfl
  | cons p l ih => simp [pcells, ih]
theorem icells_append (l m : List Int) : icells (l ++ m) = icells l ++ icells m := by simp [icells]
theorem pcells_fst {l : PL} {k : Nat} {x y : Int} (h : l[k]? = some (x, y)) : (pcells l)[k * 2]? = some (.int .i64 x) := by
  induction l generalizing k with
  | nil => simp at h
  | cons p l ih =>
    cases k with
    | zero => simp at h; subst h; rfl
    | succ k => rw [show (k + 1) * 2 = k * 2 + 2 from by omega]; simpa [pcells] using ih (by simpa using h)
theorem pcells_snd {l : PL} {k : Nat} {x y : Int} (h : l[k]? = some (x, y)) : (pcells l)[k * 2 + 1]? = some (.int .i64 y) := by
  induction l generalizing k with
  | nil => simp at h
  | cons p l ih =>
    cases k with
    | zero => simp at h; subst h; rfl
    | succ k => rw [show (k + 1) * 2 + 1 = k * 2 + 1 + 2 from by omega]; simpa [pcells] using ih (by simpa using h)
theorem pcells_set (l : PL) (k : Nat) (x y : Int) : ((pcells l).set (k * 2) (.int .i64 x)).set (k * 2 + 1) (.int .i64 y) = pcells (l.set k (x, y)) := by
  induction l generalizing k with
  | nil => rfl
  | cons p l ih =>
    cases k with
    | zero => rfl
    | succ k =>
      rw [show (k + 1) * 2 = k * 2 + 2 from by omega, show k * 2 + 2 + 1 = k * 2 + 1 + 2 from by omega]
      simp [pcells, ih k]
theorem pcells_one (l : PL) : ∀ u ∈ pcells l, u.oneCell' = true := by
  induction l with
  | nil => intro u h; cases h
  | cons p l ih => intro u h; simp [pcells] at h; rcases h with rfl | rfl | h <;> first | rfl | exact ih u h
theorem icells_one (l : List Int) : ∀ u ∈ icells l, u.oneCell' = true := by
  intro u h
  obtain ⟨x, _, rfl⟩ := List.mem_map.1 h
  rfl
theorem icells_at {l : List Int} {k : Nat} {x : Int} (h : l[k]? = some x) : (icells l)[k]? = some (.int .i64 x) := by simp [icells, h]
theorem icells_set (l : List Int) (k : Nat) (x : Int) : (icells l).set k (.int .i64 x) = icells (l.set k x) := by simp [icells]
theorem bcells_at {l : List Bool} {k : Nat} {x : Bool} (h : l[k]? = some x) : (bcells l)[k]? = some (.bool x) := by simp [bcells, h]
theorem bcells_set (l : List Bool) (k : Nat) (x : Bool) : (bcells l).set k (.bool x) = bcells (l.set k x) := by simp [bcells]
theorem getSome {α : Type} (l : List α) (k : Nat) (h : k < l.length) : ∃ x, l[k]? = some x := ⟨l[k], List.getElem?_eq_getElem h⟩

/-! ## A slice that reads as a list of cells; its block lies below B -/
def CRead (w : World) (B : Nat) (ad : Option Addr) (xs : List Value) : Prop :=
  ∀ j u, xs[j]? = some u → ∃ b off, ad = some ⟨b, off, none⟩ ∧ b < B ∧ w.cell? ⟨b, off + j, none⟩ = some u
section
variable {w w' : World} {B B' : Nat} {ad : Option Addr} {xs : List Value}
theorem CRead.below (h : CRead w B ad xs) (hb : Below B' w w') (hB : B ≤ B') : CRead w' B ad xs := fun j u hu =>
  let ⟨b, off, e, hb', hc⟩ := h j u hu
  ⟨b, off, e, hb', (hb.cell (by show b < B'; omega)).trans hc⟩
theorem CRead.more (h : CRead w B ad xs) (hB : B ≤ B') : CRead w B' ad xs := fun j u hu =>
  let ⟨b, off, e, hb', hc⟩ := h j u hu
  ⟨b, off, e, by omega, hc⟩
theorem CRead.nil : CRead w B ad [] := fun j u hu => by simp at hu
theorem CRead.pair {l : PL} (h : CRead w B ad (pcells l)) {k : Nat} {x y : Int} (hk : l[k]? = some (x, y)) :
    ∃ b off, ad = some ⟨b, off, none⟩ ∧ b < B ∧ w.cell? ⟨b, off + k * 2, none⟩ = some (.int .i64 x) ∧ w.cell? ⟨b, off + k * 2 + 1, none⟩ = some (.int .i64 y) := by
  obtain ⟨b, off, rfl, hb, h0⟩ := h _ _ (pcells_fst hk)
  obtain ⟨b', off', e, _, h1⟩ := h _ _ (pcells_snd hk)
  simp only [Option.some.injEq, Addr.mk.injEq, and_true] at e
  obtain ⟨rfl, rfl⟩ := e
  exact ⟨b, off, rfl, hb, h0, h1⟩
theorem CRead.int {l : List Int} (h : CRead w B ad (icells l)) {k : Nat} {x : Int} (hk : l[k]? = some x) :
    ∃ b off, ad = some ⟨b, off, none⟩ ∧ b < B ∧ w.cell? ⟨b, off + k, none⟩ = some (.int .i64 x) := h _ _ (icells_at hk)
theorem CRead.of_own {base : Nat} {e : TypeId} {size n c : Nat} {A : Option Addr} (h : w.ownsRow base e size (.slice A n c) n xs) : CRead w w.heap.size A xs := by
  intro j u hu
  rcases h.2 with ⟨h', h0⟩ | ⟨g, cap, cur, h', hb, hg, hnc, hcm, hcs, htake⟩
  · have hx : xs = [] := List.eq_nil_of_length_eq_zero (by simpa [h0] using h.1)
    subst hx
    simp at hu
  · simp only [Value.slice.injEq] at h'
    obtain ⟨rfl, _, rfl⟩ := h'
    refine ⟨g, 0, rfl, (Array.getElem?_eq_some_iff.1 hg).1, ?_⟩
    rw [Nat.zero_add, cell_of_row w g j cur e (0, 0) hg]
    rw [← htake, List.getElem?_take] at hu
    split at hu
    · simpa using hu
    · cases hu
end

/-! ## What the call owns -/
section
variable {w w' : World} {base : Nat} {e : TypeId} {size n g cap : Nat} {v : Value} {xs : List Value}
theorem below_grownBy {B : Nat} (h : Below B w w') (hB : w.heap.size ≤ B) (row : Option Nat) : w.grownBy w' row := ⟨h.os, h.tape, h.output, h.size, fun k hk _ => h.block k (by omega)⟩
theorem own_below (h : w.ownsRow base e size v n xs) {B : Nat} (hb : Below B w w') (hB : w.heap.size ≤ B) : w'.ownsRow base e size v n xs :=
  h.kept (below_grownBy hb hB none) (by cases v.ownBlock <;> simp)
theorem own_lower (h : w.ownsRow base e size v n xs) {base' : Nat} (hb : base' ≤ base) : w.ownsRow base' e size v n xs := by
  refine ⟨h.1, ?_⟩
  rcases h.2 with h' | ⟨g, cap, cur, hv, hg, rest⟩
  · exact .inl h'
  · exact .inr ⟨g, cap, cur, hv, by omega, rest⟩
theorem own_lt (h : w.ownsRow base e size (.slice (some ⟨g, 0, none⟩) n cap) n xs) : base ≤ g ∧ g < w.heap.size := h.lt g rfl
/-- a new world, some blocks from B on written and some new ones -/
theorem below_set2 {B : Nat} {a : World} (h : Below B a w) (hg : B ≤ g) (i j : Nat) (x y : Value) : Below B a ((w.setCell ⟨g, i, none⟩ x).setCell ⟨g, j, none⟩ y) :=
  (h.setCell (p := ⟨g, i, none⟩) hg x).setCell (p := ⟨g, j, none⟩) hg y
theorem own_setPair {l : PL} (h : w.ownsRow base e 2 (.slice (some ⟨g, 0, none⟩) n cap) n (pcells l)) (k : Nat) (x y : Int) :
    ((w.setCell ⟨g, k * 2, none⟩ (.int .i64 x)).setCell ⟨g, k * 2 + 1, none⟩ (.int .i64 y)).ownsRow base e 2 (.slice (some ⟨g, 0, none⟩) n cap) n (pcells (l.set k (x, y))) := by
  rw [← pcells_set]
  exact ((h.stored (k * 2) (.int .i64 x)).1.stored (k * 2 + 1) (.int .i64 y)).1
theorem own_pairAt {l : PL} (h : w.ownsRow base e 2 (.slice (some ⟨g, 0, none⟩) n cap) n (pcells l)) {k : Nat} {x y : Int} (hk : l[k]? = some (x, y)) :
    w.cell? ⟨g, k * 2, none⟩ = some (.int .i64 x) ∧ w.cell? ⟨g, k * 2 + 1, none⟩ = some (.int .i64 y) := by
  have hl : l.length = n := by have := h.1; rw [pcells_length] at this; omega
  have hkl : k < l.length := (List.getElem?_eq_some_iff.1 hk).1
  exact ⟨(h.cellAt _ (by omega)).trans (pcells_fst hk), (h.cellAt _ (by omega)).trans (pcells_snd hk)⟩
theorem own_intAt {l : List Int} (h : w.ownsRow base e 1 (.slice (some ⟨g, 0, none⟩) n cap) n (icells l)) {k : Nat} {x : Int} (hk : l[k]? = some x) : w.cell? ⟨g, k, none⟩ = some (.int .i64 x) := by
  have hl : l.length = n := by have := h.1; rw [icells_length] at this; omega
  have hkl : k < l.length := (List.getElem?_eq_some_iff.1 hk).1
  exact (h.cellAt _ (by omega)).trans (icells_at hk)
theorem own_setInt {l : List Int} (h : w.ownsRow base e 1 (.slice (some ⟨g, 0, none⟩) n cap) n (icells l)) (k : Nat) (x : Int) :
    (w.setCell ⟨g, k, none⟩ (.int .i64 x)).ownsRow base e 1 (.slice (some ⟨g, 0, none⟩) n cap) n (icells (l.set k x)) := by
  rw [← icells_set]
  exact (h.stored k (.int .i64 x)).1
theorem own_boolAt {l : List Bool} (h : w.ownsRow base e 1 (.slice (some ⟨g, 0, none⟩) n cap) n (bcells l)) {k : Nat} {x : Bool} (hk : l[k]? = some x) : w.cell? ⟨g, k, none⟩ = some (.bool x) := by
  have hl : l.length = n := by have := h.1; rw [bcells_length] at this; omega
  have hkl : k < l.length := (List.getElem?_eq_some_iff.1 hk).1
  exact (h.cellAt _ (by omega)).trans (bcells_at hk)
theorem own_setBool {l : List Bool} (h : w.ownsRow base e 1 (.slice (some ⟨g, 0, none⟩) n cap) n (bcells l)) (k : Nat) (x : Bool) :
    (w.setCell ⟨g, k, none⟩ (.bool x)).ownsRow base e 1 (.slice (some ⟨g, 0, none⟩) n cap) n (bcells (l.set k x)) := by
  rw [← bcells_set]
  exact (h.stored k (.bool x)).1
theorem made_pairs (n : Nat) : (madeCells #[.int .i64 0, .int .i64 0] (n * 2)).toList = pcells (List.replicate n (0, 0)) := by
  have hp : ∀ m j, (pcells (List.replicate m (0, 0)))[j]? = if j < m * 2 then some (.int .i64 0) else none := by
    intro m
    induction m with
    | zero => intro j; simp [pcells]
    | succ m ih =>
      intro j
      match j with
      | 0 => simp [List.replicate_succ, pcells]
      | 1 => simp [List.replicate_succ, pcells]; omega
      | j + 2 =>
        simp only [List.replicate_succ, pcells, List.getElem?_cons_succ, ih j]
        congr 1
        apply propext
        omega
  apply List.ext_getElem?
  intro j
  rw [hp]
  by_cases hj : j < n * 2
  · rw [if_pos hj]
    rcases Nat.mod_two_eq_zero_or_one j with h | h <;> simp [madeCells, hj, h]
  · rw [if_neg hj]
    simp [madeCells, hj]
theorem made_ints (n : Nat) : (madeCells #[.int .i64 0] (n * 1)).toList = icells (List.replicate n 0) := by rw [Nat.mul_one, toList_madeCells_one]; simp [icells]
theorem made_bools (n : Nat) : (madeCells #[.bool false] (n * 1)).toList = bcells (List.replicate n false) := by rw [Nat.mul_one, toList_madeCells_one]; simp [bcells]
end

theorem gb_trans {a b c : World} {row : Option Nat} (h : a.grownBy b row) (k : b.grownBy c row) : a.grownBy c row :=
  ⟨k.os.trans h.os, k.tape.trans h.tape, k.output.trans h.output, Nat.le_trans h.size k.size, fun i hi hne => (k.block i (Nat.lt_of_lt_of_le hi h.size) hne).trans (h.block i hi hne)⟩
theorem gb_below {a b c : World} {row : Option Nat} {B : Nat} (h : a.grownBy b row) (k : Below B b c) (hB : a.heap.size ≤ B) : a.grownBy c row :=
  ⟨k.os.trans h.os, k.tape.trans h.tape, k.output.trans h.output, Nat.le_trans h.size k.size, fun i hi hne => (k.block i (by omega)).trans (h.block i hi hne)⟩
theorem below_gb {a b c : World} {row : Option Nat} {B : Nat} (h : Below B a b) (k : b.grownBy c row) (hB : a.heap.size ≤ B) : a.grownBy c row :=
  ⟨k.os.trans h.os, k.tape.trans h.tape, k.output.trans h.output, Nat.le_trans h.size k.size, fun i hi hne => (k.block i (Nat.lt_of_lt_of_le hi h.size) hne).trans (h.block i (by omega))⟩

theorem below_of_gb {w w' : World} (h : w.grownBy w' none) {B : Nat} (hB : B ≤ w.heap.size) : Below B w w' := (Below.refl _ _).grown h hB (by simp)

/-- Behind a call that only makes memory: the rules by which the walk reads old cells. -/
theorem old_cells {B : Nat} {W w1 : World} (hb : Below B W w1) : (∀ b o, b < B → w1.cell? ⟨b, o, none⟩ = W.cell? ⟨b, o, none⟩) ∧ (∀ b o, b < B → w1.frozen? ⟨b, o, none⟩ = W.frozen? ⟨b, o, none⟩) :=
  ⟨fun b o h => hb.cell (p := ⟨b, o, none⟩) h, fun b o h => hb.frozen (p := ⟨b, o, none⟩) h⟩

theorem own_far {w : World} {base : Nat} {e : TypeId} {size n g cap : Nat} {xs : List Value} (h : w.ownsRow base e size (.slice (some ⟨g, 0, none⟩) n cap) n xs) {p : Addr} (hp : p.block ≠ g) (u : Value) :
    (w.setCell p u).ownsRow base e size (.slice (some ⟨g, 0, none⟩) n cap) n xs := by
  rcases h.2 with ⟨h', _⟩ | ⟨g', cap', cur, h', hb, hg, rest⟩
  · simp at h'
  · simp only [Value.slice.injEq, Option.some.injEq, Addr.mk.injEq, and_true, true_and] at h'
    obtain ⟨rfl, rfl⟩ := h'
    exact ⟨h.1, .inr ⟨g, cap, cur, rfl, hb, by rw [Below.heap_setCell _ _ _ _ (Ne.symm hp)]; exact hg, rest⟩⟩

/-! ## Marks -/
def marks (k : Int) (n : Nat) : PL := (List.range n).map fun i : Nat => (k + 2 * (i : Int), k + 2 * (i : Int) + 1)
def imarks (k : Int) (n : Nat) : List Int := (List.range n).map fun i : Nat => k + (i : Int)
theorem marks_length (k : Int) (n : Nat) : (marks k n).length = n := by simp [marks]
theorem imarks_length (k : Int) (n : Nat) : (imarks k n).length = n := by simp [imarks]
theorem marks_at {k : Int} {n i : Nat} (h : i < n) : (marks k n)[i]? = some (k + 2 * i, k + 2 * i + 1) := by simp [marks, h]
theorem imarks_at {k : Int} {n i : Nat} (h : i < n) : (imarks k n)[i]? = some (k + i) := by simp [imarks, h]
theorem take_set_drop {α : Type} (m l : List α) (n k : Nat) (x : α) (hm : m.length = n) (hn : l.length = n) (hx : m[k]? = some x) :
    (m.take k ++ l.drop k).set k x = m.take (k + 1) ++ l.drop (k + 1) := by
  have hk : k < m.length := (List.getElem?_eq_some_iff.1 hx).1
  have e : l.drop k = l[k]'(by omega) :: l.drop (k + 1) := List.drop_eq_getElem_cons (by omega)
  have h1 : (m.take k).length = k := by rw [List.length_take]; omega
  rw [List.set_append_right _ _ (by omega), h1, Nat.sub_self, e, List.set_cons_zero, List.take_add_one, hx]
  simp
theorem take_drop_at {α : Type} (m l : List α) (n k : Nat) (hm : m.length = n) (hn : l.length = n) (hk : k < n) : ∃ y, (m.take k ++ l.drop k)[k]? = some y ∧ l[k]? = some y := by
  refine ⟨l[k]'(by omega), ?_, List.getElem?_eq_getElem (by omega)⟩
  have h1 : (m.take k).length = k := by rw [List.length_take]; omega
  rw [List.getElem?_append_right (by omega), h1, Nat.sub_self, List.getElem?_drop, Nat.add_zero]
  exact List.getElem?_eq_getElem (by omega)
theorem own_form {w : World} {base : Nat} {e : TypeId} {size n c : Nat} {A : Option Addr} {xs : List Value} (h : w.ownsRow base e size (.slice A n c) n xs) (hn : 0 < n) : ∃ g, A = some ⟨g, 0, none⟩ := by
  rcases h.2 with ⟨_, h0⟩ | ⟨g, cap, cur, hv, _⟩
  · omega
  · simp only [Value.slice.injEq] at hv
    exact ⟨g, hv.1⟩

/-! ## What stays behind a call -/
theorem carry {B : Nat} {W w : World} {b o : Nat} {v : Value} (h : Below B W w) (hc : W.cell? ⟨b, o, none⟩ = some v) (hb : b < B) : w.cell? ⟨b, o, none⟩ = some v := (h.cell (p := ⟨b, o, none⟩) hb).trans hc
/-- where a row lies -/
def Lies (v : Value) (lo hi : Nat) : Prop := ∀ k, v.ownBlock = some k → lo ≤ k ∧ k < hi
theorem own_lies {w : World} {base : Nat} {e : TypeId} {size n : Nat} {v : Value} {xs : List Value} (h : w.ownsRow base e size v n xs) : Lies v base w.heap.size := h.lt
theorem carryG {w w' : World} {v : Value} {lo hi b o : Nat} {u : Value} (hg : w.grownBy w' v.ownBlock) (hl : Lies v lo hi) (hc : w.cell? ⟨b, o, none⟩ = some u) (hb : b < lo ∨ hi ≤ b) : w'.cell? ⟨b, o, none⟩ = some u :=
  hg.cell hc (by
    intro e
    have := hl b e.symm
    omega)
theorem keptG {w w' : World} {v v' : Value} {lo hi lo' hi' base : Nat} {e : TypeId} {size n : Nat} {xs : List Value} (hg : w.grownBy w' v.ownBlock) (hl : Lies v lo hi) (h : w.ownsRow base e size v' n xs) (hl' : Lies v' lo' hi') (hd : hi ≤ lo' ∨ hi' ≤ lo) : w'.ownsRow base e size v' n xs :=
  h.kept hg (by
    cases hv : v'.ownBlock with
    | none => exact .inl rfl
    | some k =>
      refine .inr fun e => ?_
      have h1 := hl' k hv
      have h2 := hl k e.symm
      omega)
theorem belowG {a w w' : World} {v : Value} {lo hi B : Nat} (h : Below B a w) (hg : w.grownBy w' v.ownBlock) (hl : Lies v lo hi) (hB : B ≤ w.heap.size) (hlo : B ≤ lo) : Below B a w' :=
  h.grown hg hB fun k hk => by have := hl k hk; omega

/-! ## The worlds above one -/
def Ext (B : Nat) (W : World) := { w : World // Below B W w }
instance Ext.here (B : Nat) (W : World) : Nonempty (Ext B W) := ⟨⟨W, Below.refl B W⟩⟩
theorem Ext.below {B : Nat} {W : World} (x : Ext B W) : Below B W x.val := x.property
theorem wp_region_ext {P : Program} (B : Nat) {id : Nat} {Q : Exit → Act → World → Prop} {a : Act} {W : World} {l : List Oper} (hm : P.follows .mixedOrders = true) (hB : Region.lexB .any l.toArray = true)
    (h : wpQuiet P l.toArray (fun w' => ∃ x : Ext B W, w' = x.val) (fun a' => ∀ w', (∃ x : Ext B W, w' = x.val) → Q .normal a' w') l a) : (Code.region id l.toArray true).wp P Q a W :=
  wp_region_quiet (C := fun w' => ∃ x : Ext B W, w' = x.val) hm hB ⟨⟨W.drew, (Below.refl B W).drew⟩, rfl⟩ (by simpa using h)
/-- A callee's contract, met in a world above. -/
theorem Calls.ext_of {P : Program} {f : FuncId} {args : Array Value} {B : Nat} {W : World} {x : Ext B W} {v : Value}
    (h : Calls P f args x.val fun e w' => e = .returned v ∧ Below B x.val w') : Calls P f args x.val fun e w'' => e = .returned v ∧ ∃ y : Ext B W, w'' = y.val :=
  h.mono fun _ w' ⟨he, hb⟩ => ⟨he, ⟨w', x.below.trans hb⟩, rfl⟩
theorem Ext.cell {B : Nat} {W : World} (x : Ext B W) {b o : Nat} {v : Value} (h : W.cell? ⟨b, o, none⟩ = some v) (hb : b < B) : x.val.cell? ⟨b, o, none⟩ = some v := (x.below.cell (p := ⟨b, o, none⟩) hb).trans h
theorem Ext.size {B : Nat} {W : World} (x : Ext B W) : W.heap.size ≤ x.val.heap.size := x.below.size
theorem Ext.size' {B : Nat} {W : World} (hB : B ≤ W.heap.size) (x : Ext B W) : B ≤ x.val.heap.size := Nat.le_trans hB x.below.size
end Go.Proofs.Ytkiobefojckocaa
/-
  FROM A LAW's WALK TO ITS STATEMENT: arguments opened (numbers, lists of numbers, parties), and what every law's post asks.
-/
namespace Go.Proofs.Ytkiobefojckocaa
open Go.ChangeShapes Go.WideShapes Go.ChangeAt Go.RowKit Go.Deep

theorem Try.own : ownKnob Try.prog.godebug = none := by kernel_rfl
theorem Try.laidOut : laidOutB Try.prog = true := by kernel_rfl
theorem Try.cellsPair : Try.prog.cellsOf 106 = 2 := by kernel_rfl
theorem Try.cellsParty : Try.prog.cellsOf 33 = 2 := by kernel_rfl
theorem Try.cellsInt : Try.prog.cellsOf 3 = 1 := by kernel_rfl

section
variable {H : Type} {enc : TypeId × Value → H} {P : Program}
theorem below_trodAll (hl : laidOutB P = true) : ∀ (ts : List TypeId), (ts.all fun t => P.readableRec t && decide (t < P.types.size)) = true → ∀ {vs : List Value} {ds : List (DataW H)} {ps : List MemPlace} {W W' : World},
    DataW.TrodAll enc P W 0 (fun _ => true) true ts vs ds ps → Below W.heap.size W W' → (∀ x ∈ ps, x.block < W.heap.size) → DataW.TrodAll enc P W' 0 (fun b => decide (b < W.heap.size)) true ts vs ds ps
  | [], _, vs, ds, ps, W, W', h, _, _ => by
    obtain ⟨rfl, rfl, rfl⟩ := trodAll_nil h
    exact trodAll_mk0
  | t :: ts, hr, vs, ds, ps, W, W', h, hb, hlt => by
    obtain ⟨v, vs', d, ds', p, q, rfl, rfl, rfl, h0, h1⟩ := trodAll_cons h
    simp only [List.all_cons, Bool.and_eq_true, decide_eq_true_eq] at hr
    refine trodAll_cons_mk (Below.trod hl hr.1.1 hr.1.2 h0 hb (fun x hx => hlt x (List.mem_append_left _ hx))) (below_trodAll hl ts (by simpa using hr.2) h1 hb (fun x hx => hlt x (List.mem_append_right _ hx)))

theorem law_post {f : Func} {s : ChangeSpec} {W W' : World} {args : Array Value} {ds gs : List (DataW H)} {before : List MemPlace} {tb : TypeId} (hl : laidOutB P = true)
    (hr : (f.params.toList.all fun t => P.readableRec t && decide (t < P.types.size)) = true) (hres : f.resultTypes = #[tb]) (htb : P.underlying tb = some .bool) (hsv : s.vars = [])
    (hspec : s.fn H (ds ++ gs) = { results := [.lit (.bool true)], args := ds })
    (hW : DataW.Whole enc P f.params.toList s.vars false W args.toList ds gs before) (hb : Below W.heap.size W W') : s.post enc P f false true false false W args (.bool true) W' := by
  have hW' := hW
  obtain ⟨p, q, hA, hV, rfl, _, _⟩ := hW
  rw [hsv] at hV
  obtain ⟨rfl, rfl⟩ := trodVars_none hV
  have hlt : ∀ x ∈ p, x.block < W.heap.size := fun x hx => by simpa using hW'.lt x (by simpa using hx)
  refine ⟨ds, _, _, [] ++ [], p, [], hW', ?_, ?_, ?_, hb.frame _, fun h => by cases h⟩
  · rw [hspec, hres]
    exact trodAll_mk1 (shut_bool htb _)
  · rw [hspec]
    exact below_trodAll hl _ hr hA hb hlt
  · rw [hspec, hsv]
    rfl
end

section
variable {H : Type} {enc : TypeId × Value → H} {W : World}
set_option maxRecDepth 100000 in
/-- A party that came in. -/
theorem open_party {v : Value} {d : DataW H} {p : List MemPlace} {r : Reach} {b0 : Nat} (hv : Value.okWide Try.prog W r b0 33 v) (h : DataW.Trod enc Try.prog W 0 (fun _ => true) true 33 v d p) :
    ∃ (x : Int) (l : PL) (A : Option Addr) (c : Nat), v = .agg #[.int .i64 x, .slice A l.length c] ∧ l.length ≤ maxLen ∧ CRead W W.heap.size A (pcells l) := by
  obtain ⟨v0, v1, y0, y1, n, rfl, _, _, h0, h1⟩ := Joins.open_agg2 Try.underlying33 (by kernel_rfl) Try.cellsParty hv h
  obtain ⟨x, hx, _, _⟩ := DataW.trod_int Try.underlying3 h0
  simp only [List.cons.injEq, and_true] at hx
  subst hx
  rcases open_slice_pairs Try.underlying31 Try.underlying106 Try.cellsPair rfl rfl (by kernel_rfl) (by kernel_rfl) h1 with ⟨hcs, _⟩ | ⟨a, len, cap, m, n', V0, V1, D0, D1, P0, P1, hcs, _, hlc, hcm, hm, _, hall⟩
  · simp only [List.cons.injEq, and_true] at hcs
    subst hcs
    exact ⟨x, [], none, 0, rfl, Nat.zero_le _, CRead.nil⟩
  · simp only [List.cons.injEq, and_true] at hcs
    subst hcs
    have hm' : m = cap := by simpa using hm
    subst hm'
    have each : ∀ i, i < len → ∃ a0 a1 : Int, W.cell? (a.add (i * 2)) = some (.int .i64 a0) ∧ W.cell? (a.add (i * 2 + 1)) = some (.int .i64 a1) := by
      intro i hi
      obtain ⟨c0, c1, t0, t1⟩ := hall i (by omega)
      obtain ⟨a0, e0, _, _⟩ := DataW.trod_int Try.underlying3 t0
      obtain ⟨a1, e1, _, _⟩ := DataW.trod_int Try.underlying3 t1
      simp only [List.cons.injEq, and_true] at e0 e1
      exact ⟨a0, a1, by rw [c0, e0], by rw [c1, e1]⟩
    let num : Option Value → Int := fun | some (.int _ z) => z | _ => 0
    let l : PL := (List.range len).map fun i => (num (W.cell? (a.add (i * 2))), num (W.cell? (a.add (i * 2 + 1))))
    have hll : l.length = len := by simp [l]
    refine ⟨x, l, some a, m, by rw [hll], by rw [hll]; omega, ?_⟩
    intro j u hu
    have hjl : j < (pcells l).length := (List.getElem?_eq_some_iff.1 hu).1
    rw [pcells_length, hll] at hjl
    have hi : j / 2 < len := by omega
    obtain ⟨a0, a1, c0, c1⟩ := each (j / 2) hi
    have hl : l[j / 2]? = some (a0, a1) := by simp [l, hi, c0, c1, num]
    obtain ⟨z0, _, cz, _⟩ := each 0 (by omega)
    have hspot : a.spot = none := by simpa [Addr.add] using World.cell?_spot cz
    obtain ⟨b, off, sp⟩ := a
    simp only at hspot
    subst hspot
    have hb : b < W.heap.size := by
      have := World.block_lt_of_cell? W _ cz
      simpa [Addr.add] using this
    refine ⟨b, off, rfl, hb, ?_⟩
    rw [add_plain] at c0 c1
    rcases Nat.mod_two_eq_zero_or_one j with h2 | h2
    · have e : j = j / 2 * 2 := by omega
      have e2 := pcells_fst hl
      rw [← e] at e2 c0
      rw [hu] at e2
      rw [c0, e2]
    · have e : j = j / 2 * 2 + 1 := by omega
      have e2 := pcells_snd hl
      rw [← e] at e2 c1
      rw [hu] at e2
      rw [c1, e2]
end
end Go.Proofs.Ytkiobefojckocaa
/-
  PARTIES AS PLAIN LISTS: what a party is, how many pairs it can have. Nothing here speaks of the program.
-/
namespace Go.Proofs.Ytkiobefojckocaa

def pairLess (a b : Int × Int) : Bool := decide (a.1 < b.1 ∨ a.1 = b.1 ∧ a.2 < b.2)
def goodAt (p : Int) (l : PL) (i : Nat) : Bool :=
  match l[i]? with
  | none => true
  | some (x, y) => decide (0 ≤ x ∧ x < y ∧ y < p) && (i == 0 || match l[i - 1]? with | none => true | some q => pairLess q (x, y))
def isP (p : Int) (l : PL) : Bool := decide (0 ≤ p ∧ p ≤ 12) && (List.range l.length).all (goodAt p l)

theorem isP_of (p : Int) (l : PL) (h0 : 0 ≤ p) (h1 : p ≤ 12) (h : ∀ i, i < l.length → goodAt p l i = true) : isP p l = true := by
  simp only [isP, Bool.and_eq_true, decide_eq_true_eq, List.all_eq_true, List.mem_range]
  exact ⟨⟨h0, h1⟩, h⟩
theorem isP_no (p : Int) (l : PL) {i : Nat} (hi : i < l.length) (h : goodAt p l i = false) : isP p l = false := by
  cases he : isP p l with
  | false => rfl
  | true =>
    simp only [isP, Bool.and_eq_true, decide_eq_true_eq, List.all_eq_true, List.mem_range] at he
    rw [he.2 i hi] at h
    cases h
theorem isP_out (p : Int) (l : PL) (h : p < 0 ∨ 12 < p) : isP p l = false := by
  simp only [isP, Bool.and_eq_false_iff, decide_eq_false_iff_not]
  left
  omega
theorem isP_range {p : Int} {l : PL} (h : isP p l = true) : 0 ≤ p ∧ p ≤ 12 := by
  simp only [isP, Bool.and_eq_true, decide_eq_true_eq] at h
  exact h.1
theorem isP_good {p : Int} {l : PL} (h : isP p l = true) {i : Nat} (hi : i < l.length) : goodAt p l i = true := by
  simp only [isP, Bool.and_eq_true, decide_eq_true_eq, List.all_eq_true, List.mem_range] at h
  exact h.2 i hi
theorem goodAt_pair {p : Int} {l : PL} {i : Nat} {x y : Int} (h : goodAt p l i = true) (hx : l[i]? = some (x, y)) : 0 ≤ x ∧ x < y ∧ y < p := by
  simp only [goodAt, hx, Bool.and_eq_true, decide_eq_true_eq] at h
  exact h.1
theorem goodAt_less {p : Int} {l : PL} {i : Nat} {x y x' y' : Int} (h : goodAt p l (i + 1) = true) (hx : l[i]? = some (x, y)) (hx' : l[i + 1]? = some (x', y')) : x < x' ∨ x = x' ∧ y < y' := by
  simp only [goodAt, hx', Nat.add_sub_cancel, hx, Bool.and_eq_true, Bool.or_eq_true, pairLess, decide_eq_true_eq] at h
  rcases h.2 with h | h
  · simp at h
  · exact h
theorem goodAt_first {p : Int} {l : PL} {x y : Int} (hx : l[0]? = some (x, y)) (h : 0 ≤ x ∧ x < y ∧ y < p) : goodAt p l 0 = true := by
  simp [goodAt, hx, h.1, h.2.1, h.2.2]
theorem goodAt_next {p : Int} {l : PL} {i : Nat} {x y x' y' : Int} (hx : l[i]? = some (x, y)) (hx' : l[i + 1]? = some (x', y')) (h : 0 ≤ x' ∧ x' < y' ∧ y' < p) (hl : x < x' ∨ x = x' ∧ y < y') : goodAt p l (i + 1) = true := by
  simp only [goodAt, hx', Nat.add_sub_cancel, hx, Bool.and_eq_true, Bool.or_eq_true, pairLess, decide_eq_true_eq]
  exact ⟨h, .inr hl⟩
theorem goodAt_bad {p : Int} {l : PL} {i : Nat} {x y : Int} (hx : l[i]? = some (x, y)) (h : ¬ (0 ≤ x ∧ x < y ∧ y < p)) : goodAt p l i = false := by
  simp only [goodAt, hx, Bool.and_eq_false_iff, decide_eq_false_iff_not]
  exact .inl h
theorem goodAt_stale {p : Int} {l : PL} {i : Nat} {x y x' y' : Int} (hx : l[i]? = some (x, y)) (hx' : l[i + 1]? = some (x', y')) (hl : ¬ (x < x' ∨ x = x' ∧ y < y')) : goodAt p l (i + 1) = false := by
  cases h : goodAt p l (i + 1) with
  | false => rfl
  | true => exact absurd (goodAt_less h hx hx') hl

theorem goodAt_zero {p : Int} {l : PL} {k : Nat} {x y : Int} (hk : k = 0) (hx : l[k]? = some (x, y)) (h : 0 ≤ x ∧ x < y ∧ y < p) : goodAt p l k = true := by subst hk; exact goodAt_first hx h
theorem goodAt_later {p : Int} {l : PL} {k : Nat} {x y x' y' : Int} (hk : 0 < k) (hx : l[k - 1]? = some (x, y)) (hx' : l[k]? = some (x', y')) (h : 0 ≤ x' ∧ x' < y' ∧ y' < p) (hl : x < x' ∨ x = x' ∧ y < y') : goodAt p l k = true := by
  obtain ⟨j, rfl⟩ : ∃ j, k = j + 1 := ⟨k - 1, by omega⟩
  exact goodAt_next hx hx' h hl
theorem goodAt_stale' {p : Int} {l : PL} {k : Nat} {x y x' y' : Int} (hk : 0 < k) (hx : l[k - 1]? = some (x, y)) (hx' : l[k]? = some (x', y')) (hl : ¬ (x < x' ∨ x = x' ∧ y < y')) : goodAt p l k = false := by
  obtain ⟨j, rfl⟩ : ∃ j, k = j + 1 := ⟨k - 1, by omega⟩
  exact goodAt_stale hx hx' hl

/-- Twice the number of pairs that come before a pair. -/
def rank2 (p x y : Int) : Int := 2 * (x * p) + 2 * y - x * x - 3 * x - 2
theorem small_cases {x : Int} (h0 : 0 ≤ x) (h1 : x ≤ 11) : x = 0 ∨ x = 1 ∨ x = 2 ∨ x = 3 ∨ x = 4 ∨ x = 5 ∨ x = 6 ∨ x = 7 ∨ x = 8 ∨ x = 9 ∨ x = 10 ∨ x = 11 := by omega
theorem rank2_step {p x y x' y' : Int} (hp : p ≤ 12) (h : 0 ≤ x ∧ x < y ∧ y < p) (h' : 0 ≤ x' ∧ x' < y' ∧ y' < p) (hl : x < x' ∨ x = x' ∧ y < y') : rank2 p x y + 2 ≤ rank2 p x' y' := by
  unfold rank2
  rcases small_cases h.1 (by omega) with rfl | rfl | rfl | rfl | rfl | rfl | rfl | rfl | rfl | rfl | rfl | rfl <;>
  rcases small_cases h'.1 (by omega) with rfl | rfl | rfl | rfl | rfl | rfl | rfl | rfl | rfl | rfl | rfl | rfl <;> omega
theorem rank2_lo {p x y : Int} (hp : p ≤ 12) (h : 0 ≤ x ∧ x < y ∧ y < p) : 0 ≤ rank2 p x y := by
  unfold rank2
  rcases small_cases h.1 (by omega) with rfl | rfl | rfl | rfl | rfl | rfl | rfl | rfl | rfl | rfl | rfl | rfl <;> omega
theorem people_cases {p : Int} (h0 : 0 ≤ p) (h1 : p ≤ 12) : p = 0 ∨ p = 1 ∨ p = 2 ∨ p = 3 ∨ p = 4 ∨ p = 5 ∨ p = 6 ∨ p = 7 ∨ p = 8 ∨ p = 9 ∨ p = 10 ∨ p = 11 ∨ p = 12 := by omega
theorem rank2_hi {p x y : Int} (hp : p ≤ 12) (h : 0 ≤ x ∧ x < y ∧ y < p) : rank2 p x y + 2 ≤ p * (p - 1) := by
  have h0 : 0 ≤ p := by omega
  unfold rank2
  rcases people_cases h0 hp with rfl | rfl | rfl | rfl | rfl | rfl | rfl | rfl | rfl | rfl | rfl | rfl | rfl <;>
  rcases small_cases h.1 (by omega) with rfl | rfl | rfl | rfl | rfl | rfl | rfl | rfl | rfl | rfl | rfl | rfl <;> omega
theorem people_sq {p : Int} (h0 : 0 ≤ p) (h1 : p ≤ 12) : 0 ≤ p * (p - 1) ∧ p * (p - 1) ≤ 132 := by
  rcases people_cases h0 h1 with rfl | rfl | rfl | rfl | rfl | rfl | rfl | rfl | rfl | rfl | rfl | rfl | rfl <;> omega
theorem isP_rank {p : Int} {l : PL} (h : isP p l = true) : ∀ (i : Nat) (x y : Int), l[i]? = some (x, y) → 2 * (i : Int) ≤ rank2 p x y := by
  intro i
  induction i with
  | zero =>
    intro x y hx
    have hl : 0 < l.length := (List.getElem?_eq_some_iff.1 hx).1
    have := rank2_lo (isP_range h).2 (goodAt_pair (isP_good h hl) hx)
    omega
  | succ i ih =>
    intro x y hx
    have hl : i + 1 < l.length := (List.getElem?_eq_some_iff.1 hx).1
    obtain ⟨⟨x', y'⟩, hx'⟩ := getSome l i (by omega)
    have h1 := ih _ _ hx'
    have h2 := rank2_step (isP_range h).2 (goodAt_pair (isP_good h (by omega)) hx') (goodAt_pair (isP_good h hl) hx) (goodAt_less (isP_good h hl) hx' hx)
    omega
/-- A party has no more pairs than there are. -/
theorem isP_length {p : Int} {l : PL} (h : isP p l = true) : 2 * (l.length : Int) ≤ p * (p - 1) := by
  have hr := isP_range h
  by_cases hl : l.length = 0
  · have := people_sq hr.1 hr.2
    omega
  · obtain ⟨⟨x, y⟩, hx⟩ := getSome l (l.length - 1) (by omega)
    have h1 := isP_rank h _ _ _ hx
    have h2 := rank2_hi hr.2 (goodAt_pair (isP_good h (by omega)) hx)
    omega
theorem isP_many {p : Int} {l : PL} (h : p * (p - 1) < 2 * (l.length : Int)) : isP p l = false := by
  cases he : isP p l with
  | false => rfl
  | true => have := isP_length he; omega
end Go.Proofs.Ytkiobefojckocaa
/-
  ALL PAIRS IN THEIR ORDER; a party's pairs are those of all that it has, in that order. Nothing here speaks of the program.
-/
namespace Go.Proofs.Ytkiobefojckocaa

def plt (a b : Int × Int) : Prop := a.1 < b.1 ∨ a.1 = b.1 ∧ a.2 < b.2
theorem plt_trans {a b c : Int × Int} (h : plt a b) (k : plt b c) : plt a c := by unfold plt at *; omega
theorem plt_irrefl (a : Int × Int) : ¬ plt a a := by unfold plt; omega
theorem plt_asymm {a b : Int × Int} (h : plt a b) : ¬ plt b a := by unfold plt at *; omega

theorem sorted_ext : ∀ {l m : PL}, l.Pairwise plt → m.Pairwise plt → (∀ q, q ∈ l ↔ q ∈ m) → l = m
  | [], [], _, _, _ => rfl
  | [], b :: m, _, _, h => by have := (h b).2 (List.mem_cons_self ..); cases this
  | a :: l, [], _, _, h => by have := (h a).1 (List.mem_cons_self ..); cases this
  | a :: l, b :: m, hl, hm, h => by
    rw [List.pairwise_cons] at hl hm
    have hab : a = b := by
      rcases List.mem_cons.1 ((h a).1 (List.mem_cons_self ..)) with e | e
      · exact e
      · rcases List.mem_cons.1 ((h b).2 (List.mem_cons_self ..)) with e' | e'
        · exact e'.symm
        · exact absurd (hm.1 a e) (plt_asymm (hl.1 b e'))
    subst hab
    rw [sorted_ext hl.2 hm.2 fun q => ?_]
    constructor
    · intro hq
      rcases List.mem_cons.1 ((h q).1 (List.mem_cons_of_mem _ hq)) with e | e
      · subst e; exact absurd (hl.1 q hq) (plt_irrefl q)
      · exact e
    · intro hq
      rcases List.mem_cons.1 ((h q).2 (List.mem_cons_of_mem _ hq)) with e | e
      · subst e; exact absurd (hm.1 q hq) (plt_irrefl q)
      · exact e

/-- what a party is, said of its list -/
def IsList (p : Int) (l : PL) : Prop := 0 ≤ p ∧ p ≤ 12 ∧ (∀ q ∈ l, 0 ≤ q.1 ∧ q.1 < q.2 ∧ q.2 < p) ∧ l.Pairwise plt
theorem isP_list {p : Int} {l : PL} (h : isP p l = true) : IsList p l := by
  have hr := isP_range h
  refine ⟨hr.1, hr.2, ?_, ?_⟩
  · intro q hq
    obtain ⟨i, hi, rfl⟩ := List.getElem_of_mem hq
    exact goodAt_pair (isP_good h hi) (List.getElem?_eq_getElem hi)
  · rw [List.pairwise_iff_getElem]
    have step : ∀ (d i : Nat) (hi : i < l.length) (hj : i + d + 1 < l.length), plt l[i] l[i + d + 1] := by
      intro d
      induction d with
      | zero => intro i hi hj; exact goodAt_less (isP_good h hj) (List.getElem?_eq_getElem (by omega)) (List.getElem?_eq_getElem hj)
      | succ d ih =>
        intro i hi hj
        exact plt_trans (ih i hi (by omega)) (goodAt_less (p := p) (l := l) (i := i + d + 1) (isP_good h (by omega)) (List.getElem?_eq_getElem (by omega)) (List.getElem?_eq_getElem (by omega)))
    intro i j hi hj hij
    have e : j = i + (j - i - 1) + 1 := by omega
    have := step (j - i - 1) i hi (by omega)
    simpa only [← e] using this
theorem isP_of_list {p : Int} {l : PL} (h : IsList p l) : isP p l = true := by
  obtain ⟨h0, h1, hm, hs⟩ := h
  refine isP_of p l h0 h1 fun i hi => ?_
  have hx : l[i]? = some (l[i].1, l[i].2) := List.getElem?_eq_getElem hi
  have hg := hm l[i] (List.getElem_mem hi)
  rcases i with _ | i
  · exact goodAt_first hx hg
  · have hx' : l[i]? = some (l[i].1, l[i].2) := List.getElem?_eq_getElem (by omega)
    exact goodAt_next hx' hx hg ((List.pairwise_iff_getElem.1 hs) i (i + 1) (by omega) hi (by omega))

def rowP (a n : Nat) : PL := (List.range' (a + 1) (n - (a + 1))).map fun b : Nat => ((a : Int), (b : Int))
def allP (n : Nat) : PL := (List.range n).flatMap fun a => rowP a n
theorem mem_rowP {a n : Nat} {q : Int × Int} : q ∈ rowP a n ↔ q.1 = a ∧ q.1 < q.2 ∧ q.2 < n := by
  obtain ⟨x, y⟩ := q
  simp only [rowP, List.mem_map, List.mem_range'_1, Prod.mk.injEq]
  constructor
  · rintro ⟨b, hb, rfl, rfl⟩; omega
  · rintro ⟨rfl, h1, h2⟩; exact ⟨y.toNat, by omega, rfl, by omega⟩
theorem mem_allP {n : Nat} {q : Int × Int} : q ∈ allP n ↔ 0 ≤ q.1 ∧ q.1 < q.2 ∧ q.2 < n := by
  simp only [allP, List.mem_flatMap, List.mem_range, mem_rowP]
  constructor
  · rintro ⟨a, ha, h1, h2, h3⟩; omega
  · rintro ⟨h0, h1, h2⟩; exact ⟨q.1.toNat, by omega, by omega, h1, h2⟩
theorem sorted_rowP (a n : Nat) : (rowP a n).Pairwise plt := by
  unfold rowP
  rw [List.pairwise_map]
  exact List.Pairwise.imp (fun {b c} h => Or.inr ⟨rfl, by omega⟩) List.pairwise_lt_range'
theorem sorted_allP (n : Nat) : (allP n).Pairwise plt := by
  unfold allP
  rw [List.pairwise_flatMap]
  refine ⟨fun a _ => sorted_rowP a n, ?_⟩
  refine List.Pairwise.imp (fun {a b} h x hx y hy => ?_) (List.pairwise_lt_range (n := n))
  have h1 := mem_rowP.1 hx
  have h2 := mem_rowP.1 hy
  exact .inl (by omega)
theorem filter_list {n : Nat} (hn : n ≤ 12) (f : Int × Int → Bool) : IsList n ((allP n).filter f) := by
  refine ⟨by omega, by omega, fun q hq => ?_, (sorted_allP n).filter _⟩
  exact mem_allP.1 (List.mem_filter.1 hq).1
theorem filter_isP {n : Nat} (hn : n ≤ 12) (f : Int × Int → Bool) : isP n ((allP n).filter f) = true := isP_of_list (filter_list hn f)
/-- A party's pairs are those of all that it has. -/
theorem isP_filter {n : Nat} {l : PL} (h : isP n l = true) : (allP n).filter (fun q => l.contains q) = l := by
  obtain ⟨_, _, hm, hs⟩ := isP_list h
  refine sorted_ext ((sorted_allP n).filter _) hs fun q => ?_
  rw [List.mem_filter, List.contains_iff_mem]
  exact ⟨fun hq => hq.2, fun hq => ⟨mem_allP.2 (hm q hq), hq⟩⟩
theorem allP_length_le {n : Nat} (hn : n ≤ 12) : (allP n).length ≤ 66 := by
  have h := isP_length (filter_isP hn fun _ => true)
  have h2 := people_sq (p := (n : Int)) (by omega) (by omega)
  rw [List.filter_eq_self.2 (by simp)] at h
  omega
theorem filter_length_le {n : Nat} (hn : n ≤ 12) (f : Int × Int → Bool) : ((allP n).filter f).length ≤ 66 := Nat.le_trans (List.length_filter_le _ _) (allP_length_le hn)
/-- The pairs before the pair (a, b) in the order. -/
def upTo (n a b : Nat) : PL := ((List.range a).flatMap fun a => rowP a n) ++ (List.range' (a + 1) (b - (a + 1))).map fun b : Nat => ((a : Int), (b : Int))
theorem upTo_start (n : Nat) : upTo n 0 1 = [] := rfl
theorem upTo_next {n a b : Nat} (h : a < b) : upTo n a (b + 1) = upTo n a b ++ [((a : Int), (b : Int))] := by
  unfold upTo
  rw [List.append_assoc, show b + 1 - (a + 1) = (b - (a + 1)) + 1 from by omega, List.range'_concat]
  simp
  omega
theorem upTo_row (n a : Nat) : upTo n a n = upTo n (a + 1) (a + 1 + 1) := by
  unfold upTo
  rw [List.range_succ, List.flatMap_append]
  simp [rowP]
theorem upTo_begin (n a : Nat) : upTo n a (a + 1) = (List.range a).flatMap fun a => rowP a n := by simp [upTo]
theorem upTo_all (n : Nat) : upTo n n (n + 1) = allP n := by rw [upTo_begin]; rfl
end Go.Proofs.Ytkiobefojckocaa
/-
  SETS OF PAIRS WITH EACH PERSON IN AT MOST ONE, pure: the program goes through the party's pairs, the model through the people.
-/
namespace Go.Proofs.Ytkiobefojckocaa

/-- both of a pair are free -/
def hasQ (S : Nat → Bool) (q : Int × Int) : Bool := S q.1.toNat && S q.2.toNat
/-- who is free without a pair -/
def cutQ (S : Nat → Bool) (q : Int × Int) : Nat → Bool := fun x => S x && !decide ((x : Int) = q.1) && !decide ((x : Int) = q.2)
/-- so many more pairs out of those, behind those told, each of free people -/
def mP : PL → Nat → PL → (Nat → Bool) → List PL
  | [], k, told, _ => if k = 0 then [told] else []
  | q :: ps, k, told, S => match k with
    | 0 => [told]
    | k + 1 => (if hasQ S q then mP ps k (told ++ [q]) (cutQ S q) else []) ++ mP ps (k + 1) told S
theorem mP_zero (ps : PL) (told : PL) (S : Nat → Bool) : mP ps 0 told S = [told] := by cases ps <;> simp [mP]
theorem mP_nil (k : Nat) (told : PL) (S : Nat → Bool) : mP [] (k + 1) told S = [] := by simp [mP]
theorem mP_cons (q : Int × Int) (ps : PL) (k : Nat) (told : PL) (S : Nat → Bool) : mP (q :: ps) (k + 1) told S = (if hasQ S q then mP ps k (told ++ [q]) (cutQ S q) else []) ++ mP ps (k + 1) told S := rfl
/-- how many are free from a on -/
def cntQ (n : Nat) (S : Nat → Bool) (a : Nat) : Nat := (List.range n).countP fun x => decide (a ≤ x) && S x
theorem cntQ_succ (n : Nat) (S : Nat → Bool) (a : Nat) : cntQ (n + 1) S a = cntQ n S a + if decide (a ≤ n) && S n then 1 else 0 := by
  unfold cntQ
  rw [List.range_succ, List.countP_append, List.countP_singleton]
theorem cntQ_congr {n : Nat} {S T : Nat → Bool} {a : Nat} (h : ∀ x, x < n → a ≤ x → S x = T x) : cntQ n S a = cntQ n T a := by
  unfold cntQ
  apply List.countP_congr
  intro x hx
  rw [List.mem_range] at hx
  by_cases ha : a ≤ x
  · simp [ha, h x hx ha]
  · simp [ha]
theorem cntQ_drop {n : Nat} {S : Nat → Bool} {a x : Nat} (hx : x < n) (ha : a ≤ x) (hS : S x = true) : cntQ n (fun y => S y && !decide (y = x)) a + 1 = cntQ n S a := by
  induction n with
  | zero => omega
  | succ n ih =>
    rw [cntQ_succ, cntQ_succ]
    by_cases h : x = n
    · subst h
      rw [cntQ_congr (T := S) fun y hy _ => by simp [show y ≠ x by omega]]
      simp [ha, hS]
    · have := ih (by omega)
      simp only [show decide (n = x) = false from decide_eq_false (by omega), Bool.not_false, Bool.and_true]
      omega
theorem cntQ_cut {n : Nat} {S : Nat → Bool} {a : Nat} {q : Int × Int} (h0 : (a : Int) ≤ q.1) (h1 : q.1 < q.2) (h2 : q.2 < n) (hS : hasQ S q = true) : cntQ n (cutQ S q) a + 2 = cntQ n S a := by
  unfold hasQ at hS
  rw [Bool.and_eq_true] at hS
  have e1 := cntQ_drop (n := n) (S := S) (a := a) (x := q.1.toNat) (by omega) (by omega) hS.1
  have e2 := cntQ_drop (n := n) (S := fun y => S y && !decide (y = q.1.toNat)) (a := a) (x := q.2.toNat) (by omega) (by omega) (by simp only [hS.2, Bool.true_and]; rw [decide_eq_false (by omega)]; rfl)
  rw [cntQ_congr (S := cutQ S q) (T := fun y => (S y && !decide (y = q.1.toNat)) && !decide (y = q.2.toNat)) fun x _ _ => by
    unfold cutQ
    rw [show decide ((x : Int) = q.1) = decide (x = q.1.toNat) from decide_eq_decide.2 (by omega), show decide ((x : Int) = q.2) = decide (x = q.2.toNat) from decide_eq_decide.2 (by omega)]]
  omega
/-- the pairs of a list lie from a on -/
def FromQ (n : Nat) (a : Int) (ps : PL) : Prop := ∀ q ∈ ps, a ≤ q.1 ∧ q.1 < q.2 ∧ q.2 < n
theorem FromQ.tail {n : Nat} {a : Int} {q : Int × Int} {ps : PL} (h : FromQ n a (q :: ps)) : FromQ n a ps := fun x hx => h x (List.mem_cons_of_mem _ hx)
theorem mP_need {n a : Nat} : ∀ (ps : PL) (k : Nat) (told : PL) (S : Nat → Bool), FromQ n a ps → cntQ n S a < 2 * k → mP ps k told S = []
  | [], k, told, S, _, h => by
    obtain ⟨k, rfl⟩ : ∃ i, k = i + 1 := ⟨k - 1, by omega⟩
    exact mP_nil ..
  | q :: ps, k, told, S, hf, h => by
    obtain ⟨k, rfl⟩ : ∃ i, k = i + 1 := ⟨k - 1, by omega⟩
    have hq := hf q (List.mem_cons_self ..)
    rw [mP_cons, mP_need ps (k + 1) told S hf.tail h, List.append_nil]
    by_cases hS : hasQ S q = true
    · rw [if_pos hS, mP_need ps k _ _ hf.tail (by have := cntQ_cut hq.1 hq.2.1 hq.2.2 hS; omega)]
    · rw [if_neg hS]
/-- where too few are left, no more come -/
theorem mP_prune {n : Nat} {q : Int × Int} {ps : PL} (hs : (q :: ps).Pairwise plt) (hf : FromQ n 0 (q :: ps)) {k : Nat} {told : PL} {S : Nat → Bool} (h : cntQ n S q.1.toNat < 2 * k) : mP (q :: ps) k told S = [] := by
  refine mP_need (a := q.1.toNat) _ _ _ _ (fun r hr => ?_) h
  have h0 := hf q (List.mem_cons_self ..)
  have h1 := hf r hr
  rcases List.mem_cons.1 hr with rfl | hr
  · omega
  · have := (List.pairwise_cons.1 hs).1 r hr
    unfold plt at this
    omega

/-! ## The model's way: the least free person with each of its free friends -/
def leastQ (n : Nat) (S : Nat → Bool) : Option Nat := (List.range n).find? S
def dP (t : Nat → Nat → Bool) (n : Nat) : Nat → PL → (Nat → Bool) → List PL
  | 0, told, S => if (List.range n).any S then [] else [told]
  | f + 1, told, S => match leastQ n S with
    | none => [told]
    | some a => ((List.range n).filter fun b => decide (a < b) && t a b && S b).flatMap fun (b : Nat) => dP t n f (told ++ [((a : Int), (b : Int))]) (cutQ S ((a : Int), (b : Int)))
theorem dP_some {t : Nat → Nat → Bool} {n f a : Nat} {told : PL} {S : Nat → Bool} (h : leastQ n S = some a) : dP t n (f + 1) told S = ((List.range n).filter fun b => decide (a < b) && t a b && S b).flatMap fun (b : Nat) => dP t n f (told ++ [((a : Int), (b : Int))]) (cutQ S ((a : Int), (b : Int))) := by
  rw [dP, h]
theorem dP_none {t : Nat → Nat → Bool} {n f : Nat} {told : PL} {S : Nat → Bool} (h : ∀ x, x < n → S x = false) : dP t n f told S = [told] := by
  cases f with
  | zero =>
    rw [dP, if_neg]
    rw [List.any_eq_true]
    rintro ⟨x, hx, hS⟩
    rw [h x (List.mem_range.1 hx)] at hS
    cases hS
  | succ f =>
    have e : leastQ n S = none := by
      unfold leastQ
      rw [List.find?_eq_none]
      intro x hx
      rw [List.mem_range] at hx
      simp [h x hx]
    rw [dP, e]
theorem cntQ_none {n : Nat} {S : Nat → Bool} (h : cntQ n S 0 = 0) : ∀ x, x < n → S x = false := by
  intro x hx
  cases hS : S x with
  | false => rfl
  | true =>
    have := cntQ_drop (n := n) (S := S) (a := 0) hx (Nat.zero_le _) hS
    omega
theorem leastQ_some {n : Nat} {S : Nat → Bool} (h : 0 < cntQ n S 0) : ∃ a, leastQ n S = some a ∧ a < n ∧ S a = true ∧ ∀ x, x < a → S x = false := by
  cases hf : leastQ n S with
  | none =>
    exfalso
    unfold leastQ at hf
    rw [List.find?_eq_none] at hf
    have : cntQ n S 0 = 0 := by
      unfold cntQ
      rw [List.countP_eq_zero]
      intro x hx
      simpa using hf x hx
    omega
  | some a =>
    unfold leastQ at hf
    rw [List.find?_range_eq_some] at hf
    exact ⟨a, rfl, by simpa using hf.2.1, hf.1, fun x hx => by simpa using hf.2.2 x hx⟩
/-- the members of a cut -/
theorem cutQ_at {S : Nat → Bool} {a b x : Nat} : cutQ S ((a : Int), (b : Int)) x = (S x && !decide (x = a) && !decide (x = b)) := by
  unfold cutQ
  simp only
  rw [show decide ((x : Int) = (a : Int)) = decide (x = a) from decide_eq_decide.2 (by omega), show decide ((x : Int) = (b : Int)) = decide (x = b) from decide_eq_decide.2 (by omega)]
theorem dP_odd (t : Nat → Nat → Bool) (n : Nat) : ∀ (f : Nat) (told : PL) (S : Nat → Bool), cntQ n S 0 % 2 = 1 → dP t n f told S = []
  | 0, told, S, h => by
    unfold dP
    obtain ⟨a, _, ha, hS, _⟩ := leastQ_some (n := n) (S := S) (by omega)
    rw [if_pos (List.any_eq_true.2 ⟨a, List.mem_range.2 ha, hS⟩)]
  | f + 1, told, S, h => by
    obtain ⟨a, e, ha, hS, _⟩ := leastQ_some (n := n) (S := S) (by omega)
    rw [dP_some e, List.flatMap_eq_nil_iff]
    intro b hb
    simp only [List.mem_filter, List.mem_range, Bool.and_eq_true, decide_eq_true_eq] at hb
    refine dP_odd t n f _ _ ?_
    have := cntQ_cut (n := n) (S := S) (a := 0) (q := ((a : Int), (b : Int))) (by simp only; omega) (by simp only; omega) (by simp only; omega) (by simp [hasQ, hS, hb.2])
    omega
/-- the pairs of a list are those of the free ones who are friends -/
def AllQ (n : Nat) (t : Nat → Nat → Bool) (S : Nat → Bool) (ps : PL) : Prop := ∀ x y, x < y → y < n → S x = true → S y = true → (t x y = true ↔ ((x : Int), (y : Int)) ∈ ps)
theorem dP_mP {t : Nat → Nat → Bool} {n : Nat} : ∀ (k f : Nat) (told : PL) (S : Nat → Bool) (ps : PL), k ≤ f → cntQ n S 0 = 2 * k → ps.Pairwise plt → FromQ n 0 ps → AllQ n t S ps → dP t n f told S = mP ps k told S
  | 0, f, told, S, ps, hf, hc, hs, hr, ha => by
    rw [mP_zero, dP_none (cntQ_none (by omega))]
  | k + 1, f, told, S, ps, hf, hc, hs, hr, ha => by
    obtain ⟨f, rfl⟩ : ∃ i, f = i + 1 := ⟨f - 1, by omega⟩
    obtain ⟨a, e, han, hSa, hlow⟩ := leastQ_some (n := n) (S := S) (by omega)
    -- the program's way over what is left of the pairs
    have walk : ∀ r : PL, r.Pairwise plt → FromQ n 0 r → (∀ x y, x ≠ a → x < y → y < n → S x = true → S y = true → (t x y = true ↔ ((x : Int), (y : Int)) ∈ r)) →
        mP r (k + 1) told S = (r.filter fun q => decide (q.1 = (a : Int)) && S q.2.toNat).flatMap fun q => dP t n f (told ++ [q]) (cutQ S q) := by
      intro r
      induction r with
      | nil => intro _ _ _; rfl
      | cons q r ih =>
        intro hs hr ha
        have hq := hr q (List.mem_cons_self ..)
        have hss := List.pairwise_cons.1 hs
        rcases Int.lt_trichotomy q.1 (a : Int) with hlt | heq | hgt
        · have hno : S q.1.toNat = false := hlow _ (by omega)
          rw [mP_cons, if_neg (by simp [hasQ, hno]), List.nil_append, List.filter_cons_of_neg (by simp; intro h; omega)]
          refine ih hss.2 hr.tail fun x y hxa hxy hy hSx hSy => (ha x y hxa hxy hy hSx hSy).trans ⟨fun h => ?_, fun h => List.mem_cons_of_mem _ h⟩
          rcases List.mem_cons.1 h with rfl | h
          · simp only [Int.toNat_natCast] at hno
            rw [hno] at hSx; cases hSx
          · exact h
        · have ha' : ∀ x y, x ≠ a → x < y → y < n → S x = true → S y = true → (t x y = true ↔ ((x : Int), (y : Int)) ∈ r) := fun x y hxa hxy hy hSx hSy => (ha x y hxa hxy hy hSx hSy).trans ⟨fun h => by
            rcases List.mem_cons.1 h with rfl | h
            · exact absurd (show x = a from by have : (x : Int) = (a : Int) := heq; omega) hxa
            · exact h, fun h => List.mem_cons_of_mem _ h⟩
          have hrest := ih hss.2 hr.tail ha'
          have h1 : S q.1.toNat = true := by rw [heq]; simpa using hSa
          rw [mP_cons, hrest]
          by_cases h2 : S q.2.toNat = true
          · rw [if_pos (by simp [hasQ, h1, h2]), List.filter_cons_of_pos (by simp [heq, h2]), List.flatMap_cons]
            congr 1
            have hcut := cntQ_cut (n := n) (S := S) (a := 0) (q := q) hq.1 hq.2.1 hq.2.2 (by simp [hasQ, h1, h2])
            refine (dP_mP k f _ _ _ (by omega) (by omega) hss.2 hr.tail fun x y hxy hy hSx hSy => ?_).symm
            unfold cutQ at hSx hSy
            simp only [Bool.and_eq_true, Bool.not_eq_true', decide_eq_false_iff_not] at hSx hSy
            exact ha' x y (fun h => hSx.1.2 (by omega)) hxy hy hSx.1.1 hSy.1.1
          · rw [if_neg (by simp [hasQ, h2]), List.filter_cons_of_neg (by simp [h2]), List.nil_append]
        · have hz : mP (q :: r) (k + 1) told S = [] := by
            refine mP_prune hs hr ?_
            have h1 := cntQ_drop (n := n) (S := S) (a := 0) han (Nat.zero_le _) hSa
            have h2 : cntQ n S q.1.toNat ≤ cntQ n (fun y => S y && !decide (y = a)) 0 := by
              unfold cntQ
              refine List.countP_mono_left fun x _ hx => ?_
              simp only [Bool.and_eq_true, decide_eq_true_eq] at hx
              simp only [Nat.zero_le, decide_true, Bool.true_and, hx.2, Bool.not_eq_true', decide_eq_false_iff_not]
              omega
            omega
          rw [hz]
          symm
          rw [List.flatMap_eq_nil_iff]
          intro x hx
          exfalso
          rw [List.mem_filter] at hx
          simp only [Bool.and_eq_true, decide_eq_true_eq] at hx
          rcases List.mem_cons.1 hx.1 with rfl | h
          · omega
          · have := hss.1 x h
            unfold plt at this
            omega
    rw [walk ps hs hr fun x y _ hxy hy hSx hSy => ha x y hxy hy hSx hSy]
    rw [dP_some e]
    have hlist : (ps.filter fun q => decide (q.1 = (a : Int)) && S q.2.toNat) = ((List.range n).filter fun b => decide (a < b) && t a b && S b).map fun (b : Nat) => ((a : Int), (b : Int)) := by
      refine sorted_ext (hs.filter _) ?_ fun q => ?_
      · rw [List.pairwise_map]
        exact (List.pairwise_lt_range.filter _).imp fun {x y} h => Or.inr ⟨rfl, Int.ofNat_lt.2 h⟩
      · simp only [List.mem_filter, List.mem_map, Bool.and_eq_true, decide_eq_true_eq, List.mem_range]
        constructor
        · rintro ⟨hm, h1, h2⟩
          have h3 := hr q hm
          obtain ⟨b, hb⟩ : ∃ b : Nat, q.2 = b := ⟨q.2.toNat, by omega⟩
          have hqe : q = ((a : Int), (b : Int)) := by rw [← h1, ← hb]
          rw [hb, Int.toNat_natCast] at h2
          exact ⟨b, ⟨by omega, ⟨⟨by omega, (ha a b (by omega) (by omega) hSa h2).2 (hqe ▸ hm)⟩, h2⟩⟩, hqe.symm⟩
        · rintro ⟨b, ⟨hb, ⟨hab, ht⟩, hS⟩, rfl⟩
          exact ⟨(ha a b hab hb hSa hS).1 ht, rfl, by simpa using hS⟩
    rw [hlist, List.flatMap_map]
/-- the model's loop over the friends below j of the least free person -/
def dTo (t : Nat → Nat → Bool) (f n a : Nat) (told : PL) (S : Nat → Bool) (j : Nat) : List PL :=
  ((List.range j).filter fun b => decide (a < b) && t a b && S b).flatMap fun (b : Nat) => dP t n f (told ++ [((a : Int), (b : Int))]) (cutQ S ((a : Int), (b : Int)))
theorem dTo_start {t : Nat → Nat → Bool} {f n a : Nat} {told : PL} {S : Nat → Bool} : dTo t f n a told S (a + 1) = [] := by
  unfold dTo
  rw [List.flatMap_eq_nil_iff]
  intro b hb
  simp only [List.mem_filter, List.mem_range, Bool.and_eq_true, decide_eq_true_eq] at hb
  omega
theorem dTo_yes {t : Nat → Nat → Bool} {f n a j : Nat} {told : PL} {S : Nat → Bool} (ha : a < j) (ht : t a j = true) (hS : S j = true) : dTo t f n a told S (j + 1) = dTo t f n a told S j ++ dP t n f (told ++ [((a : Int), (j : Int))]) (cutQ S ((a : Int), (j : Int))) := by
  unfold dTo
  rw [List.range_succ, List.filter_append, List.flatMap_append]
  simp [ha, ht, hS]
theorem dTo_no {t : Nat → Nat → Bool} {f n a j : Nat} {told : PL} {S : Nat → Bool} (h : (t a j && S j) = false) : dTo t f n a told S (j + 1) = dTo t f n a told S j := by
  unfold dTo
  rw [List.range_succ, List.filter_append, List.flatMap_append]
  have : (decide (a < j) && t a j && S j) = false := by rw [Bool.and_assoc, h, Bool.and_false]
  simp [this]
theorem dTo_all {t : Nat → Nat → Bool} {f n a : Nat} {told : PL} {S : Nat → Bool} (h : leastQ n S = some a) : dP t n (f + 1) told S = dTo t f n a told S n := dP_some h
/-- who is done, behind a pair -/
theorem cutQ_done {S : Nat → Bool} {a b x : Nat} : (!cutQ S ((a : Int), (b : Int)) x) = (!S x || decide (x = a) || decide (x = b)) := by
  rw [cutQ_at]
  cases S x <;> simp
/-- the first of the lists that have come, where so many came before -/
def firstQ (fst : PL) (cnt : Nat) (xs : List PL) : PL := if cnt = 0 then xs.headD fst else fst
theorem firstQ_nil (fst : PL) (cnt : Nat) : firstQ fst cnt [] = fst := by unfold firstQ; split <;> rfl
theorem firstQ_append (fst : PL) (cnt : Nat) (xs ys : List PL) : firstQ (firstQ fst cnt xs) (cnt + xs.length) ys = firstQ fst cnt (xs ++ ys) := by
  unfold firstQ
  by_cases h : cnt = 0
  · subst h
    cases xs with
    | nil => simp
    | cons x xs => simp
  · simp [h]
end Go.Proofs.Ytkiobefojckocaa
/-
  LISTS OF PEOPLE WHO ARE TIED, TWO AND TWO, as plain lists; sets of people as numbers of sixteen bits. Nothing here speaks of the program.
-/
namespace Go.Proofs.Ytkiobefojckocaa
open Go.RowKit

/-- the lists of so many more of the candidates behind those told, in order; every candidate is tied to all told -/
def listsC (t : Nat → Nat → Bool) : Nat → List Int → List Nat → List (List Int)
  | 0, told, _ => [told]
  | _ + 1, _, [] => []
  | k + 1, told, a :: cs => listsC t k (told ++ [(a : Int)]) (cs.filter (t a)) ++ listsC t (k + 1) told cs
termination_by k _ cs => (k, cs.length)
theorem listsC_zero (t : Nat → Nat → Bool) (told : List Int) (cs : List Nat) : listsC t 0 told cs = [told] := by cases cs <;> simp [listsC]
theorem listsC_nil (t : Nat → Nat → Bool) (k : Nat) (told : List Int) : listsC t (k + 1) told [] = [] := by simp [listsC]
theorem listsC_cons (t : Nat → Nat → Bool) (k : Nat) (told : List Int) (a : Nat) (cs : List Nat) :
    listsC t (k + 1) told (a :: cs) = listsC t k (told ++ [(a : Int)]) (cs.filter (t a)) ++ listsC t (k + 1) told cs := by rw [listsC]

/-- a number's bits are those of a rising list -/
structure IsSet (J : Nat) (cs : List Nat) : Prop where
  up : cs.Pairwise (· < ·)
  lt : ∀ b ∈ cs, b < 16
  mem : ∀ b, J.testBit b = true ↔ b ∈ cs
theorem IsSet.small {J : Nat} {cs : List Nat} (h : IsSet J cs) : J < 65536 := by
  refine Nat.lt_pow_two_of_testBit (n := 16) J fun i hi => ?_
  cases e : J.testBit i with
  | false => rfl
  | true => have := h.lt i ((h.mem i).1 e); omega
theorem IsSet.zero {J : Nat} (h : IsSet J []) : J = 0 := by
  refine Nat.eq_of_testBit_eq fun i => ?_
  rw [Nat.zero_testBit]
  cases e : J.testBit i with
  | false => rfl
  | true => have := (h.mem i).1 e; simp at this
theorem IsSet.pos {J a : Nat} {cs : List Nat} (h : IsSet J (a :: cs)) : J ≠ 0 := by
  intro e
  have := (h.mem a).2 List.mem_cons_self
  rw [e, Nat.zero_testBit] at this
  cases this
theorem IsSet.least {J a : Nat} {cs : List Nat} (h : IsSet J (a :: cs)) : Lib.ctz 16 J = a := by
  have hp := h.pos
  have hs := h.small
  obtain ⟨m, hm, hk⟩ := Lib.ctzFrom_spec 16 J (by omega) hs
  have e : Lib.ctz 16 J = Lib.ctzFrom 16 J := by simp [Lib.ctz, hp]
  rw [e]
  generalize Lib.ctzFrom 16 J = c at *
  have hb : ∀ b, J.testBit b = (decide (c ≤ b) && (2 * m + 1).testBit (b - c)) := fun b => by rw [hm, Nat.testBit_two_pow_mul]
  have h1 : J.testBit c = true := by rw [hb]; simp
  have h2 := (h.mem c).1 h1
  have h3 := (h.mem a).2 List.mem_cons_self
  rw [hb] at h3
  have h4 : c ≤ a := by simp only [Bool.and_eq_true, decide_eq_true_eq] at h3; exact h3.1
  rcases List.mem_cons.1 h2 with h5 | h5
  · exact h5
  · have := (List.pairwise_cons.1 h.up).1 c h5
    omega
theorem bit_off : ∀ a : Fin 16, ∀ b : Fin 16, (65535 - 2 ^ a.val).testBit b.val = decide (b.val ≠ a.val) := by decide
theorem IsSet.tail {J a : Nat} {cs : List Nat} (h : IsSet J (a :: cs)) : IsSet (J &&& (65535 - 2 ^ a)) cs := by
  have ha := h.lt a List.mem_cons_self
  have hp := List.pairwise_cons.1 h.up
  refine ⟨hp.2, fun b hb => h.lt b (List.mem_cons_of_mem _ hb), fun b => ?_⟩
  rw [Nat.testBit_and, Bool.and_eq_true, h.mem, List.mem_cons]
  constructor
  · rintro ⟨h1, h2⟩
    rcases h1 with rfl | h1
    · have := bit_off ⟨b, ha⟩ ⟨b, ha⟩
      simp only [ne_eq, not_true_eq_false, decide_false] at this
      rw [this] at h2
      cases h2
    · exact h1
  · intro hb
    have hb16 := h.lt b (List.mem_cons_of_mem _ hb)
    have := hp.1 b hb
    refine ⟨.inr hb, ?_⟩
    rw [bit_off ⟨a, ha⟩ ⟨b, hb16⟩]
    simp only [ne_eq, decide_eq_true_eq]
    omega
theorem IsSet.inter {J T : Nat} {cs : List Nat} {f : Nat → Bool} (h : IsSet J cs) (hT : ∀ b, b < 16 → T.testBit b = f b) : IsSet (J &&& T) (cs.filter f) := by
  refine ⟨h.up.filter _, fun b hb => h.lt b (List.mem_filter.1 hb).1, fun b => ?_⟩
  rw [Nat.testBit_and, Bool.and_eq_true, h.mem, List.mem_filter]
  constructor
  · rintro ⟨h1, h2⟩
    rw [hT b (h.lt b h1)] at h2
    exact ⟨h1, h2⟩
  · rintro ⟨h1, h2⟩
    exact ⟨h1, by rw [hT b (h.lt b h1)]; exact h2⟩
theorem IsSet.people {n : Nat} (hn : n ≤ 16) : IsSet (2 ^ n - 1) (List.range n) := by
  refine ⟨List.pairwise_lt_range, fun b hb => by have := List.mem_range.1 hb; omega, fun b => ?_⟩
  rw [Nat.testBit_two_pow_sub_one, decide_eq_true_eq, List.mem_range]
end Go.Proofs.Ytkiobefojckocaa
/-
  Who is free, as a set of bits: pure.
-/
namespace Go.Proofs.Ytkiobefojckocaa

/-- who is free, by the bits -/
def bitsQ (J : Nat) : Nat → Bool := fun x => J.testBit x
theorem sub_bit {T x : Nat} (hT : T < 65536) : (65535 - T).testBit x = (decide (x < 16) && !T.testBit x) := by
  rw [show 65535 - T = 2 ^ 16 - (T + 1) by omega]
  exact Nat.testBit_two_pow_sub_succ (by simpa using hT) x
theorem both_lt {a b : Nat} (ha : a < 16) (hb : b < 16) : 2 ^ a ||| 2 ^ b < 65536 := by
  have h1 : 2 ^ a < 2 ^ 16 := Nat.pow_lt_pow_right (by omega) ha
  have h2 : 2 ^ b < 2 ^ 16 := Nat.pow_lt_pow_right (by omega) hb
  exact Nat.or_lt_two_pow (n := 16) h1 h2
theorem both_bit {a b x : Nat} : (2 ^ a ||| 2 ^ b).testBit x = (decide (x = a) || decide (x = b)) := by
  rw [Nat.testBit_or, Nat.testBit_two_pow, Nat.testBit_two_pow]
  rw [show decide (a = x) = decide (x = a) from decide_eq_decide.2 eq_comm, show decide (b = x) = decide (x = b) from decide_eq_decide.2 eq_comm]
theorem has_both {J a b : Nat} : J &&& (2 ^ a ||| 2 ^ b) = 2 ^ a ||| 2 ^ b ↔ hasQ (bitsQ J) ((a : Int), (b : Int)) = true := by
  unfold hasQ bitsQ
  simp only [Int.toNat_natCast, Bool.and_eq_true]
  constructor
  · intro h
    have h1 := congrArg (fun z => Nat.testBit z a) h
    have h2 := congrArg (fun z => Nat.testBit z b) h
    simp only [Nat.testBit_and, both_bit] at h1 h2
    simp at h1 h2
    exact ⟨h1, h2⟩
  · rintro ⟨h1, h2⟩
    apply Nat.eq_of_testBit_eq
    intro x
    rw [Nat.testBit_and, both_bit]
    by_cases hxa : x = a
    · subst hxa; simp [h1]
    · by_cases hxb : x = b
      · subst hxb; simp [h2]
      · simp [hxa, hxb]
theorem cut_both {J a b : Nat} (hJ : J < 65536) (ha : a < 16) (hb : b < 16) : bitsQ (J &&& (65535 - (2 ^ a ||| 2 ^ b))) = cutQ (bitsQ J) ((a : Int), (b : Int)) := by
  funext x
  rw [cutQ_at]
  unfold bitsQ
  rw [Nat.testBit_and, sub_bit (both_lt ha hb), both_bit]
  by_cases hx : x < 16
  · simp [hx, Bool.and_assoc]
  · have : J.testBit x = false := Nat.testBit_lt_two_pow (Nat.lt_of_lt_of_le hJ (by
      rw [show (65536 : Nat) = 2 ^ 16 from rfl]
      exact Nat.pow_le_pow_right (by omega) (by omega)))
    simp [this]
theorem cut_few {J n : Nat} (hJ : ∀ x, J.testBit x = true → x < n) (T : Nat) : ∀ x, (J &&& T).testBit x = true → x < n := by
  intro x hx
  rw [Nat.testBit_and, Bool.and_eq_true] at hx
  exact hJ x hx.1
/-- those from a on, as a set of bits -/
theorem above_set {J n a : Nat} (hn : n ≤ 12) (ha : a < n) (hJ : ∀ x, J.testBit x = true → x < n) : IsSet (J &&& (65535 - (2 ^ a - 1))) ((List.range n).filter fun x => decide (a ≤ x) && bitsQ J x) := by
  have h2 : 2 ^ a < 2 ^ 16 := Nat.pow_lt_pow_right (by omega) (by omega)
  have h3 : 2 ^ a - 1 < 65536 := by have : (2 : Nat) ^ 16 = 65536 := rfl; omega
  refine ⟨List.pairwise_lt_range.filter _, fun b hb => ?_, fun b => ?_⟩
  · have := List.mem_range.1 (List.mem_filter.1 hb).1
    omega
  · rw [Nat.testBit_and, sub_bit h3, Nat.testBit_two_pow_sub_one, List.mem_filter, List.mem_range]
    unfold bitsQ
    simp only [Bool.and_eq_true, decide_eq_true_eq, Bool.not_eq_true', decide_eq_false_iff_not]
    constructor
    · rintro ⟨h1, h4, h5⟩
      exact ⟨hJ b h1, by omega, h1⟩
    · rintro ⟨h1, h4, h5⟩
      exact ⟨h5, by omega, by omega⟩
theorem above_len {J n a : Nat} : ((List.range n).filter fun x => decide (a ≤ x) && bitsQ J x).length = cntQ n (bitsQ J) a := by
  unfold cntQ
  rw [List.countP_eq_length_filter]
theorem bits_small {J n : Nat} (hn : n ≤ 12) (hJ : ∀ x, J.testBit x = true → x < n) : J < 65536 := Nat.lt_pow_two_of_testBit (n := 16) J fun i hi => by
  cases e : J.testBit i with
  | false => rfl
  | true => have := hJ i e; omega
theorem mP_len : ∀ (ps : PL) (k : Nat) (told : PL) (S : Nat → Bool), ∀ q ∈ mP ps k told S, q.length = told.length + k
  | [], k, told, S, q, hq => by
    cases k with
    | zero => rw [mP_zero] at hq; simp at hq; rw [hq]; rfl
    | succ k => rw [mP_nil] at hq; cases hq
  | p :: ps, k, told, S, q, hq => by
    cases k with
    | zero => rw [mP_zero] at hq; simp at hq; rw [hq]; rfl
    | succ k =>
      rw [mP_cons, List.mem_append] at hq
      rcases hq with hq | hq
      · split at hq
        · have := mP_len ps k _ _ q hq
          rw [List.length_append] at this
          simp at this
          omega
        · cases hq
      · exact mP_len ps (k + 1) told S q hq
end Go.Proofs.Ytkiobefojckocaa
/-
  A RANGE OVER AN ITERATOR THAT WRITES CELLS OF ITS OWN BETWEEN TWO ROUNDS (and whose rounds read them): the contract of such an iterator ('Seq'), and the law of the statement. Nothing here speaks of the program.
-/
namespace Go.Proofs.Ytkiobefojckocaa
open Go.RowKit

/-- What lay is as it lay, but for blocks of S. -/
structure Apart (S : Nat → Prop) (A C : World) : Prop where
  below : Below 0 A C
  same : ∀ j, j < A.heap.size → ¬ S j → C.heap[j]? = A.heap[j]?
/-- The blocks of S are as they were. -/
structure Stays (S : Nat → Prop) (A C : World) : Prop where
  below : Below 0 A C
  same : ∀ j, j < A.heap.size → S j → C.heap[j]? = A.heap[j]?
theorem Apart.refl (S : Nat → Prop) (A : World) : Apart S A A := ⟨Below.refl _ _, fun _ _ _ => rfl⟩
theorem Apart.mono {S S' : Nat → Prop} {A C : World} (h : Apart S A C) (hS : ∀ j, S j → S' j) : Apart S' A C := ⟨h.below, fun j hj hn => h.same j hj fun hs => hn (hS j hs)⟩
theorem Stays.mono {S S' : Nat → Prop} {A C : World} (h : Stays S A C) (hS : ∀ j, S' j → S j) : Stays S' A C := ⟨h.below, fun j hj hs => h.same j hj (hS j hs)⟩
theorem Stays.refl (S : Nat → Prop) (A : World) : Stays S A A := ⟨Below.refl _ _, fun _ _ _ => rfl⟩
theorem Stays.trans {S : Nat → Prop} {A C D : World} (h : Stays S A C) (k : Stays S C D) : Stays S A D :=
  ⟨h.below.trans k.below, fun j hj hs => (k.same j (Nat.lt_of_lt_of_le hj h.below.size) hs).trans (h.same j hj hs)⟩
theorem Apart.trans {S S' : Nat → Prop} {A C D : World} (h : Apart S A C) (k : Apart S' C D) (hS : ∀ j, S' j → S j ∨ A.heap.size ≤ j) : Apart S A D :=
  ⟨h.below.trans k.below, fun j hj hn => (k.same j (Nat.lt_of_lt_of_le hj h.below.size) (fun hs => by rcases hS j hs with h' | h'; exact hn h'; omega)).trans (h.same j hj hn)⟩
theorem Apart.putObj (W : World) (l : Nat) (o : Obj) : Apart (fun j => j = l) W (W.putObj l o) :=
  ⟨(Below.refl 0 W).grown (grownBy_putObj' W l o) (Nat.zero_le _) (fun k _ => Nat.zero_le k), fun _ _ hn => World.putObj_heap_other hn⟩
theorem Apart.alloc (S : Nat → Prop) (W : World) (o : Obj) : Apart S W (W.alloc o) := ⟨(Below.refl 0 W).alloc (Nat.zero_le _) o, fun j hj _ => Below.heap_alloc W o j hj⟩
theorem Stays.alloc (S : Nat → Prop) (W : World) (o : Obj) : Stays S W (W.alloc o) := ⟨(Below.refl 0 W).alloc (Nat.zero_le _) o, fun j hj _ => Below.heap_alloc W o j hj⟩
theorem Stays.putObj {S : Nat → Prop} {l : Nat} (hl : ¬ S l) (W : World) (o : Obj) : Stays S W (W.putObj l o) :=
  ⟨(Below.refl 0 W).grown (grownBy_putObj' W l o) (Nat.zero_le _) (fun k _ => Nat.zero_le k), fun _ _ hs => World.putObj_heap_other fun e => hl (e ▸ hs)⟩
theorem Stays.setCell {S : Nat → Prop} {p : Addr} (hl : ¬ S p.block) (W : World) (u : Value) : Stays S W (W.setCell p u) :=
  ⟨(Below.refl 0 W).setCell (Nat.zero_le _) u, fun j _ hs => Below.heap_setCell W p u j fun e => hl (e ▸ hs)⟩
theorem Apart.grown {S : Nat → Prop} {W W' : World} {row : Option Nat} (hg : W.grownBy W' row) (h : ∀ k, row = some k → S k) : Apart S W W' :=
  ⟨(Below.refl 0 W).grown hg (Nat.zero_le _) (fun k _ => Nat.zero_le k), fun j hj hn => hg.block j hj fun e => hn (h j e.symm)⟩
theorem Stays.grown {S : Nat → Prop} {W W' : World} {row : Option Nat} (hg : W.grownBy W' row) (h : ∀ k, row = some k → ¬ S k) : Stays S W W' :=
  ⟨(Below.refl 0 W).grown hg (Nat.zero_le _) (fun k _ => Nat.zero_le k), fun j hj hs => hg.block j hj fun e => h j e.symm hs⟩
theorem Stays.of_below {S : Nat → Prop} {W W' : World} (h : Below W.heap.size W W') : Stays S W W' := ⟨h.mono (Nat.zero_le _), fun j hj _ => h.block j hj⟩
theorem Apart.of_below {S : Nat → Prop} {W W' : World} (h : Below W.heap.size W W') : Apart S W W' := ⟨h.mono (Nat.zero_le _), fun j hj _ => h.block j hj⟩
theorem Apart.cell {S : Nat → Prop} {A C : World} (h : Apart S A C) {p : Addr} {v : Value} (hc : A.cell? p = some v) (hn : ¬ S p.block) : C.cell? p = some v :=
  (World.cell?_of_block (h.same p.block (World.block_lt_of_cell? A p hc) hn)).trans hc
theorem Apart.frozen {S : Nat → Prop} {A C : World} (h : Apart S A C) {p : Addr} {v : Value} (hc : A.cell? p = some v) (hn : ¬ S p.block) : C.frozen? p = A.frozen? p :=
  World.frozen?_of_block (h.same p.block (World.block_lt_of_cell? A p hc) hn)
theorem Stays.cell {S : Nat → Prop} {A C : World} (h : Stays S A C) {p : Addr} {v : Value} (hc : A.cell? p = some v) (hn : S p.block) : C.cell? p = some v :=
  (World.cell?_of_block (h.same p.block (World.block_lt_of_cell? A p hc) hn)).trans hc
theorem Apart.below_of {S : Nat → Prop} {A C : World} (h : Apart S A C) {B : Nat} (hB : B ≤ A.heap.size) (hS : ∀ j, S j → B ≤ j) : Below B A C :=
  ⟨h.below.os, h.below.tape, h.below.output, h.below.size, fun k hk => h.same k (by omega) fun hs => by have := hS k hs; omega⟩

theorem roundIn_any {m m' : Nat} {P : Program} {l : Nat} {f : FuncId} {tmps : Array Value} {assign body : Code} {w : World} {R : Ending → World → Prop}
    (h : RoundIn Fence.wide m P l f tmps assign body w R) : RoundIn Fence.wide m' P l f tmps assign body w R := ⟨h.1, fun c cs _ => h.2 c cs (room_wide _)⟩
theorem yield_any {m m' : Nat} {P : Program} {l : Nat} {args : Array Value} {W : World} {R : Ending → World → Prop} (h : YieldAt Fence.wide m P l args W R) : YieldAt Fence.wide m' P l args W R := by
  obtain ⟨fn, tmps, assign, body, hy, hR⟩ := h
  exact ⟨fn, tmps, assign, body, hy, roundIn_any hR⟩

/-- What is held between two rounds abides whatever turns blocks that are not the holder's own. -/
def Held {α : Type} (J : (Nat → Prop) → List α → World → Prop) : Prop :=
  ∀ T T' pre A C, J T pre A → Apart T A C → (∀ j, T' j → T j ∨ (A.heap.size ≤ j ∧ j < C.heap.size)) → J T' pre C

/-- THE ITERATOR's CONTRACT: all of xs come, one after the other; or a round has said 'no more' behind some of them. 'Rd T x args W': what a round is handed, and what it may read of the iterator's own blocks T; R: other blocks that a round keeps. -/
def Seq {α : Type} (P : Program) (g : Nat) (lb : Array Value) (R : Nat → Prop) (Rd : (Nat → Prop) → α → Array Value → World → Prop) (xs : List α) (w0 : World) : Prop :=
  ∀ (l : Nat) (J Jx : (Nat → Prop) → List α → World → Prop) (W : World), Below w0.heap.size w0 W → Held J →
    (∀ T pre x args W1, J T pre W1 → Rd T x args W1 → pre ++ [x] <+: xs → YieldAt Fence.wide 0 P l args W1 fun e W' =>
      (e = .returned (.bool true) ∧ J T (pre ++ [x]) W' ∧ Stays (fun j => T j ∨ R j) W1 W') ∨ (e = .returned (.bool false) ∧ Jx T (pre ++ [x]) W')) →
    J (fun _ => False) [] W →
    Calls P g (#[.func (.yield l) #[] #[]] ++ lb) W fun e W' => (∃ v, e = .returned v) ∧ ((∃ T, J T xs W') ∨ (∃ T pre x, pre ++ [x] <+: xs ∧ Jx T (pre ++ [x]) W'))

/-- HOW THE BODY OF A ROUND MAY BE LEFT. -/
def iterPost {α : Type} (B : Nat) (S R : Nat → Prop) (I : (Nat → Prop) → List α → World → Prop) (Ix : Code → List α → World → Prop) (xs : List α) (W : World) : Exit → Act → World → Prop
  | .normal, _, W' => Stays (fun j => S j ∨ R j) W W' ∧ I S xs W'
  | .ret, _, W' => Stays (fun j => B ≤ j ∧ j ≤ B + 1) W W' ∧ Ix .ret xs W'
  | .exit id, _, W' => Stays (fun j => B ≤ j ∧ j ≤ B + 1) W W' ∧ Ix (.exit id) xs W'
  | .goto t, _, W' => Stays (fun j => B ≤ j ∧ j ≤ B + 1) W W' ∧ Ix (.goto t) xs W'
  | .panic _, _, _ => False
  | .outgrown, _, _ => False

variable {P : Program}
theorem wpIn_rangeFunc_iter {α : Type} {n : Nat} {g : Operand} {ps : Array Tmp} {assign body : Code} {Q : Exit → Act → World → Prop} {a : Act} {w : World}
    {gf : Nat} {lb : Array Value} (hg : a.eval g = .func (.func gf) #[] lb) (eg : ∀ args w, (callFunc gf args).run P w = .ok (.enter gf args) w)
    {R : Nat → Prop} {Rd : (Nat → Prop) → α → Array Value → World → Prop} {xs : List α} {w0 : World} (hseq : Seq P gf lb R Rd xs w0) (hb0 : Below w0.heap.size w0 w) (hR : ∀ j, R j → j < w.heap.size)
    (hRd : ∀ T x args A C, Rd T x args A → Stays T A C → Rd T x args C) (hps : ∀ T x args W, Rd T x args W → args.size = ps.size)
    (I : (Nat → Prop) → List α → World → Prop) (Ix : Code → List α → World → Prop) (hI : Held I) (hIx : ∀ c pre A C, Ix c pre A → Apart (fun j => j = w.heap.size + 1) A C → Ix c pre C)
    (h0 : I (fun _ => False) [] w) (a₁ : Array Value → Act)
    (hassign : ∀ (l : Nat) (T : Nat → Prop) (x : α) (args : Array Value) (W : World) (K : Act → World → Prop), Rd T x args W → K (a₁ args) W →
      assign.wpIn (Fence.wide.inRound l) n P (Exit.then K (fun _ _ _ => False)) { tmps := (ps.zip args).foldl (fun t (p, v) => t.setIfInBounds p v) a.tmps, defers := [] } W)
    (hbody : ∀ (l : Nat) (T S : Nat → Prop) (pre : List α) (x : α) (args : Array Value) (W : World), I S pre W → Rd T x args W → (∀ j, T j → S j) →
      body.wpIn (Fence.wide.inRound l) n P (iterPost w.heap.size S R I Ix (pre ++ [x]) W) (a₁ args) W)
    (hdone : ∀ (S : Nat → Prop) (W : World), I S xs W → W.heap[w.heap.size]? = some (.deferred (some [])) → Q .normal { a with defers := { target := .collected w.heap.size, args := #[] } :: a.defers } W)
    (hstop : ∀ (c : Code) (pre : List α) (x : α) (W : World), pre ++ [x] <+: xs → Ix c (pre ++ [x]) W → W.heap[w.heap.size]? = some (.deferred (some [])) → c.wpIn Fence.wide n P Q { a with defers := { target := .collected w.heap.size, args := #[] } :: a.defers } W) :
    (Code.rangeFunc g ps assign body).wpIn Fence.wide n P Q a w := by
  refine wpIn_rangeFunc ?_
  intro fn hfn
  rw [show Fence.wide.round = none from rfl]
  obtain ⟨rec, hrec⟩ : ∃ rec : LoopState → Option Code → Loop, rec = fun st pe => { state := st, pending := pe, fn, tmps := a.tmps, params := ps, assign, body, defers := w.heap.size } := ⟨_, rfl⟩
  obtain ⟨W1, hW1⟩ : ∃ W1, (w.alloc (.deferred (some []))).alloc (.loop (rec .ready none)) = W1 := ⟨_, rfl⟩
  have hL1 : W1.heap[w.heap.size + 1]? = some (.loop (rec .ready none)) := by
    rw [← hW1]; have := World.alloc_heap_new (w.alloc (.deferred (some []))) (.loop (rec .ready none)); rwa [World.size_alloc] at this
  have hK1 : W1.heap[w.heap.size]? = some (.deferred (some [])) := by
    rw [← hW1]; exact (Below.heap_alloc _ _ _ (by simp)).trans (World.alloc_heap_new w _)
  have hw1 : Below w.heap.size w W1 := by rw [← hW1]; exact (((Below.refl _ w).alloc (Nat.le_refl _) _).alloc (by simp) _)
  have hb1 : Below w0.heap.size w0 W1 := hb0.trans (hw1.mono hb0.size)
  have hz1 : W1.heap.size = w.heap.size + 2 := by rw [← hW1]; simp
  have hI1 : I (fun j => j = w.heap.size ∨ j = w.heap.size + 1) [] W1 := hI _ _ _ _ _ h0 (Apart.of_below hw1) (fun j hj => .inr (by omega))
  refine ⟨w.heap.size + 1, [{ target := .collected w.heap.size, args := #[] }], W1, { target := .fn (.func gf) lb, args := #[.func (.yield (w.heap.size + 1)) #[] #[]] }, W1, gf,
    #[.func (.yield (w.heap.size + 1)) #[] #[]] ++ lb, W1, ?_, ?_, ?_, ?_, fun h => (by cases h), ?_⟩
  · rw [← hW1, hrec]; exact run_enterLoop_outer _ _ _ _ _
  · simp only [resolve, hg]
    simp [go_sem]
  · intro f' hf'; trivial
  · simp [invoke, go_sem, eg]
  · refine callsIn_wide.2 ?_
    refine (hseq (w.heap.size + 1)
      (fun T pre W => I (fun j => T j ∨ j = w.heap.size ∨ j = w.heap.size + 1) pre W ∧ (∀ j, T j → w.heap.size + 2 ≤ j) ∧ W.heap[w.heap.size + 1]? = some (.loop (rec .ready none)) ∧ W.heap[w.heap.size]? = some (.deferred (some [])))
      (fun T pre W => ∃ c, Ix c pre W ∧ W.heap[w.heap.size + 1]? = some (.loop (rec .done (some c))) ∧ W.heap[w.heap.size]? = some (.deferred (some [])))
      W1 hb1 ?held ?round ⟨hI _ _ _ _ _ hI1 (Apart.refl _ _) (fun j hj => by rcases hj with h | h; exact h.elim; exact .inl h), fun j h => h.elim, hL1, hK1⟩).mono ?_
    case held =>
      rintro T T' pre A C ⟨hi, hT, hl, hk⟩ hA hT'
      have hlt : w.heap.size + 1 < A.heap.size := (Array.getElem?_eq_some_iff.1 hl).1
      refine ⟨hI _ _ _ _ _ hi (hA.mono fun j hj => .inl hj) (fun j hj => ?_), fun j hj => ?_, (hA.same _ hlt (fun h => by have := hT _ h; omega)).trans hl, (hA.same _ (by omega) (fun h => by have := hT _ h; omega)).trans hk⟩
      · rcases hj with hj | hj
        · rcases hT' j hj with h | h
          · exact .inl (.inl h)
          · exact .inr h
        · exact .inl (.inr hj)
      · rcases hT' j hj with h | h
        · exact hT j h
        · omega
    case round =>
      rintro T pre x args W ⟨hi, hT, hl, hk⟩ hrd _
      have hlt : w.heap.size + 1 < W.heap.size := (Array.getElem?_eq_some_iff.1 hl).1
      have hnT : ¬ T (w.heap.size + 1) := fun h => by have := hT _ h; omega
      have hnR : ¬ (T (w.heap.size + 1) ∨ R (w.heap.size + 1)) := fun h => by rcases h with h | h; exact hnT h; have := hR _ h; omega
      have hy := run_yield (P := P) (args := args) hl (by rw [hrec]; exact hps T x args W hrd)
      rw [hrec] at hy
      refine yield_any (m := n + 1) ⟨fn, _, assign, body, hy, roundIn_any (m := n) (roundIn_of_wpIn hfn (hassign _ T x args W _ hrd ⟨_, run_beginRound hl (by rw [hrec]), ?_⟩))⟩
      have hl2 : (W.putObj (w.heap.size + 1) (.loop { rec .ready none with state := .busy })).heap[w.heap.size + 1]? = some (.loop { rec .ready none with state := .busy }) := World.putObj_heap_same hlt
      have hk2 : (W.putObj (w.heap.size + 1) (.loop { rec .ready none with state := .busy })).heap[w.heap.size]? = some (.deferred (some [])) := (World.putObj_heap_other (by omega)).trans hk
      have hi2 := hI _ _ _ _ _ hi ((Apart.putObj W (w.heap.size + 1) (.loop { rec .ready none with state := .busy })).mono fun j hj => .inr (.inr hj)) (fun j hj => .inl hj)
      have hst := Stays.putObj (S := fun j => T j ∨ R j) hnR W (.loop { rec .ready none with state := .busy })
      have hlz := (Array.getElem?_eq_some_iff.1 hl2).1
      have hkz := (Array.getElem?_eq_some_iff.1 hk2).1
      refine wpIn_mono (hbody _ T _ pre x args _ hi2 (hRd _ _ _ _ _ hrd (hst.mono fun j hj => .inl hj)) fun j hj => .inl hj) ?_
      have fin : ∀ (jump : Option Code) (W3 : World), W3.heap[w.heap.size + 1]? = some (.loop { rec .ready none with state := .busy }) → W3.heap[w.heap.size]? = some (.deferred (some [])) →
          (Instr.endRound (w.heap.size + 1) jump).run P W3 = .ok (.bool jump.isNone) (W3.putObj (w.heap.size + 1) (.loop (rec (if jump.isNone then .ready else .done) jump))) ∧
          (W3.putObj (w.heap.size + 1) (.loop (rec (if jump.isNone then .ready else .done) jump))).heap[w.heap.size + 1]? = some (.loop (rec (if jump.isNone then .ready else .done) jump)) ∧
          (W3.putObj (w.heap.size + 1) (.loop (rec (if jump.isNone then .ready else .done) jump))).heap[w.heap.size]? = some (.deferred (some [])) := fun jump W3 hl3 hk3 => by
        have := run_endRound (P := P) jump hl3
        rw [hrec] at this ⊢
        exact ⟨this, World.putObj_heap_same (Array.getElem?_eq_some_iff.1 hl3).1, (World.putObj_heap_other (by omega)).trans hk3⟩
      rintro e a3 W3 hp
      cases e with
      | normal =>
        obtain ⟨hs3, hi3⟩ := hp
        have hl3 := (hs3.same (w.heap.size + 1) hlz (.inl (.inr (.inr rfl)))).trans hl2
        have hk3 := (hs3.same w.heap.size hkz (.inl (.inr (.inl rfl)))).trans hk2
        obtain ⟨hr, hl4, hk4⟩ := fin none W3 hl3 hk3
        refine ⟨_, _, hr, .inl ⟨rfl, ⟨hI _ _ _ _ _ hi3 ((Apart.putObj W3 _ _).mono fun j hj => .inr (.inr hj)) (fun j hj => .inl hj), hT, hl4, hk4⟩, ?_⟩⟩
        exact (hst.trans (hs3.mono fun j hj => hj.elim (fun h => .inl (.inl h)) .inr)).trans (Stays.putObj (S := fun j => T j ∨ R j) hnR W3 _)
      | ret =>
        obtain ⟨hs3, hi3⟩ := hp
        obtain ⟨hr, hl4, hk4⟩ := fin (some .ret) W3 ((hs3.same (w.heap.size + 1) hlz (by omega)).trans hl2) ((hs3.same w.heap.size hkz (by omega)).trans hk2)
        exact ⟨_, _, hr, .inr ⟨rfl, .ret, hIx _ _ _ _ hi3 (Apart.putObj W3 _ _), hl4, hk4⟩⟩
      | exit id =>
        obtain ⟨hs3, hi3⟩ := hp
        obtain ⟨hr, hl4, hk4⟩ := fin (some (.exit id)) W3 ((hs3.same (w.heap.size + 1) hlz (by omega)).trans hl2) ((hs3.same w.heap.size hkz (by omega)).trans hk2)
        exact ⟨_, _, hr, .inr ⟨rfl, .exit id, hIx _ _ _ _ hi3 (Apart.putObj W3 _ _), hl4, hk4⟩⟩
      | goto t =>
        obtain ⟨hs3, hi3⟩ := hp
        obtain ⟨hr, hl4, hk4⟩ := fin (some (.goto t)) W3 ((hs3.same (w.heap.size + 1) hlz (by omega)).trans hl2) ((hs3.same w.heap.size hkz (by omega)).trans hk2)
        exact ⟨_, _, hr, .inr ⟨rfl, .goto t, hIx _ _ _ _ hi3 (Apart.putObj W3 _ _), hl4, hk4⟩⟩
      | panic ch => exact hp.elim
      | outgrown => exact hp.elim
    · rintro e W2 ⟨⟨v, rfl⟩, (⟨T, hi, hT, hl, hk⟩ | ⟨T, pre, x, hpre, c, hi, hl, hk⟩)⟩
      · exact ⟨none, _, by have := run_endLoop (P := P) hl (by rw [hrec]; simp); rw [hrec] at this; exact this, hdone _ _ (hI _ _ _ _ _ hi ((Apart.putObj W2 _ _).mono fun j hj => .inr (.inr hj)) (fun j hj => .inl hj)) ((World.putObj_heap_other (by omega)).trans hk)⟩
      · exact ⟨some c, _, by have := run_endLoop (P := P) hl (by rw [hrec]; simp); rw [hrec] at this; exact this, hstop c pre x _ hpre (hIx _ _ _ _ hi (Apart.putObj W2 _ _)) ((World.putObj_heap_other (by omega)).trans hk)⟩
end Go.Proofs.Ytkiobefojckocaa
