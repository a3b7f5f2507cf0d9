/-
  Texts put together for the claims of 'Fall' (pack 1): Base, Said, Nums, Help, Mark, Lists, RowsG, RowsH, Pure, Pairs, TiedP, Good, Cmp, Got, Tab, Has, Own, Table.
-/
import Derived.WalkKit
import Derived.Handy
import Derived.Lib.Hide
import Derived.BigQuiet
import Derived.Laws.OwnMore
import Derived.Test.YtdlkfejcfnflmaaRows
import Derived.ProofKit
import Derived.OpenShut
import Derived.Deep.SlicePairs
import Derived.Lib.SmallJoins
import Derived.Test.YtdlkfejcfnflmaaProg
import Derived.Deep.RegionLaw
import Derived.Laws.BitsAllLaws
import Derived.Lib.TrailingZeros
import Derived.StillTailTactics
import Derived.Deep.RegionWith
import Derived.Deep.OwnRows
import Derived.ArgAppend
/-
  THE BASE OF THIS SEAT's TEXTS: lists of pairs and of numbers as cells; 'CRead': a slice that reads as a list of cells; 'Ext': the worlds that differ from one only above a block; regions that draw their order and whose calls make memory. Nothing here speaks of the program.
-/
namespace Go.Proofs.Ytdlkfejcfnflmaa
open Go.RowKit

/-! ## Lists as cells -/
abbrev PL := List (Int × Int)
def pcells : PL → List Value
  | [] => []
  | p :: l => .int .i64 p.1 :: .int .i64 p.2 :: pcells l
def icells (l : List Int) : List Value := l.map (Value.int .i64)
def bcells (l : List Bool) : List Value := l.map Value.bool

theorem pcells_length (l : PL) : (pcells l).length = l.length * 2 := by
  induction l with
  | nil => rfl
  | cons p l ih => simp only [pcells, List.length_cons, ih]; omega
theorem icells_length (l : List Int) : (icells l).length = l.length := by simp [icells]
theorem bcells_length (l : List Bool) : (bcells l).length = l.length := by simp [bcells]
theorem pcells_append (l m : PL) : pcells (l ++ m) = pcells l ++ pcells m := by
  induction l with
  | nil => rfl
  | cons p l ih => simp [pcells, ih]
theorem icells_append (l m : List Int) : icells (l ++ m) = icells l ++ icells m := by simp [icells]
theorem pcells_fst {l : PL} {k : Nat} {x y : Int} (h : l[k]? = some (x, y)) : (pcells l)[k * 2]? = some (.int .i64 x) := by
  induction l generalizing k with
  | nil => simp at h
  | cons p l ih =>
    cases k with
    | zero => simp at h; subst h; rfl
    | succ k => rw [show (k + 1) * 2 = k * 2 + 2 from by omega]; simpa [pcells] using ih (by simpa using h)
theorem pcells_snd {l : PL} {k : Nat} {x y : Int} (h : l[k]? = some (x, y)) : (pcells l)[k * 2 + 1]? = some (.int .i64 y) := by
  induction l generalizing k with
  | nil => simp at h
  | cons p l ih =>
    cases k with
    | zero => simp at h; subst h; rfl
    | succ k => rw [show (k + 1) * 2 + 1 = k * 2 + 1 + 2 from by omega]; simpa [pcells] using ih (by simpa using h)
theorem pcells_set (l : PL) (k : Nat) (x y : Int) : ((pcells l).set (k * 2) (.int .i64 x)).set (k * 2 + 1) (.int .i64 y) = pcells (l.set k (x, y)) := by
  induction l generalizing k with
  | nil => rfl
  | cons p l ih =>
    cases k with
    | zero => rfl
    | succ k =>
      rw [show (k + 1) * 2 = k * 2 + 2 from by omega, show k * 2 + 2 + 1 = k * 2 + 1 + 2 from by omega]
      simp [pcells, ih k]
theorem pcells_one (l : PL) : ∀ u ∈ pcells l, u.oneCell' = true := by
  induction l with
  | nil => intro u h; cases h
  | cons p l ih => intro u h; simp [pcells] at h; rcases h with rfl | rfl | h <;> first | rfl | exact ih u h
theorem icells_one (l : List Int) : ∀ u ∈ icells l, u.oneCell' = true := by
  intro u h
  obtain ⟨x, _, rfl⟩ := List.mem_map.1 h
  rfl
theorem icells_at {l : List Int} {k : Nat} {x : Int} (h : l[k]? = some x) : (icells l)[k]? = some (.int .i64 x) := by simp [icells, h]
theorem icells_set (l : List Int) (k : Nat) (x : Int) : (icells l).set k (.int .i64 x) = icells (l.set k x) := by simp [icells]
theorem bcells_at {l : List Bool} {k : Nat} {x : Bool} (h : l[k]? = some x) : (bcells l)[k]? = some (.bool x) := by simp [bcells, h]
theorem bcells_set (l : List Bool) (k : Nat) (x : Bool) : (bcells l).set k (.bool x) = bcells (l.set k x) := by simp [bcells]
theorem getSome {α : Type} (l : List α) (k : Nat) (h : k < l.length) : ∃ x, l[k]? = some x := ⟨l[k], List.getElem?_eq_getElem h⟩

/-! ## A slice that reads as a list of cells; its block lies below B -/
def CRead (w : World) (B : Nat) (ad : Option Addr) (xs : List Value) : Prop :=
  ∀ j u, xs[j]? = some u → ∃ b off, ad = some ⟨b, off, none⟩ ∧ b < B ∧ w.cell? ⟨b, off + j, none⟩ = some u
section
variable {w w' : World} {B B' : Nat} {ad : Option Addr} {xs : List Value}
theorem CRead.below (h : CRead w B ad xs) (hb : Below B' w w') (hB : B ≤ B') : CRead w' B ad xs := fun j u hu =>
  let ⟨b, off, e, hb', hc⟩ := h j u hu
  ⟨b, off, e, hb', (hb.cell (by show b < B'; omega)).trans hc⟩
theorem CRead.more (h : CRead w B ad xs) (hB : B ≤ B') : CRead w B' ad xs := fun j u hu =>
  let ⟨b, off, e, hb', hc⟩ := h j u hu
  ⟨b, off, e, by omega, hc⟩
theorem CRead.nil : CRead w B ad [] := fun j u hu => by simp at hu
theorem CRead.pair {l : PL} (h : CRead w B ad (pcells l)) {k : Nat} {x y : Int} (hk : l[k]? = some (x, y)) :
    ∃ b off, ad = some ⟨b, off, none⟩ ∧ b < B ∧ w.cell? ⟨b, off + k * 2, none⟩ = some (.int .i64 x) ∧ w.cell? ⟨b, off + k * 2 + 1, none⟩ = some (.int .i64 y) := by
  obtain ⟨b, off, rfl, hb, h0⟩ := h _ _ (pcells_fst hk)
  obtain ⟨b', off', e, _, h1⟩ := h _ _ (pcells_snd hk)
  simp only [Option.some.injEq, Addr.mk.injEq, and_true] at e
  obtain ⟨rfl, rfl⟩ := e
  exact ⟨b, off, rfl, hb, h0, h1⟩
theorem CRead.int {l : List Int} (h : CRead w B ad (icells l)) {k : Nat} {x : Int} (hk : l[k]? = some x) :
    ∃ b off, ad = some ⟨b, off, none⟩ ∧ b < B ∧ w.cell? ⟨b, off + k, none⟩ = some (.int .i64 x) := h _ _ (icells_at hk)
theorem CRead.of_own {base : Nat} {e : TypeId} {size n c : Nat} {A : Option Addr} (h : w.ownsRow base e size (.slice A n c) n xs) : CRead w w.heap.size A xs := by
  intro j u hu
  rcases h.2 with ⟨h', h0⟩ | ⟨g, cap, cur, h', hb, hg, hnc, hcm, hcs, htake⟩
  · have hx : xs = [] := List.eq_nil_of_length_eq_zero (by simpa [h0] using h.1)
    subst hx
    simp at hu
  · simp only [Value.slice.injEq] at h'
    obtain ⟨rfl, _, rfl⟩ := h'
    refine ⟨g, 0, rfl, (Array.getElem?_eq_some_iff.1 hg).1, ?_⟩
    rw [Nat.zero_add, cell_of_row w g j cur e (0, 0) hg]
    rw [← htake, List.getElem?_take] at hu
    split at hu
    · simpa using hu
    · cases hu
end

/-! ## What the call owns -/
section
variable {w w' : World} {base : Nat} {e : TypeId} {size n g cap : Nat} {v : Value} {xs : List Value}
theorem below_grownBy {B : Nat} (h : Below B w w') (hB : w.heap.size ≤ B) (row : Option Nat) : w.grownBy w' row := ⟨h.os, h.tape, h.output, h.size, fun k hk _ => h.block k (by omega)⟩
theorem own_below (h : w.ownsRow base e size v n xs) {B : Nat} (hb : Below B w w') (hB : w.heap.size ≤ B) : w'.ownsRow base e size v n xs :=
  h.kept (below_grownBy hb hB none) (by cases v.ownBlock <;> simp)
theorem own_lower (h : w.ownsRow base e size v n xs) {base' : Nat} (hb : base' ≤ base) : w.ownsRow base' e size v n xs := by
  refine ⟨h.1, ?_⟩
  rcases h.2 with h' | ⟨g, cap, cur, hv, hg, rest⟩
  · exact .inl h'
  · exact .inr ⟨g, cap, cur, hv, by omega, rest⟩
theorem own_lt (h : w.ownsRow base e size (.slice (some ⟨g, 0, none⟩) n cap) n xs) : base ≤ g ∧ g < w.heap.size := h.lt g rfl
/-- a new world, some blocks from B on written and some new ones -/
theorem below_set2 {B : Nat} {a : World} (h : Below B a w) (hg : B ≤ g) (i j : Nat) (x y : Value) : Below B a ((w.setCell ⟨g, i, none⟩ x).setCell ⟨g, j, none⟩ y) :=
  (h.setCell (p := ⟨g, i, none⟩) hg x).setCell (p := ⟨g, j, none⟩) hg y
theorem own_setPair {l : PL} (h : w.ownsRow base e 2 (.slice (some ⟨g, 0, none⟩) n cap) n (pcells l)) (k : Nat) (x y : Int) :
    ((w.setCell ⟨g, k * 2, none⟩ (.int .i64 x)).setCell ⟨g, k * 2 + 1, none⟩ (.int .i64 y)).ownsRow base e 2 (.slice (some ⟨g, 0, none⟩) n cap) n (pcells (l.set k (x, y))) := by
  rw [← pcells_set]
  exact ((h.stored (k * 2) (.int .i64 x)).1.stored (k * 2 + 1) (.int .i64 y)).1
theorem own_pairAt {l : PL} (h : w.ownsRow base e 2 (.slice (some ⟨g, 0, none⟩) n cap) n (pcells l)) {k : Nat} {x y : Int} (hk : l[k]? = some (x, y)) :
    w.cell? ⟨g, k * 2, none⟩ = some (.int .i64 x) ∧ w.cell? ⟨g, k * 2 + 1, none⟩ = some (.int .i64 y) := by
  have hl : l.length = n := by have := h.1; rw [pcells_length] at this; omega
  have hkl : k < l.length := (List.getElem?_eq_some_iff.1 hk).1
  exact ⟨(h.cellAt _ (by omega)).trans (pcells_fst hk), (h.cellAt _ (by omega)).trans (pcells_snd hk)⟩
theorem own_intAt {l : List Int} (h : w.ownsRow base e 1 (.slice (some ⟨g, 0, none⟩) n cap) n (icells l)) {k : Nat} {x : Int} (hk : l[k]? = some x) : w.cell? ⟨g, k, none⟩ = some (.int .i64 x) := by
  have hl : l.length = n := by have := h.1; rw [icells_length] at this; omega
  have hkl : k < l.length := (List.getElem?_eq_some_iff.1 hk).1
  exact (h.cellAt _ (by omega)).trans (icells_at hk)
theorem own_setInt {l : List Int} (h : w.ownsRow base e 1 (.slice (some ⟨g, 0, none⟩) n cap) n (icells l)) (k : Nat) (x : Int) :
    (w.setCell ⟨g, k, none⟩ (.int .i64 x)).ownsRow base e 1 (.slice (some ⟨g, 0, none⟩) n cap) n (icells (l.set k x)) := by
  rw [← icells_set]
  exact (h.stored k (.int .i64 x)).1
theorem own_boolAt {l : List Bool} (h : w.ownsRow base e 1 (.slice (some ⟨g, 0, none⟩) n cap) n (bcells l)) {k : Nat} {x : Bool} (hk : l[k]? = some x) : w.cell? ⟨g, k, none⟩ = some (.bool x) := by
  have hl : l.length = n := by have := h.1; rw [bcells_length] at this; omega
  have hkl : k < l.length := (List.getElem?_eq_some_iff.1 hk).1
  exact (h.cellAt _ (by omega)).trans (bcells_at hk)
theorem own_setBool {l : List Bool} (h : w.ownsRow base e 1 (.slice (some ⟨g, 0, none⟩) n cap) n (bcells l)) (k : Nat) (x : Bool) :
    (w.setCell ⟨g, k, none⟩ (.bool x)).ownsRow base e 1 (.slice (some ⟨g, 0, none⟩) n cap) n (bcells (l.set k x)) := by
  rw [← bcells_set]
  exact (h.stored k (.bool x)).1
theorem made_pairs (n : Nat) : (madeCells #[.int .i64 0, .int .i64 0] (n * 2)).toList = pcells (List.replicate n (0, 0)) := by
  have hp : ∀ m j, (pcells (List.replicate m (0, 0)))[j]? = if j < m * 2 then some (.int .i64 0) else none := by
    intro m
    induction m with
    | zero => intro j; simp [pcells]
    | succ m ih =>
      intro j
      match j with
      | 0 => simp [List.replicate_succ, pcells]
      | 1 => simp [List.replicate_succ, pcells]; omega
      | j + 2 =>
        simp only [List.replicate_succ, pcells, List.getElem?_cons_succ, ih j]
        congr 1
        apply propext
        omega
  apply List.ext_getElem?
  intro j
  rw [hp]
  by_cases hj : j < n * 2
  · rw [if_pos hj]
    rcases Nat.mod_two_eq_zero_or_one j with h | h <;> simp [madeCells, hj, h]
  · rw [if_neg hj]
    simp [madeCells, hj]
theorem made_ints (n : Nat) : (madeCells #[.int .i64 0] (n * 1)).toList = icells (List.replicate n 0) := by rw [Nat.mul_one, toList_madeCells_one]; simp [icells]
theorem made_bools (n : Nat) : (madeCells #[.bool false] (n * 1)).toList = bcells (List.replicate n false) := by rw [Nat.mul_one, toList_madeCells_one]; simp [bcells]
end

theorem gb_trans {a b c : World} {row : Option Nat} (h : a.grownBy b row) (k : b.grownBy c row) : a.grownBy c row :=
  ⟨k.os.trans h.os, k.tape.trans h.tape, k.output.trans h.output, Nat.le_trans h.size k.size, fun i hi hne => (k.block i (Nat.lt_of_lt_of_le hi h.size) hne).trans (h.block i hi hne)⟩
theorem gb_below {a b c : World} {row : Option Nat} {B : Nat} (h : a.grownBy b row) (k : Below B b c) (hB : a.heap.size ≤ B) : a.grownBy c row :=
  ⟨k.os.trans h.os, k.tape.trans h.tape, k.output.trans h.output, Nat.le_trans h.size k.size, fun i hi hne => (k.block i (by omega)).trans (h.block i hi hne)⟩
theorem below_gb {a b c : World} {row : Option Nat} {B : Nat} (h : Below B a b) (k : b.grownBy c row) (hB : a.heap.size ≤ B) : a.grownBy c row :=
  ⟨k.os.trans h.os, k.tape.trans h.tape, k.output.trans h.output, Nat.le_trans h.size k.size, fun i hi hne => (k.block i (Nat.lt_of_lt_of_le hi h.size) hne).trans (h.block i (by omega))⟩

theorem below_of_gb {w w' : World} (h : w.grownBy w' none) {B : Nat} (hB : B ≤ w.heap.size) : Below B w w' := (Below.refl _ _).grown h hB (by simp)

/-- Behind a call that only makes memory: the rules by which the walk reads old cells. -/
theorem old_cells {B : Nat} {W w1 : World} (hb : Below B W w1) : (∀ b o, b < B → w1.cell? ⟨b, o, none⟩ = W.cell? ⟨b, o, none⟩) ∧ (∀ b o, b < B → w1.frozen? ⟨b, o, none⟩ = W.frozen? ⟨b, o, none⟩) :=
  ⟨fun b o h => hb.cell (p := ⟨b, o, none⟩) h, fun b o h => hb.frozen (p := ⟨b, o, none⟩) h⟩

theorem own_far {w : World} {base : Nat} {e : TypeId} {size n g cap : Nat} {xs : List Value} (h : w.ownsRow base e size (.slice (some ⟨g, 0, none⟩) n cap) n xs) {p : Addr} (hp : p.block ≠ g) (u : Value) :
    (w.setCell p u).ownsRow base e size (.slice (some ⟨g, 0, none⟩) n cap) n xs := by
  rcases h.2 with ⟨h', _⟩ | ⟨g', cap', cur, h', hb, hg, rest⟩
  · simp at h'
  · simp only [Value.slice.injEq, Option.some.injEq, Addr.mk.injEq, and_true, true_and] at h'
    obtain ⟨rfl, rfl⟩ := h'
    exact ⟨h.1, .inr ⟨g, cap, cur, rfl, hb, by rw [Below.heap_setCell _ _ _ _ (Ne.symm hp)]; exact hg, rest⟩⟩

/-! ## Marks -/
def marks (k : Int) (n : Nat) : PL := (List.range n).map fun i : Nat => (k + 2 * (i : Int), k + 2 * (i : Int) + 1)
def imarks (k : Int) (n : Nat) : List Int := (List.range n).map fun i : Nat => k + (i : Int)
theorem marks_length (k : Int) (n : Nat) : (marks k n).length = n := by simp [marks]
theorem imarks_length (k : Int) (n : Nat) : (imarks k n).length = n := by simp [imarks]
theorem marks_at {k : Int} {n i : Nat} (h : i < n) : (marks k n)[i]? = some (k + 2 * i, k + 2 * i + 1) := by simp [marks, h]
theorem imarks_at {k : Int} {n i : Nat} (h : i < n) : (imarks k n)[i]? = some (k + i) := by simp [imarks, h]
theorem take_set_drop {α : Type} (m l : List α) (n k : Nat) (x : α) (hm : m.length = n) (hn : l.length = n) (hx : m[k]? = some x) :
    (m.take k ++ l.drop k).set k x = m.take (k + 1) ++ l.drop (k + 1) := by
  have hk : k < m.length := (List.getElem?_eq_some_iff.1 hx).1
  have e : l.drop k = l[k]'(by omega) :: l.drop (k + 1) := List.drop_eq_getElem_cons (by omega)
  have h1 : (m.take k).length = k := by rw [List.length_take]; omega
  rw [List.set_append_right _ _ (by omega), h1, Nat.sub_self, e, List.set_cons_zero, List.take_add_one, hx]
  simp
theorem take_drop_at {α : Type} (m l : List α) (n k : Nat) (hm : m.length = n) (hn : l.length = n) (hk : k < n) : ∃ y, (m.take k ++ l.drop k)[k]? = some y ∧ l[k]? = some y := by
  refine ⟨l[k]'(by omega), ?_, List.getElem?_eq_getElem (by omega)⟩
  have h1 : (m.take k).length = k := by rw [List.length_take]; omega
  rw [List.getElem?_append_right (by omega), h1, Nat.sub_self, List.getElem?_drop, Nat.add_zero]
  exact List.getElem?_eq_getElem (by omega)
theorem own_form {w : World} {base : Nat} {e : TypeId} {size n c : Nat} {A : Option Addr} {xs : List Value} (h : w.ownsRow base e size (.slice A n c) n xs) (hn : 0 < n) : ∃ g, A = some ⟨g, 0, none⟩ := by
  rcases h.2 with ⟨_, h0⟩ | ⟨g, cap, cur, hv, _⟩
  · omega
  · simp only [Value.slice.injEq] at hv
    exact ⟨g, hv.1⟩

/-! ## What stays behind a call -/
theorem carry {B : Nat} {W w : World} {b o : Nat} {v : Value} (h : Below B W w) (hc : W.cell? ⟨b, o, none⟩ = some v) (hb : b < B) : w.cell? ⟨b, o, none⟩ = some v := (h.cell (p := ⟨b, o, none⟩) hb).trans hc
/-- where a row lies -/
def Lies (v : Value) (lo hi : Nat) : Prop := ∀ k, v.ownBlock = some k → lo ≤ k ∧ k < hi
theorem own_lies {w : World} {base : Nat} {e : TypeId} {size n : Nat} {v : Value} {xs : List Value} (h : w.ownsRow base e size v n xs) : Lies v base w.heap.size := h.lt
theorem carryG {w w' : World} {v : Value} {lo hi b o : Nat} {u : Value} (hg : w.grownBy w' v.ownBlock) (hl : Lies v lo hi) (hc : w.cell? ⟨b, o, none⟩ = some u) (hb : b < lo ∨ hi ≤ b) : w'.cell? ⟨b, o, none⟩ = some u :=
  hg.cell hc (by
    intro e
    have := hl b e.symm
    omega)
theorem keptG {w w' : World} {v v' : Value} {lo hi lo' hi' base : Nat} {e : TypeId} {size n : Nat} {xs : List Value} (hg : w.grownBy w' v.ownBlock) (hl : Lies v lo hi) (h : w.ownsRow base e size v' n xs) (hl' : Lies v' lo' hi') (hd : hi ≤ lo' ∨ hi' ≤ lo) : w'.ownsRow base e size v' n xs :=
  h.kept hg (by
    cases hv : v'.ownBlock with
    | none => exact .inl rfl
    | some k =>
      refine .inr fun e => ?_
      have h1 := hl' k hv
      have h2 := hl k e.symm
      omega)
theorem belowG {a w w' : World} {v : Value} {lo hi B : Nat} (h : Below B a w) (hg : w.grownBy w' v.ownBlock) (hl : Lies v lo hi) (hB : B ≤ w.heap.size) (hlo : B ≤ lo) : Below B a w' :=
  h.grown hg hB fun k hk => by have := hl k hk; omega

/-! ## The worlds above one -/
def Ext (B : Nat) (W : World) := { w : World // Below B W w }
instance Ext.here (B : Nat) (W : World) : Nonempty (Ext B W) := ⟨⟨W, Below.refl B W⟩⟩
theorem Ext.below {B : Nat} {W : World} (x : Ext B W) : Below B W x.val := x.property
theorem wp_region_ext {P : Program} (B : Nat) {id : Nat} {Q : Exit → Act → World → Prop} {a : Act} {W : World} {l : List Oper} (hm : P.follows .mixedOrders = true) (hB : Region.lexB .any l.toArray = true)
    (h : wpQuiet P l.toArray (fun w' => ∃ x : Ext B W, w' = x.val) (fun a' => ∀ w', (∃ x : Ext B W, w' = x.val) → Q .normal a' w') l a) : (Code.region id l.toArray true).wp P Q a W :=
  wp_region_quiet (C := fun w' => ∃ x : Ext B W, w' = x.val) hm hB ⟨⟨W.drew, (Below.refl B W).drew⟩, rfl⟩ (by simpa using h)
/-- A callee's contract, met in a world above. -/
theorem Calls.ext_of {P : Program} {f : FuncId} {args : Array Value} {B : Nat} {W : World} {x : Ext B W} {v : Value}
    (h : Calls P f args x.val fun e w' => e = .returned v ∧ Below B x.val w') : Calls P f args x.val fun e w'' => e = .returned v ∧ ∃ y : Ext B W, w'' = y.val :=
  h.mono fun _ w' ⟨he, hb⟩ => ⟨he, ⟨w', x.below.trans hb⟩, rfl⟩
theorem Ext.cell {B : Nat} {W : World} (x : Ext B W) {b o : Nat} {v : Value} (h : W.cell? ⟨b, o, none⟩ = some v) (hb : b < B) : x.val.cell? ⟨b, o, none⟩ = some v := (x.below.cell (p := ⟨b, o, none⟩) hb).trans h
theorem Ext.size {B : Nat} {W : World} (x : Ext B W) : W.heap.size ≤ x.val.heap.size := x.below.size
theorem Ext.size' {B : Nat} {W : World} (hB : B ≤ W.heap.size) (x : Ext B W) : B ≤ x.val.heap.size := Nat.le_trans hB x.below.size
end Go.Proofs.Ytdlkfejcfnflmaa
/-
  FROM A LAW's WALK TO ITS STATEMENT: arguments opened (numbers, lists of numbers, parties), and what every law's post asks.
-/
namespace Go.Proofs.Ytdlkfejcfnflmaa
open Go.ChangeShapes Go.WideShapes Go.ChangeAt Go.RowKit Go.Deep

theorem Try.own : ownKnob Try.prog.godebug = none := by kernel_rfl
theorem Try.laidOut : laidOutB Try.prog = true := by kernel_rfl
theorem Try.cellsInt : Try.prog.cellsOf 3 = 1 := by kernel_rfl

section
variable {H : Type} {enc : TypeId × Value → H} {P : Program}
theorem below_trodAll (hl : laidOutB P = true) : ∀ (ts : List TypeId), (ts.all fun t => P.readableRec t && decide (t < P.types.size)) = true → ∀ {vs : List Value} {ds : List (DataW H)} {ps : List MemPlace} {W W' : World},
    DataW.TrodAll enc P W 0 (fun _ => true) true ts vs ds ps → Below W.heap.size W W' → (∀ x ∈ ps, x.block < W.heap.size) → DataW.TrodAll enc P W' 0 (fun b => decide (b < W.heap.size)) true ts vs ds ps
  | [], _, vs, ds, ps, W, W', h, _, _ => by
    obtain ⟨rfl, rfl, rfl⟩ := trodAll_nil h
    exact trodAll_mk0
  | t :: ts, hr, vs, ds, ps, W, W', h, hb, hlt => by
    obtain ⟨v, vs', d, ds', p, q, rfl, rfl, rfl, h0, h1⟩ := trodAll_cons h
    simp only [List.all_cons, Bool.and_eq_true, decide_eq_true_eq] at hr
    refine trodAll_cons_mk (Below.trod hl hr.1.1 hr.1.2 h0 hb (fun x hx => hlt x (List.mem_append_left _ hx))) (below_trodAll hl ts (by simpa using hr.2) h1 hb (fun x hx => hlt x (List.mem_append_right _ hx)))

theorem law_post {f : Func} {s : ChangeSpec} {W W' : World} {args : Array Value} {ds gs : List (DataW H)} {before : List MemPlace} {tb : TypeId} (hl : laidOutB P = true)
    (hr : (f.params.toList.all fun t => P.readableRec t && decide (t < P.types.size)) = true) (hres : f.resultTypes = #[tb]) (htb : P.underlying tb = some .bool) (hsv : s.vars = [])
    (hspec : s.fn H (ds ++ gs) = { results := [.lit (.bool true)], args := ds })
    (hW : DataW.Whole enc P f.params.toList s.vars false W args.toList ds gs before) (hb : Below W.heap.size W W') : s.post enc P f false true false false W args (.bool true) W' := by
  have hW' := hW
  obtain ⟨p, q, hA, hV, rfl, _, _⟩ := hW
  rw [hsv] at hV
  obtain ⟨rfl, rfl⟩ := trodVars_none hV
  have hlt : ∀ x ∈ p, x.block < W.heap.size := fun x hx => by simpa using hW'.lt x (by simpa using hx)
  refine ⟨ds, _, _, [] ++ [], p, [], hW', ?_, ?_, ?_, hb.frame _, fun h => by cases h⟩
  · rw [hspec, hres]
    exact trodAll_mk1 (shut_bool htb _)
  · rw [hspec]
    exact below_trodAll hl _ hr hA hb hlt
  · rw [hspec, hsv]
    rfl
end

section
variable {H : Type} {enc : TypeId × Value → H} {W : World}
end
end Go.Proofs.Ytdlkfejcfnflmaa
/-
  LISTS OF NUMBERS OF FRIENDS AS PLAIN LISTS: what numbers are; sorted so that they are falling; sums; where they fail. Nothing here speaks of the program.
-/
namespace Go.Proofs.Ytdlkfejcfnflmaa

def isNums (q : List Int) : Bool := decide (q.length ≤ 12) && q.all fun x => decide (0 ≤ x ∧ x < q.length)
theorem isNums_len {q : List Int} (h : isNums q = true) : q.length ≤ 12 := by
  simp only [isNums, Bool.and_eq_true, decide_eq_true_eq] at h
  exact h.1
theorem isNums_mem {q : List Int} (h : isNums q = true) : ∀ x ∈ q, 0 ≤ x ∧ x < q.length := by
  simp only [isNums, Bool.and_eq_true, List.all_eq_true, decide_eq_true_eq] at h
  exact h.2
theorem isNums_at {q : List Int} (h : isNums q = true) {k : Nat} {x : Int} (hx : q[k]? = some x) : 0 ≤ x ∧ x < q.length := isNums_mem h x (List.mem_of_getElem? hx)
theorem isNums_of {q : List Int} (h : q.length ≤ 12) (h2 : ∀ (k : Nat) (x : Int), k < q.length → q[k]? = some x → 0 ≤ x ∧ x < q.length) : isNums q = true := by
  simp only [isNums, Bool.and_eq_true, List.all_eq_true, decide_eq_true_eq]
  refine ⟨h, fun x hx => ?_⟩
  obtain ⟨i, hi, rfl⟩ := List.getElem_of_mem hx
  exact h2 i _ hi (List.getElem?_eq_getElem hi)
theorem isNums_bad {q : List Int} {k : Nat} {x : Int} (hx : q[k]? = some x) (h : ¬ (0 ≤ x ∧ x < q.length)) : isNums q = false := by
  cases he : isNums q with
  | false => rfl
  | true => exact absurd (isNums_at he hx) h
theorem isNums_many {q : List Int} (h : 12 < q.length) : isNums q = false := by
  cases he : isNums q with
  | false => rfl
  | true => have := isNums_len he; omega

/-! ## Falling -/
def fall (q : List Int) : List Int := q.mergeSort fun x y => decide (y ≤ x)
theorem fall_perm (q : List Int) : (fall q).Perm q := List.mergeSort_perm _ _
theorem fall_length (q : List Int) : (fall q).length = q.length := (fall_perm q).length_eq
theorem fall_mem {q : List Int} {x : Int} : x ∈ fall q ↔ x ∈ q := (fall_perm q).mem_iff
theorem fall_sorted (q : List Int) : (fall q).Pairwise fun x y => y ≤ x := by
  have h := List.pairwise_mergeSort (le := fun x y : Int => decide (y ≤ x)) (by intro a b c; simp; omega) (by intro a b; simp; omega) q
  exact h.imp (by simp)
theorem fall_unique {l q : List Int} (hs : l.Pairwise fun x y => y ≤ x) (hp : l.Perm q) : l = fall q :=
  List.Perm.eq_of_pairwise (le := fun x y : Int => y ≤ x) (fun a b _ _ h1 h2 => by omega) hs (fall_sorted q) (hp.trans (fall_perm q).symm)
theorem fall_nums {q : List Int} (h : isNums q = true) : isNums (fall q) = true := by
  refine isNums_of (by rw [fall_length]; exact isNums_len h) fun k x _ hx => ?_
  have := isNums_mem h x (fall_mem.1 (List.mem_of_getElem? hx))
  rw [fall_length]
  exact this

/-- the numbers from n down, j of them, each as often as it is in the list -/
def blockI (q : List Int) (x : Int) : List Int := q.filter fun y => decide (x = y)
def descI (q : List Int) (n j : Nat) : List Int := (List.range j).flatMap fun i : Nat => blockI q ((n : Int) - (i : Int))
theorem descI_zero (q : List Int) (n : Nat) : descI q n 0 = [] := rfl
theorem descI_next (q : List Int) (n j : Nat) : descI q n (j + 1) = descI q n j ++ blockI q ((n : Int) - j) := by
  unfold descI
  rw [List.range_succ, List.flatMap_append]
  simp
theorem blockI_snoc (q : List Int) (x y : Int) : blockI (q ++ [y]) x = blockI q x ++ if x = y then [y] else [] := by
  unfold blockI
  rw [List.filter_append]
  congr 1
  by_cases h : x = y
  · rw [if_pos h, List.filter_cons_of_pos (by simpa using h)]; rfl
  · rw [if_neg h, List.filter_cons_of_neg (by simpa using h)]; rfl
theorem mem_blockI {q : List Int} {x y : Int} : y ∈ blockI q x ↔ y ∈ q ∧ x = y := by simp [blockI]
theorem mem_descI {q : List Int} {n j : Nat} {y : Int} : y ∈ descI q n j ↔ y ∈ q ∧ (n : Int) - j < y ∧ y ≤ n := by
  simp only [descI, List.mem_flatMap, List.mem_range, mem_blockI]
  constructor
  · rintro ⟨i, hi, hy, rfl⟩; exact ⟨hy, by omega, by omega⟩
  · rintro ⟨hy, h1, h2⟩; exact ⟨((n : Int) - y).toNat, by omega, hy, by omega⟩
theorem descI_sorted (q : List Int) (n j : Nat) : (descI q n j).Pairwise fun x y => y ≤ x := by
  induction j with
  | zero => exact List.Pairwise.nil
  | succ j ih =>
    rw [descI_next, List.pairwise_append]
    refine ⟨ih, ?_, fun a ha b hb => ?_⟩
    · rw [List.pairwise_iff_getElem]
      intro a b ha hb _
      have h1 := (mem_blockI.1 (List.getElem_mem ha)).2
      have h2 := (mem_blockI.1 (List.getElem_mem hb)).2
      omega
    · have h1 := mem_descI.1 ha
      have h2 := (mem_blockI.1 hb).2
      omega
theorem count_blockI (q : List Int) (x y : Int) : (blockI q x).count y = if x = y then q.count y else 0 := by
  unfold blockI
  by_cases h : x = y
  · subst h
    rw [if_pos rfl, List.count_filter (by simp)]
  · rw [if_neg h, List.count_eq_zero]
    intro hm
    exact h (by simpa using (List.mem_filter.1 hm).2)
theorem count_descI (q : List Int) (n j : Nat) (y : Int) : (descI q n j).count y = if (n : Int) - j < y ∧ y ≤ n then q.count y else 0 := by
  induction j with
  | zero => rw [descI_zero, if_neg (by omega)]; rfl
  | succ j ih =>
    rw [descI_next, List.count_append, ih, count_blockI]
    by_cases h1 : (n : Int) - j = y
    · rw [if_pos h1, if_neg (by omega), if_pos (by omega), Nat.zero_add]
    · rw [if_neg h1, Nat.add_zero]
      by_cases h2 : (n : Int) - j < y ∧ y ≤ n
      · rw [if_pos h2, if_pos (by omega)]
      · rw [if_neg h2, if_neg (by omega)]
theorem descI_fall {q : List Int} (h : isNums q = true) : descI q q.length (q.length + 1) = fall q := by
  refine fall_unique (descI_sorted _ _ _) (List.perm_iff_count.2 fun y => ?_)
  rw [count_descI]
  split
  · rfl
  · rename_i hn
    symm
    rw [List.count_eq_zero]
    intro hy
    have := isNums_mem h y hy
    omega
theorem descI_le (q : List Int) (n j : Nat) : (descI q n j).length ≤ j * q.length := by
  induction j with
  | zero => simp [descI_zero]
  | succ j ih =>
    rw [descI_next, List.length_append, Nat.add_mul, Nat.one_mul]
    have : (blockI q ((n : Int) - j)).length ≤ q.length := List.length_filter_le _ _
    omega
theorem blockI_le (q : List Int) (x : Int) : (blockI q x).length ≤ q.length := List.length_filter_le _ _

/-! ## Sums -/
def sumI (q : List Int) : Int := q.foldl (· + ·) 0
theorem sumI_snoc (q : List Int) (x : Int) : sumI (q ++ [x]) = sumI q + x := by simp [sumI, List.foldl_append]
theorem sumI_nil : sumI [] = 0 := rfl
/-- a bound of the sum of a beginning -/
theorem sumI_take_bound {q : List Int} {m : Int} (hm : 0 ≤ m) (h : ∀ x ∈ q, 0 ≤ x ∧ x ≤ m) : ∀ k, 0 ≤ sumI (q.take k) ∧ sumI (q.take k) ≤ k * m := by
  intro k
  induction k with
  | zero => simp [sumI_nil]
  | succ k ih =>
    rw [List.take_add_one]
    have e : ((k + 1 : Nat) : Int) * m = k * m + m := by rw [Int.natCast_add, Int.add_mul]; simp
    rw [e]
    cases hx : q[k]? with
    | none => simp; omega
    | some x =>
      have := h x (List.mem_of_getElem? hx)
      rw [Option.toList_some, sumI_snoc]
      omega
theorem sumI_perm {q l : List Int} (h : q.Perm l) : sumI q = sumI l := by
  unfold sumI
  exact h.foldl_eq' (fun x _ y _ z => by omega) 0

/-! ## Where numbers fail -/
def minsI (k : Int) (q : List Int) : List Int := q.map fun x => if k < x then k else x
theorem minsI_snoc (k : Int) (q : List Int) (x : Int) : minsI k (q ++ [x]) = minsI k q ++ [if k < x then k else x] := by simp [minsI]
def mostI (s : List Int) (k : Nat) : Int := (k : Int) * (k - 1) + sumI (minsI k (s.drop k))
def failAt (s : List Int) (k : Nat) : Bool := decide (mostI s k < sumI (s.take k))
def failsI (s : List Int) : Int := match (List.range s.length).find? fun i => failAt s (i + 1) with | none => 0 | some i => (i : Int) + 1
theorem failsI_at {s : List Int} {k : Nat} (hk : k < s.length) (h : ∀ j, j < k → failAt s (j + 1) = false) (hf : failAt s (k + 1) = true) : failsI s = k + 1 := by
  have : (List.range s.length).find? (fun i => failAt s (i + 1)) = some k := by
    rw [List.find?_range_eq_some]
    exact ⟨hf, by simpa using hk, fun j hj => by simp [h j hj]⟩
  unfold failsI
  rw [this]
theorem failsI_none {s : List Int} (h : ∀ j, j < s.length → failAt s (j + 1) = false) : failsI s = 0 := by
  have : (List.range s.length).find? (fun i => failAt s (i + 1)) = none := by
    rw [List.find?_range_eq_none]
    intro j hj
    simp [h j hj]
  unfold failsI
  rw [this]
theorem failsI_range (s : List Int) : 0 ≤ failsI s ∧ failsI s ≤ s.length := by
  unfold failsI
  split
  · omega
  · rename_i i hi
    have := List.mem_of_find?_eq_some hi
    rw [List.mem_range] at this
    omega
theorem minsI_bound {s : List Int} {m k : Int} (hk : 0 ≤ k) (h : ∀ x ∈ s, 0 ≤ x ∧ x ≤ m) : ∀ x ∈ minsI k s, 0 ≤ x ∧ x ≤ m := by
  intro x hx
  obtain ⟨y, hy, rfl⟩ := List.mem_map.1 hx
  have := h y hy
  split <;> omega
/-- they can be -/
def canI (q : List Int) : Bool := decide (sumI q % 2 = 0) && decide (failsI (fall q) = 0)
end Go.Proofs.Ytdlkfejcfnflmaa
/-
  THE LAWS' OWN SMALL FUNCTIONS, BY THEIR CONTRACTS: sizes, copies, comparisons, marks.
-/
namespace Go.Proofs.Ytdlkfejcfnflmaa
open Go.RowKit

def szI (left : Int) (n : Nat) : Int := if left - n < 0 then -1 else left - n
theorem szI_lo (left : Int) (n : Nat) : -1 ≤ szI left n := by unfold szI; split <;> omega
theorem szI_hi (left : Int) (n : Nat) (h : 0 ≤ left) : szI left n ≤ left := by unfold szI; split <;> omega
theorem szI_len (left : Int) (n : Nat) (h : ¬ szI left n < 0) : (n : Int) ≤ left := by unfold szI at h; split at h <;> omega

def eqPairB (a b c d : Int) : Bool := decide (a = c ∧ b = d)
theorem Try.infoInt : (Try.prog.info? 3).map (fun i => (i.zero, i.size, i.bytes)) = some (some (.int .i64 0), 1, 8) := by kernel_rfl
theorem Try.infoBool : (Try.prog.info? 4).map (fun i => (i.zero, i.size, i.bytes)) = some (some (.bool false), 1, 1) := by kernel_rfl

theorem take_set_replicate {α : Type} (l : List α) (z : α) (n k : Nat) (x : α) (hn : l.length = n) (hx : l[k]? = some x) :
    (l.take k ++ List.replicate (n - k) z).set k x = l.take (k + 1) ++ List.replicate (n - (k + 1)) z := by
  have hk : k < l.length := (List.getElem?_eq_some_iff.1 hx).1
  have e : n - k = (n - (k + 1)) + 1 := by omega
  rw [List.set_append_right _ _ (by simp; omega), e, List.replicate_succ, List.take_add_one, hx]
  simp [Nat.min_eq_left (Nat.le_of_lt hk)]

end Go.Proofs.Ytdlkfejcfnflmaa
/-
  THE LAWS' OWN SMALL FUNCTIONS THAT MARK A RESULT'S MEMORY AND LOOK WHETHER THE MARKS STAND; copies of parties and of lists of numbers; their comparison.
-/
namespace Go.Proofs.Ytdlkfejcfnflmaa
open Go.RowKit

/-! ## Parties -/
/-! ## Lists of numbers -/
set_option maxHeartbeats 1000000 in
theorem eqIntS_any (l m : List Int) (A B : Option Addr) (c d : Nat) (w : World) (hl : l.length ≤ maxLen) (hm : m.length ≤ maxLen)
    (hA : CRead w w.heap.size A (icells l)) (hB : CRead w w.heap.size B (icells m)) :
    Calls Try.prog 18 #[.slice A l.length c, .slice B m.length d] w fun e w' =>
      e = .returned (.bool (decide (l = m))) ∧ Below w.heap.size w w' := by
  unfold maxLen at hl hm
  by_cases hlen : l.length = m.length
  · generalize hn : l.length = n at *
    have Hn := Lib.hid hn
    have Hm := Lib.hid hlen
    clear hn
    rw [← hlen]
    clear hlen
    go_enter Try.func18, Try.ntmps18
    go_wp2
    go_loopw [5] (fun i wr => ∃ k : Nat, k ≤ n ∧ i = .int .i64 k ∧ l.take k = m.take k ∧ Below w.heap.size w wr) (fun i _ => n - (intOf i).toNat)
    case atStart => exact ⟨0, Nat.zero_le _, rfl, rfl, Below.refl _ _⟩
    case round =>
      obtain ⟨k, hk, rfl, htk, hb⟩ := hrel
      have Htk := Lib.hid htk
      clear htk
      have hs := hb.size
      by_cases hlt : k < n
      · obtain ⟨x, hx⟩ := getSome l k (by rw [Hn.out]; exact hlt)
        obtain ⟨x', hx'⟩ := getSome m k (by rw [← Hm.out]; exact hlt)
        obtain ⟨b, off, rfl, hbb, c0⟩ := (hA.below hb (Nat.le_refl _)).int hx
        obtain ⟨b', off', rfl, hbb', c0'⟩ := (hB.below hb (Nat.le_refl _)).int hx'
        have hki : (k : Int) < (n : Int) := by omega
        have Hx := Lib.hid hx
        have Hx' := Lib.hid hx'
        clear hx hx'
        go_wp2
        go_quiet (fail)
        by_cases hq : x = x'
        · subst hq
          go_wp2
          go_roundw
          case rel =>
            refine ⟨k + 1, by omega, by go_num, ?_, hb.trans ⟨rfl, rfl, rfl, Nat.le_refl _, fun _ _ => rfl⟩⟩
            rw [List.take_add_one, List.take_add_one, Htk.out, Hx.out, Hx'.out]
          case measure => simp [intOf]; omega
        · go_wp2
          go_ret
          refine ⟨?_, hb.trans ⟨rfl, rfl, rfl, Nat.le_refl _, fun _ _ => rfl⟩⟩
          have : l ≠ m := by rintro rfl; have h := Hx.out; rw [Hx'.out] at h; exact hq (by simpa using h.symm)
          simp [this]
      · have hkl : k = n := by omega
        go_wp2
        go_ret
        refine ⟨?_, hb⟩
        have e := Htk.out
        rw [hkl, List.take_of_length_le (by rw [Hn.out]; exact Nat.le_refl _), List.take_of_length_le (by rw [← Hm.out]; exact Nat.le_refl _)] at e
        simp [e]
  · have hne : l ≠ m := by rintro rfl; exact hlen rfl
    have e : decide (l = m) = false := by simp [hne]
    rw [e]
    clear e
    go_enter Try.func18, Try.ntmps18
    go_wp2
    go_ret
    exact ⟨rfl, Below.refl _ _⟩

set_option maxHeartbeats 1000000 in
theorem markIntS_any (l : List Int) (A : Option Addr) (n c : Nat) (k0 : Int) (base : Nat) (w : World) (hn : l.length = n) (hl : n ≤ 1048576) (hk0 : 0 ≤ k0 ∧ k0 ≤ 16777216) (hown0 : w.ownsRow base 3 1 (.slice A n c) n (icells l)) :
    Calls Try.prog 19 #[.slice A n c, .int .i64 k0] w fun e w' =>
      e = .returned (.int .i64 (k0 + n)) ∧ w'.ownsRow base 3 1 (.slice A n c) n (icells (imarks k0 n)) ∧ w.grownBy w' (Value.ownBlock (.slice A n c)) := by
  have Hn := Lib.hid hn
  obtain ⟨hk00, hk01⟩ := hk0
  clear hn
  go_enter Try.func19, Try.ntmps19
  go_wp2
  go_loopw [1, 5] (fun q i wr => ∃ k : Nat, k ≤ n ∧ i = .int .i64 k ∧ q = .int .i64 (k0 + k) ∧ wr.ownsRow base 3 1 (.slice A n c) n (icells ((imarks k0 n).take k ++ l.drop k)) ∧ w.grownBy wr (Value.ownBlock (.slice A n c))) (fun _ i _ => n - (intOf i).toNat)
  case atStart => exact ⟨0, Nat.zero_le _, rfl, by simp, by simpa using hown0, World.grownBy.refl _ _⟩
  case round =>
    obtain ⟨k, hk, rfl, rfl, hown, hb⟩ := hrel
    by_cases hlt : k < n
    · obtain ⟨g, rfl⟩ := own_form hown (by omega)
      obtain ⟨x, hz, hx⟩ := take_drop_at (imarks k0 n) l n k (imarks_length _ _) Hn.out hlt
      have hlt' : (k : Int) < n := by omega
      have d0 := own_intAt hown hz
      have f0 := hown.frozenAt k
      have Hz := Lib.hid hz
      clear hz hx
      go_wp2
      go_roundw
      case rel =>
        refine ⟨k + 1, by omega, by go_num, by go_num, ?_, ?_⟩
        · have h2 := own_setInt hown k (k0 + k)
          rwa [take_set_drop (imarks k0 n) l n k _ (imarks_length _ _) Hn.out (imarks_at hlt)] at h2
        · exact gb_trans hb (hown.stored k _).2
      case measure => simp [intOf]; omega
    · have hkl : k = n := by omega
      subst hkl
      have hge : ¬ ((k : Int) < k) := by omega
      go_wp2
      go_ret
      refine ⟨rfl, ?_, hb⟩
      rwa [List.take_of_length_le (by rw [imarks_length]; exact Nat.le_refl _), List.drop_of_length_le (by rw [Hn.out]; exact Nat.le_refl _), List.append_nil] at hown

set_option maxHeartbeats 1000000 in
theorem heldIntS_any (A : Option Addr) (n c : Nat) (k0 : Int) (w : World) (hl : n ≤ 1048576) (hk0 : 0 ≤ k0 ∧ k0 ≤ 16777216) (hA : CRead w w.heap.size A (icells (imarks k0 n))) :
    Calls Try.prog 20 #[.slice A n c, .int .i64 k0] w fun e w' => e = .returned (.int .i64 (k0 + n)) ∧ w = w' := by
  obtain ⟨hk00, hk01⟩ := hk0
  go_enter Try.func20, Try.ntmps20
  go_wp2
  go_loop [1, 5] (fun q i => ∃ k : Nat, k ≤ n ∧ i = .int .i64 k ∧ q = .int .i64 (k0 + k)) (fun _ i => n - (intOf i).toNat)
  case atStart => exact ⟨0, Nat.zero_le _, rfl, by simp⟩
  case round =>
    obtain ⟨k, hk, rfl, rfl⟩ := hrel
    by_cases hlt : k < n
    · obtain ⟨b, off, rfl, hbb, c0⟩ := hA.int (imarks_at hlt)
      have hlt' : (k : Int) < n := by omega
      go_wp2
      go_round
      case rel => exact ⟨k + 1, by omega, by go_num, by go_num⟩
      case measure => simp [intOf]; omega
    · have hkl : k = n := by omega
      subst hkl
      have hge : ¬ ((k : Int) < k) := by omega
      go_wp2
      go_ret
      exact ⟨rfl, rfl⟩
end Go.Proofs.Ytdlkfejcfnflmaa
/-
  LISTS OF LISTS OF NUMBERS, read; the laws' own comparison of two that are equal.
-/
namespace Go.Proofs.Ytdlkfejcfnflmaa
open Go.RowKit

/-- a slice of slices of numbers can be read: its headers, and the rows that they name, lie below B -/
def SRead (w : World) (B : Nat) (A : Option Addr) (LL : List (List Int)) : Prop :=
  ∀ i l, LL[i]? = some l → ∃ b off A' c', A = some ⟨b, off, none⟩ ∧ b < B ∧ w.cell? ⟨b, off + i, none⟩ = some (.slice A' l.length c') ∧ CRead w B A' (icells l)
theorem SRead.below {w w' : World} {B B' : Nat} {A : Option Addr} {LL : List (List Int)} (h : SRead w B A LL) (hb : Below B w w') (hB : B ≤ B') : SRead w' B' A LL := by
  intro i l hi
  obtain ⟨b, off, A', c', e, hlt, hc, hr⟩ := h i l hi
  exact ⟨b, off, A', c', e, by omega, carry hb hc hlt, (hr.below hb (Nat.le_refl _)).more hB⟩

set_option maxHeartbeats 2000000 in
set_option maxRecDepth 100000 in
theorem eqIntSS_same (LL : List (List Int)) (A B : Option Addr) (c d : Nat) (w : World) (hl : LL.length ≤ maxLen) (hr : ∀ l ∈ LL, l.length ≤ maxLen)
    (hA : SRead w w.heap.size A LL) (hB : SRead w w.heap.size B LL) :
    Calls Try.prog 7 #[.slice A LL.length c, .slice B LL.length d] w fun e w' => e = .returned (.bool true) ∧ Below w.heap.size w w' := by
  unfold maxLen at hl
  go_enter Try.func7, Try.ntmps7
  go_wp2_with fail
  go_loopw [5] (fun i wr => ∃ k : Nat, k ≤ LL.length ∧ i = .int .i64 k ∧ Below w.heap.size w wr) (fun i _ => LL.length - (intOf i).toNat)
  case atStart => exact ⟨0, Nat.zero_le _, rfl, Below.refl _ _⟩
  case round =>
    obtain ⟨k, hk, rfl, hb⟩ := hrel
    by_cases hlt : k < LL.length
    · obtain ⟨l, hx⟩ := getSome LL k hlt
      obtain ⟨b, off, A1, c1, rfl, hb1, d1, R1⟩ := (hA.below hb hb.size) k l hx
      obtain ⟨b', off', A2, c2, rfl, hb2, d2, R2⟩ := (hB.below hb hb.size) k l hx
      have hll := hr l (List.mem_of_getElem? hx)
      have hki : (k : Int) < (LL.length : Int) := by omega
      clear hx
      go_wp2_with fail
      go_region_law (first | (go_simp; go_at_call 18; refine (eqIntS_any l l A1 A2 c1 c2 wr.drew hll hll (show CRead wr.drew wr.drew.heap.size A1 (icells l) from R1) (show CRead wr.drew wr.drew.heap.size A2 (icells l) from R2)).mono ?_; rw [decide_eq_true rfl]; rintro e w2 ⟨rfl, hb3⟩; have hb4 : Below w.heap.size w w2 := hb.trans ((Below.drew (Below.refl wr.heap.size wr)).trans hb3 |>.mono hb.size)) | fail)
      all_goals (go_wp2_with fail)
      all_goals (go_roundw)
      all_goals first
        | exact ⟨k + 1, by omega, by go_num, hb4⟩
        | (simp [intOf]; omega)
    · have hge : ¬ ((k : Int) < (LL.length : Int)) := by omega
      go_wp2
      go_ret
      exact ⟨rfl, hb⟩
/-- how many numbers lie in the first rows -/
def lens (ns : List Nat) (k : Nat) : Nat := (ns.take k).sum
theorem lens_succ {ns : List Nat} {k n : Nat} (h : ns[k]? = some n) : lens ns (k + 1) = lens ns k + n := by
  unfold lens
  rw [List.take_add_one, h, Option.toList_some, List.sum_append]
  simp
theorem lens_le (ns : List Nat) : ∀ k, lens ns k ≤ ns.sum := by
  intro k
  unfold lens
  have h := congrArg List.sum (List.take_append_drop k ns)
  rw [List.sum_append] at h
  omega
/-- the marks of rows of such lengths, counted on from row to row -/
def rowMarks (k0 : Int) (ns : List Nat) : List (List Int) := (List.range ns.length).map fun i => imarks (k0 + lens ns i) (ns.getD i 0)
theorem rowMarks_length (k0 : Int) (ns : List Nat) : (rowMarks k0 ns).length = ns.length := by simp [rowMarks]
theorem rowMarks_at {k0 : Int} {ns : List Nat} {k n : Nat} (h : ns[k]? = some n) : (rowMarks k0 ns)[k]? = some (imarks (k0 + lens ns k) n) := by
  have hk := (List.getElem?_eq_some_iff.1 h).1
  simp [rowMarks, hk, List.getD_eq_getElem?_getD]
  have := (List.getElem?_eq_some_iff.1 h).2
  rw [this]

set_option maxHeartbeats 2000000 in
set_option maxRecDepth 100000 in
theorem heldIntSS_any (ns : List Nat) (A : Option Addr) (c : Nat) (k0 : Int) (w : World) (hl : ns.length ≤ 1048576) (hs : ns.sum ≤ 1048576) (hk0 : 0 ≤ k0 ∧ k0 ≤ 8388608) (hA : SRead w w.heap.size A (rowMarks k0 ns)) :
    Calls Try.prog 9 #[.slice A ns.length c, .int .i64 k0] w fun e w' => e = .returned (.int .i64 (k0 + ns.sum)) ∧ w = w' := by
  obtain ⟨hk00, hk01⟩ := hk0
  go_enter Try.func9, Try.ntmps9
  go_wp2_with fail
  go_loopw [1, 5] (fun q i wr => ∃ k : Nat, k ≤ ns.length ∧ i = .int .i64 k ∧ q = .int .i64 (k0 + lens ns k) ∧ w = wr) (fun _ i _ => ns.length - (intOf i).toNat)
  case atStart => exact ⟨0, Nat.zero_le _, rfl, by simp [lens], rfl⟩
  case round =>
    obtain ⟨k, hk, rfl, rfl, rfl⟩ := hrel
    have hs1 := lens_le ns k
    by_cases hlt : k < ns.length
    · obtain ⟨n, hx⟩ := getSome ns k hlt
      have hs2 := lens_le ns (k + 1)
      have hsc := lens_succ hx
      obtain ⟨b, off, A1, c1, rfl, hb1, d1, R1⟩ := hA k _ (rowMarks_at hx)
      rw [imarks_length] at d1
      have hki : (k : Int) < (ns.length : Int) := by omega
      have Hsc := Lib.hid hsc
      generalize hm : k0 + (lens ns k : Int) = m at *
      have hm0 : 0 ≤ m := by omega
      have hm1 : m ≤ 16777216 := by omega
      have hnn : n ≤ 1048576 := by omega
      have hneg : ¬ (m + (n : Int) < 0) := by omega
      have Hm := Lib.hid hm
      clear hx hm hsc
      go_wp2_with fail
      refine (heldIntS_any A1 n c1 m _ hnn ⟨hm0, hm1⟩ R1).mono ?_
      rintro e w2 ⟨rfl, rfl⟩
      go_wp2
      go_roundw
      case rel => exact ⟨k + 1, by omega, by go_num, by rw [Hsc.out, ← Hm.out]; congr 1; omega, trivial⟩
      case measure => simp [intOf]; omega
    · have hkl : k = ns.length := by omega
      have hge : ¬ ((k : Int) < (ns.length : Int)) := by omega
      have e : lens ns k = ns.sum := by unfold lens; rw [List.take_of_length_le (by omega)]
      rw [e]
      go_wp2
      go_ret
      exact ⟨rfl, rfl⟩
end Go.Proofs.Ytdlkfejcfnflmaa
/-
  A LIST OF LISTS OF NUMBERS OF THE CALL's OWN: its headers a row, each of its rows a row, all in blocks of their own; 'laws.markIntSS' by its contract.
-/
namespace Go.Proofs.Ytdlkfejcfnflmaa
open Go.RowKit

theorem own_apart {w : World} {B B' : Nat} {e e' : TypeId} {s s' n n' : Nat} {v v' : Value} {xs xs' : List Value} (h1 : w.ownsRow B e s v n xs) (h2 : w.ownsRow B' e' s' v' n' xs') (hne : e ≠ e') : v.ownBlock = none ∨ v.ownBlock ≠ v'.ownBlock := by
  rcases h1.2 with ⟨rfl, _⟩ | ⟨g, cap, cur, rfl, _, hh, _⟩
  · left; simp [Value.ownBlock]
  · right
    rcases h2.2 with ⟨rfl, _⟩ | ⟨g', cap', cur', rfl, _, hh', _⟩
    · simp [Value.ownBlock]
    · intro e3
      have e4 : g = g' := by simpa [Value.ownBlock] using e3
      subst e4
      rw [hh] at hh'
      injection hh' with h
      injection h with _ ht
      exact hne ht

/-- n rows of numbers, row i under the slice (R i, N i, C i) -/
structure RowsG (w : World) (B : Nat) (v : Value) (n : Nat) (R : Nat → Option Addr) (C N : Nat → Nat) (F : Nat → List Int) : Prop where
  own : w.ownsRow B 34 1 v n ((List.range n).map fun i => Value.slice (R i) (N i) (C i))
  row : ∀ i, i < n → (F i).length = N i ∧ w.ownsRow B 3 1 (.slice (R i) (N i) (C i)) (N i) (icells (F i))
  apart : ∀ i j, i < n → j < n → i ≠ j → (Value.slice (R i) (N i) (C i)).ownBlock = none ∨ (Value.slice (R i) (N i) (C i)).ownBlock ≠ (Value.slice (R j) (N j) (C j)).ownBlock
section
variable {w w' : World} {B n : Nat} {v : Value} {R : Nat → Option Addr} {C N : Nat → Nat} {F F' : Nat → List Int}
theorem RowsG.congr (h : RowsG w B v n R C N F) (e : ∀ i, i < n → F i = F' i) : RowsG w B v n R C N F' :=
  ⟨h.own, fun i hi => by rw [← e i hi]; exact h.row i hi, h.apart⟩
theorem RowsG.kept (h : RowsG w B v n R C N F) (hg : w.grownBy w' none) : RowsG w' B v n R C N F :=
  ⟨h.own.kept hg (by cases v.ownBlock <;> simp), fun i hi => ⟨(h.row i hi).1, (h.row i hi).2.kept hg (by cases (Value.slice (R i) (N i) (C i)).ownBlock <;> simp)⟩, h.apart⟩
/-- another row i of the same length -/
theorem RowsG.set (h : RowsG w B v n R C N F) {k : Nat} (hk : k < n) {l : List Int} (hl : l.length = N k) (hg : w.grownBy w' (Value.slice (R k) (N k) (C k)).ownBlock) (ho : w'.ownsRow B 3 1 (.slice (R k) (N k) (C k)) (N k) (icells l)) :
    RowsG w' B v n R C N (fun i => if i = k then l else F i) := by
  refine ⟨h.own.kept hg (own_apart h.own (h.row k hk).2 (by decide)), fun i hi => ?_, h.apart⟩
  by_cases e : i = k
  · subst e
    simp only [if_true]
    exact ⟨hl, ho⟩
  · simp only [if_neg e]
    exact ⟨(h.row i hi).1, (h.row i hi).2.kept hg (h.apart i k hi hk e)⟩
theorem RowsG.read {A : Option Addr} {c : Nat} {LL : List (List Int)} (h : RowsG w B (.slice A n c) n R C N F) (hn : LL.length = n) (hL : ∀ i l, LL[i]? = some l → F i = l) : SRead w w.heap.size A LL := by
  intro i l hi
  have hin : i < n := by have := (List.getElem?_eq_some_iff.1 hi).1; omega
  obtain ⟨g, rfl⟩ := own_form h.own (by omega)
  obtain ⟨h1, h2⟩ := h.row i hin
  rw [hL i l hi] at h1 h2
  refine ⟨g, 0, R i, C i, rfl, (own_lt h.own).2, ?_, CRead.of_own h2⟩
  rw [Nat.zero_add, h.own.cellAt i (by omega)]
  simp [hin, h1]
end

set_option maxHeartbeats 2000000 in
set_option maxRecDepth 100000 in
theorem markIntSS_any (ns : List Nat) (A : Option Addr) (c : Nat) (k0 : Int) (B : Nat) (R : Nat → Option Addr) (C : Nat → Nat) (F : Nat → List Int) (w : World) (hl : ns.length ≤ 1048576) (hs : ns.sum ≤ 1048576) (hk0 : 0 ≤ k0 ∧ k0 ≤ 8388608) (hB : B ≤ w.heap.size)
    (h : RowsG w B (.slice A ns.length c) ns.length R C (fun i => ns.getD i 0) F) :
    Calls Try.prog 8 #[.slice A ns.length c, .int .i64 k0] w fun e w' => e = .returned (.int .i64 (k0 + ns.sum)) ∧ RowsG w' B (.slice A ns.length c) ns.length R C (fun i => ns.getD i 0) (fun i => imarks (k0 + lens ns i) (ns.getD i 0)) ∧ Below B w w' := by
  obtain ⟨hk00, hk01⟩ := hk0
  go_enter Try.func8, Try.ntmps8
  go_wp2_with fail
  go_loopw [1, 5] (fun q i wr => ∃ k : Nat, k ≤ ns.length ∧ i = .int .i64 k ∧ q = .int .i64 (k0 + lens ns k) ∧ RowsG wr B (.slice A ns.length c) ns.length R C (fun i => ns.getD i 0) (fun i => if i < k then imarks (k0 + lens ns i) (ns.getD i 0) else F i) ∧ Below B w wr) (fun _ i _ => ns.length - (intOf i).toNat)
  case atStart => exact ⟨0, Nat.zero_le _, rfl, by simp [lens], h.congr fun i _ => by rw [if_neg (Nat.not_lt_zero _)], Below.refl _ _⟩
  case round =>
    clear h
    obtain ⟨k, hk, rfl, rfl, hG, hb⟩ := hrel
    have hs1 := lens_le ns k
    have hBr : B ≤ wr.heap.size := Nat.le_trans hB hb.size
    by_cases hlt : k < ns.length
    · obtain ⟨n, hx⟩ := getSome ns k hlt
      have hs2 := lens_le ns (k + 1)
      have hsc := lens_succ hx
      have hgd : ns.getD k 0 = n := by rw [List.getD_eq_getElem?_getD, hx]; rfl
      obtain ⟨g, rfl⟩ := own_form hG.own (by omega)
      have d1 : wr.cell? ⟨g, k, none⟩ = some (.slice (R k) n (C k)) := by
        rw [hG.own.cellAt k (by omega)]
        simp only [List.getElem?_map, List.getElem?_range hlt, Option.map_some, hgd]
      obtain ⟨h1, h2⟩ := hG.row k hlt
      rw [if_neg (Nat.lt_irrefl k)] at h1 h2
      rw [hgd] at h1 h2
      have hki : (k : Int) < (ns.length : Int) := by omega
      have HG := Lib.hid hG
      have Hsc := Lib.hid hsc
      have Hgd := Lib.hid hgd
      generalize hm : k0 + (lens ns k : Int) = m at *
      have hm0 : 0 ≤ m := by omega
      have hm1 : m ≤ 16777216 := by omega
      have hnn : n ≤ 1048576 := by omega
      have Hm := Lib.hid hm
      clear hx hm hsc hG hgd
      go_wp2_with fail
      refine (markIntS_any (F k) (R k) n (C k) m B _ h1 hnn ⟨hm0, hm1⟩ h2).mono ?_
      rintro e w2 ⟨rfl, own2, hg2⟩
      have hb2 := hb.grown hg2 hBr (fun i hi => (h2.lt i hi).1)
      have G2 := Lib.hid ((HG.out.set hlt (l := imarks m n) (by rw [imarks_length]; exact Hgd.out.symm) (by simp only [Hgd.out]; exact hg2) (by simp only [Hgd.out]; exact own2)).congr (F' := fun i => if i < k + 1 then imarks (k0 + lens ns i) (ns.getD i 0) else F i) fun i _ => by
        by_cases e : i = k
        · subst e
          simp only [if_true, if_pos (Nat.lt_succ_self i), Hm.out, Hgd.out]
        · simp only [if_neg e]
          by_cases h3 : i < k
          · simp only [if_pos h3, if_pos (Nat.lt_succ_of_lt h3)]
          · simp only [if_neg h3, if_neg (show ¬ i < k + 1 by omega)])
      clear own2 hg2 h2 h1
      go_wp2
      go_roundw
      case rel => exact ⟨k + 1, by omega, by go_num, by rw [Hsc.out, ← Hm.out]; congr 1; omega, G2.out, hb2⟩
      case measure => simp [intOf]; omega
    · have hkl : k = ns.length := by omega
      have hge : ¬ ((k : Int) < (ns.length : Int)) := by omega
      have e : lens ns k = ns.sum := by unfold lens; rw [List.take_of_length_le (by omega)]
      rw [e]
      have HG := Lib.hid (hG.congr (F' := fun i => imarks (k0 + lens ns i) (ns.getD i 0)) fun i hi => by rw [if_pos (by omega)])
      clear hG
      go_wp2
      go_ret
      exact ⟨rfl, HG.out, hb⟩
end Go.Proofs.Ytdlkfejcfnflmaa
/-
  A LIST OF LISTS OF NUMBERS OF THE CALL's OWN: a row of none put behind it, and a number put behind one of its rows.
-/
namespace Go.Proofs.Ytdlkfejcfnflmaa
open Go.RowKit

section
variable {w w' w2 : World} {B n : Nat} {v v' : Value} {R : Nat → Option Addr} {C N : Nat → Nat} {F : Nat → List Int}
def upN {α : Type} (f : Nat → α) (k : Nat) (x : α) : Nat → α := fun i => if i = k then x else f i
theorem upN_self {α : Type} (f : Nat → α) (k : Nat) (x : α) : upN f k x k = x := by simp [upN]
theorem upN_ne {α : Type} (f : Nat → α) {k i : Nat} (x : α) (h : i ≠ k) : upN f k x i = f i := by simp [upN, h]
/-- behind an append of one header, nil -/
theorem RowsG.push (h : RowsG w B v n R C N F) (hg : w.grownBy w' v.ownBlock) (ho : w'.ownsRow B 34 1 v' (n + 1) (((List.range n).map fun i => Value.slice (R i) (N i) (C i)) ++ [.slice none 0 0])) :
    RowsG w' B v' (n + 1) (upN R n none) (upN C n 0) (upN N n 0) (upN F n []) := by
  refine ⟨?_, fun i hi => ?_, fun i j hi hj hij => ?_⟩
  · rw [List.range_succ, List.map_append, List.map_singleton, upN_self, upN_self, upN_self]
    rw [List.map_congr_left (g := fun i => Value.slice (R i) (N i) (C i)) fun i hi => by
      have : i ≠ n := by have := List.mem_range.1 hi; omega
      rw [upN_ne _ _ this, upN_ne _ _ this, upN_ne _ _ this]]
    exact ho
  · by_cases e : i = n
    · subst e
      simp only [upN_self]
      exact ⟨rfl, World.ownsRow_nil _ _ _ _⟩
    · simp only [upN_ne _ _ e]
      have hin : i < n := by omega
      exact ⟨(h.row i hin).1, (h.row i hin).2.kept hg (own_apart (h.row i hin).2 h.own (by decide))⟩
  · by_cases e : i = n
    · subst e
      simp only [upN_self]
      left; simp [Value.ownBlock]
    · simp only [upN_ne _ _ e]
      by_cases e2 : j = n
      · subst e2
        simp only [upN_self]
        cases hq : (Value.slice (R i) (N i) (C i)).ownBlock with
        | none => exact .inl rfl
        | some b => right; simp [Value.ownBlock]
      · simp only [upN_ne _ _ e2]
        exact h.apart i j (by omega) (by omega) hij
theorem map_range_set {α : Type} (f : Nat → α) (k : Nat) (x : α) (n : Nat) : ((List.range n).map f).set k x = (List.range n).map (upN f k x) := by
  apply List.ext_getElem (by simp)
  intro j h1 h2
  rw [List.getElem_set]
  simp only [List.getElem_map, List.getElem_range]
  by_cases e : k = j
  · subst e; simp [upN]
  · rw [if_neg e, upN_ne _ _ (fun h => e h.symm)]
/-- behind an append of a number to row k and the store of its header -/
theorem RowsG.grow {g c : Nat} (h : RowsG w B (.slice (some ⟨g, 0, none⟩) n c) n R C N F) {k : Nat} (hk : k < n) {x : Int} {b d : Nat}
    (hg : w.grownBy w2 (Value.slice (R k) (N k) (C k)).ownBlock) (ho : w2.ownsRow B 3 1 (.slice (some ⟨b, 0, none⟩) (N k + 1) d) (N k + 1) (icells (F k) ++ [.int .i64 x]))
    (hat : (Value.slice (R k) (N k) (C k)).ownBlock = some b ∨ b = w.heap.size) :
    RowsG (w2.setCell ⟨g, k, none⟩ (.slice (some ⟨b, 0, none⟩) (N k + 1) d)) B (.slice (some ⟨g, 0, none⟩) n c) n (upN R k (some ⟨b, 0, none⟩)) (upN C k d) (upN N k (N k + 1)) (upN F k (F k ++ [x])) := by
  have own2 := h.own.kept hg (own_apart h.own (h.row k hk).2 (by decide))
  have hst := own2.stored k (.slice (some ⟨b, 0, none⟩) (N k + 1) d)
  have hob : (Value.slice (some ⟨g, 0, none⟩) n c).ownBlock = some g := by simp [Value.ownBlock]
  refine ⟨?_, fun i hi => ?_, fun i j hi hj hij => ?_⟩
  · have h1 := hst.1
    rw [map_range_set] at h1
    rw [List.map_congr_left (g := upN (fun i => Value.slice (R i) (N i) (C i)) k (.slice (some ⟨b, 0, none⟩) (N k + 1) d)) fun i _ => by
      by_cases e : i = k
      · subst e; simp only [upN_self]
      · simp only [upN_ne _ _ e]]
    exact h1
  · by_cases e : i = k
    · subst e
      simp only [upN_self]
      refine ⟨by rw [List.length_append, (h.row i hi).1]; rfl, ?_⟩
      rw [icells_append]
      refine World.ownsRow.kept ho hst.2 ?_
      rw [← hob]
      exact own_apart ho own2 (by decide)
    · simp only [upN_ne _ _ e]
      have hr := (h.row i hi).2.kept hg (h.apart i k hi hk e)
      refine ⟨(h.row i hi).1, hr.kept hst.2 ?_⟩
      rw [← hob]
      exact own_apart hr own2 (by decide)
  · have hlt : ∀ i, i < n → ∀ m, (Value.slice (R i) (N i) (C i)).ownBlock = some m → m < w.heap.size := fun i hi m hm => ((h.row i hi).2.lt m hm).2
    have hbn : (Value.slice (some ⟨b, 0, none⟩) (N k + 1) d).ownBlock = some b := by simp [Value.ownBlock]
    by_cases e : i = k
    · subst e
      simp only [upN_self, upN_ne _ _ (fun h => hij h.symm), hbn]
      right
      intro e2
      rcases hat with h1 | h1
      · rcases h.apart i j hi hj hij with h2 | h2
        · rw [h1] at h2; cases h2
        · exact h2 (h1.trans e2)
      · have := hlt j hj b e2.symm
        omega
    · by_cases e2 : j = k
      · subst e2
        simp only [upN_self, upN_ne _ _ e, hbn]
        cases hq : (Value.slice (R i) (N i) (C i)).ownBlock with
        | none => exact .inl rfl
        | some m =>
          right
          intro e3
          have e4 : m = b := by simpa using e3
          subst e4
          rcases hat with h1 | h1
          · rcases h.apart i j hi hj hij with h2 | h2
            · rw [hq] at h2; cases h2
            · exact h2 (hq.trans h1.symm)
          · have := hlt i hi m hq
            omega
      · simp only [upN_ne _ _ e, upN_ne _ _ e2]
        exact h.apart i j hi hj hij
end
end Go.Proofs.Ytdlkfejcfnflmaa
/-
  PARTIES AS PLAIN LISTS: what a party is, how many pairs it can have. Nothing here speaks of the program.
-/
namespace Go.Proofs.Ytdlkfejcfnflmaa

def pairLess (a b : Int × Int) : Bool := decide (a.1 < b.1 ∨ a.1 = b.1 ∧ a.2 < b.2)
def goodAt (p : Int) (l : PL) (i : Nat) : Bool :=
  match l[i]? with
  | none => true
  | some (x, y) => decide (0 ≤ x ∧ x < y ∧ y < p) && (i == 0 || match l[i - 1]? with | none => true | some q => pairLess q (x, y))
def isP (p : Int) (l : PL) : Bool := decide (0 ≤ p ∧ p ≤ 12) && (List.range l.length).all (goodAt p l)

theorem isP_of (p : Int) (l : PL) (h0 : 0 ≤ p) (h1 : p ≤ 12) (h : ∀ i, i < l.length → goodAt p l i = true) : isP p l = true := by
  simp only [isP, Bool.and_eq_true, decide_eq_true_eq, List.all_eq_true, List.mem_range]
  exact ⟨⟨h0, h1⟩, h⟩
theorem isP_no (p : Int) (l : PL) {i : Nat} (hi : i < l.length) (h : goodAt p l i = false) : isP p l = false := by
  cases he : isP p l with
  | false => rfl
  | true =>
    simp only [isP, Bool.and_eq_true, decide_eq_true_eq, List.all_eq_true, List.mem_range] at he
    rw [he.2 i hi] at h
    cases h
theorem isP_out (p : Int) (l : PL) (h : p < 0 ∨ 12 < p) : isP p l = false := by
  simp only [isP, Bool.and_eq_false_iff, decide_eq_false_iff_not]
  left
  omega
theorem isP_range {p : Int} {l : PL} (h : isP p l = true) : 0 ≤ p ∧ p ≤ 12 := by
  simp only [isP, Bool.and_eq_true, decide_eq_true_eq] at h
  exact h.1
theorem isP_good {p : Int} {l : PL} (h : isP p l = true) {i : Nat} (hi : i < l.length) : goodAt p l i = true := by
  simp only [isP, Bool.and_eq_true, decide_eq_true_eq, List.all_eq_true, List.mem_range] at h
  exact h.2 i hi
theorem goodAt_pair {p : Int} {l : PL} {i : Nat} {x y : Int} (h : goodAt p l i = true) (hx : l[i]? = some (x, y)) : 0 ≤ x ∧ x < y ∧ y < p := by
  simp only [goodAt, hx, Bool.and_eq_true, decide_eq_true_eq] at h
  exact h.1
theorem goodAt_less {p : Int} {l : PL} {i : Nat} {x y x' y' : Int} (h : goodAt p l (i + 1) = true) (hx : l[i]? = some (x, y)) (hx' : l[i + 1]? = some (x', y')) : x < x' ∨ x = x' ∧ y < y' := by
  simp only [goodAt, hx', Nat.add_sub_cancel, hx, Bool.and_eq_true, Bool.or_eq_true, pairLess, decide_eq_true_eq] at h
  rcases h.2 with h | h
  · simp at h
  · exact h
theorem goodAt_first {p : Int} {l : PL} {x y : Int} (hx : l[0]? = some (x, y)) (h : 0 ≤ x ∧ x < y ∧ y < p) : goodAt p l 0 = true := by
  simp [goodAt, hx, h.1, h.2.1, h.2.2]
theorem goodAt_next {p : Int} {l : PL} {i : Nat} {x y x' y' : Int} (hx : l[i]? = some (x, y)) (hx' : l[i + 1]? = some (x', y')) (h : 0 ≤ x' ∧ x' < y' ∧ y' < p) (hl : x < x' ∨ x = x' ∧ y < y') : goodAt p l (i + 1) = true := by
  simp only [goodAt, hx', Nat.add_sub_cancel, hx, Bool.and_eq_true, Bool.or_eq_true, pairLess, decide_eq_true_eq]
  exact ⟨h, .inr hl⟩
theorem goodAt_bad {p : Int} {l : PL} {i : Nat} {x y : Int} (hx : l[i]? = some (x, y)) (h : ¬ (0 ≤ x ∧ x < y ∧ y < p)) : goodAt p l i = false := by
  simp only [goodAt, hx, Bool.and_eq_false_iff, decide_eq_false_iff_not]
  exact .inl h
theorem goodAt_stale {p : Int} {l : PL} {i : Nat} {x y x' y' : Int} (hx : l[i]? = some (x, y)) (hx' : l[i + 1]? = some (x', y')) (hl : ¬ (x < x' ∨ x = x' ∧ y < y')) : goodAt p l (i + 1) = false := by
  cases h : goodAt p l (i + 1) with
  | false => rfl
  | true => exact absurd (goodAt_less h hx hx') hl

theorem goodAt_zero {p : Int} {l : PL} {k : Nat} {x y : Int} (hk : k = 0) (hx : l[k]? = some (x, y)) (h : 0 ≤ x ∧ x < y ∧ y < p) : goodAt p l k = true := by subst hk; exact goodAt_first hx h
theorem goodAt_later {p : Int} {l : PL} {k : Nat} {x y x' y' : Int} (hk : 0 < k) (hx : l[k - 1]? = some (x, y)) (hx' : l[k]? = some (x', y')) (h : 0 ≤ x' ∧ x' < y' ∧ y' < p) (hl : x < x' ∨ x = x' ∧ y < y') : goodAt p l k = true := by
  obtain ⟨j, rfl⟩ : ∃ j, k = j + 1 := ⟨k - 1, by omega⟩
  exact goodAt_next hx hx' h hl
theorem goodAt_stale' {p : Int} {l : PL} {k : Nat} {x y x' y' : Int} (hk : 0 < k) (hx : l[k - 1]? = some (x, y)) (hx' : l[k]? = some (x', y')) (hl : ¬ (x < x' ∨ x = x' ∧ y < y')) : goodAt p l k = false := by
  obtain ⟨j, rfl⟩ : ∃ j, k = j + 1 := ⟨k - 1, by omega⟩
  exact goodAt_stale hx hx' hl

/-- Twice the number of pairs that come before a pair. -/
def rank2 (p x y : Int) : Int := 2 * (x * p) + 2 * y - x * x - 3 * x - 2
theorem small_cases {x : Int} (h0 : 0 ≤ x) (h1 : x ≤ 11) : x = 0 ∨ x = 1 ∨ x = 2 ∨ x = 3 ∨ x = 4 ∨ x = 5 ∨ x = 6 ∨ x = 7 ∨ x = 8 ∨ x = 9 ∨ x = 10 ∨ x = 11 := by omega
theorem rank2_step {p x y x' y' : Int} (hp : p ≤ 12) (h : 0 ≤ x ∧ x < y ∧ y < p) (h' : 0 ≤ x' ∧ x' < y' ∧ y' < p) (hl : x < x' ∨ x = x' ∧ y < y') : rank2 p x y + 2 ≤ rank2 p x' y' := by
  unfold rank2
  rcases small_cases h.1 (by omega) with rfl | rfl | rfl | rfl | rfl | rfl | rfl | rfl | rfl | rfl | rfl | rfl <;>
  rcases small_cases h'.1 (by omega) with rfl | rfl | rfl | rfl | rfl | rfl | rfl | rfl | rfl | rfl | rfl | rfl <;> omega
theorem rank2_lo {p x y : Int} (hp : p ≤ 12) (h : 0 ≤ x ∧ x < y ∧ y < p) : 0 ≤ rank2 p x y := by
  unfold rank2
  rcases small_cases h.1 (by omega) with rfl | rfl | rfl | rfl | rfl | rfl | rfl | rfl | rfl | rfl | rfl | rfl <;> omega
theorem people_cases {p : Int} (h0 : 0 ≤ p) (h1 : p ≤ 12) : p = 0 ∨ p = 1 ∨ p = 2 ∨ p = 3 ∨ p = 4 ∨ p = 5 ∨ p = 6 ∨ p = 7 ∨ p = 8 ∨ p = 9 ∨ p = 10 ∨ p = 11 ∨ p = 12 := by omega
theorem rank2_hi {p x y : Int} (hp : p ≤ 12) (h : 0 ≤ x ∧ x < y ∧ y < p) : rank2 p x y + 2 ≤ p * (p - 1) := by
  have h0 : 0 ≤ p := by omega
  unfold rank2
  rcases people_cases h0 hp with rfl | rfl | rfl | rfl | rfl | rfl | rfl | rfl | rfl | rfl | rfl | rfl | rfl <;>
  rcases small_cases h.1 (by omega) with rfl | rfl | rfl | rfl | rfl | rfl | rfl | rfl | rfl | rfl | rfl | rfl <;> omega
theorem people_sq {p : Int} (h0 : 0 ≤ p) (h1 : p ≤ 12) : 0 ≤ p * (p - 1) ∧ p * (p - 1) ≤ 132 := by
  rcases people_cases h0 h1 with rfl | rfl | rfl | rfl | rfl | rfl | rfl | rfl | rfl | rfl | rfl | rfl | rfl <;> omega
theorem isP_rank {p : Int} {l : PL} (h : isP p l = true) : ∀ (i : Nat) (x y : Int), l[i]? = some (x, y) → 2 * (i : Int) ≤ rank2 p x y := by
  intro i
  induction i with
  | zero =>
    intro x y hx
    have hl : 0 < l.length := (List.getElem?_eq_some_iff.1 hx).1
    have := rank2_lo (isP_range h).2 (goodAt_pair (isP_good h hl) hx)
    omega
  | succ i ih =>
    intro x y hx
    have hl : i + 1 < l.length := (List.getElem?_eq_some_iff.1 hx).1
    obtain ⟨⟨x', y'⟩, hx'⟩ := getSome l i (by omega)
    have h1 := ih _ _ hx'
    have h2 := rank2_step (isP_range h).2 (goodAt_pair (isP_good h (by omega)) hx') (goodAt_pair (isP_good h hl) hx) (goodAt_less (isP_good h hl) hx' hx)
    omega
/-- A party has no more pairs than there are. -/
theorem isP_length {p : Int} {l : PL} (h : isP p l = true) : 2 * (l.length : Int) ≤ p * (p - 1) := by
  have hr := isP_range h
  by_cases hl : l.length = 0
  · have := people_sq hr.1 hr.2
    omega
  · obtain ⟨⟨x, y⟩, hx⟩ := getSome l (l.length - 1) (by omega)
    have h1 := isP_rank h _ _ _ hx
    have h2 := rank2_hi hr.2 (goodAt_pair (isP_good h (by omega)) hx)
    omega
theorem isP_many {p : Int} {l : PL} (h : p * (p - 1) < 2 * (l.length : Int)) : isP p l = false := by
  cases he : isP p l with
  | false => rfl
  | true => have := isP_length he; omega
end Go.Proofs.Ytdlkfejcfnflmaa
/-
  ALL PAIRS IN THEIR ORDER; a party's pairs are those of all that it has, in that order. Nothing here speaks of the program.
-/
namespace Go.Proofs.Ytdlkfejcfnflmaa

def plt (a b : Int × Int) : Prop := a.1 < b.1 ∨ a.1 = b.1 ∧ a.2 < b.2
theorem plt_trans {a b c : Int × Int} (h : plt a b) (k : plt b c) : plt a c := by unfold plt at *; omega
theorem plt_irrefl (a : Int × Int) : ¬ plt a a := by unfold plt; omega
theorem plt_asymm {a b : Int × Int} (h : plt a b) : ¬ plt b a := by unfold plt at *; omega

theorem sorted_ext : ∀ {l m : PL}, l.Pairwise plt → m.Pairwise plt → (∀ q, q ∈ l ↔ q ∈ m) → l = m
  | [], [], _, _, _ => rfl
  | [], b :: m, _, _, h => by have := (h b).2 (List.mem_cons_self ..); cases this
  | a :: l, [], _, _, h => by have := (h a).1 (List.mem_cons_self ..); cases this
  | a :: l, b :: m, hl, hm, h => by
    rw [List.pairwise_cons] at hl hm
    have hab : a = b := by
      rcases List.mem_cons.1 ((h a).1 (List.mem_cons_self ..)) with e | e
      · exact e
      · rcases List.mem_cons.1 ((h b).2 (List.mem_cons_self ..)) with e' | e'
        · exact e'.symm
        · exact absurd (hm.1 a e) (plt_asymm (hl.1 b e'))
    subst hab
    rw [sorted_ext hl.2 hm.2 fun q => ?_]
    constructor
    · intro hq
      rcases List.mem_cons.1 ((h q).1 (List.mem_cons_of_mem _ hq)) with e | e
      · subst e; exact absurd (hl.1 q hq) (plt_irrefl q)
      · exact e
    · intro hq
      rcases List.mem_cons.1 ((h q).2 (List.mem_cons_of_mem _ hq)) with e | e
      · subst e; exact absurd (hm.1 q hq) (plt_irrefl q)
      · exact e

/-- what a party is, said of its list -/
def IsList (p : Int) (l : PL) : Prop := 0 ≤ p ∧ p ≤ 12 ∧ (∀ q ∈ l, 0 ≤ q.1 ∧ q.1 < q.2 ∧ q.2 < p) ∧ l.Pairwise plt
theorem isP_list {p : Int} {l : PL} (h : isP p l = true) : IsList p l := by
  have hr := isP_range h
  refine ⟨hr.1, hr.2, ?_, ?_⟩
  · intro q hq
    obtain ⟨i, hi, rfl⟩ := List.getElem_of_mem hq
    exact goodAt_pair (isP_good h hi) (List.getElem?_eq_getElem hi)
  · rw [List.pairwise_iff_getElem]
    have step : ∀ (d i : Nat) (hi : i < l.length) (hj : i + d + 1 < l.length), plt l[i] l[i + d + 1] := by
      intro d
      induction d with
      | zero => intro i hi hj; exact goodAt_less (isP_good h hj) (List.getElem?_eq_getElem (by omega)) (List.getElem?_eq_getElem hj)
      | succ d ih =>
        intro i hi hj
        exact plt_trans (ih i hi (by omega)) (goodAt_less (p := p) (l := l) (i := i + d + 1) (isP_good h (by omega)) (List.getElem?_eq_getElem (by omega)) (List.getElem?_eq_getElem (by omega)))
    intro i j hi hj hij
    have e : j = i + (j - i - 1) + 1 := by omega
    have := step (j - i - 1) i hi (by omega)
    simpa only [← e] using this
theorem isP_of_list {p : Int} {l : PL} (h : IsList p l) : isP p l = true := by
  obtain ⟨h0, h1, hm, hs⟩ := h
  refine isP_of p l h0 h1 fun i hi => ?_
  have hx : l[i]? = some (l[i].1, l[i].2) := List.getElem?_eq_getElem hi
  have hg := hm l[i] (List.getElem_mem hi)
  rcases i with _ | i
  · exact goodAt_first hx hg
  · have hx' : l[i]? = some (l[i].1, l[i].2) := List.getElem?_eq_getElem (by omega)
    exact goodAt_next hx' hx hg ((List.pairwise_iff_getElem.1 hs) i (i + 1) (by omega) hi (by omega))

def rowP (a n : Nat) : PL := (List.range' (a + 1) (n - (a + 1))).map fun b : Nat => ((a : Int), (b : Int))
def allP (n : Nat) : PL := (List.range n).flatMap fun a => rowP a n
theorem mem_rowP {a n : Nat} {q : Int × Int} : q ∈ rowP a n ↔ q.1 = a ∧ q.1 < q.2 ∧ q.2 < n := by
  obtain ⟨x, y⟩ := q
  simp only [rowP, List.mem_map, List.mem_range'_1, Prod.mk.injEq]
  constructor
  · rintro ⟨b, hb, rfl, rfl⟩; omega
  · rintro ⟨rfl, h1, h2⟩; exact ⟨y.toNat, by omega, rfl, by omega⟩
theorem mem_allP {n : Nat} {q : Int × Int} : q ∈ allP n ↔ 0 ≤ q.1 ∧ q.1 < q.2 ∧ q.2 < n := by
  simp only [allP, List.mem_flatMap, List.mem_range, mem_rowP]
  constructor
  · rintro ⟨a, ha, h1, h2, h3⟩; omega
  · rintro ⟨h0, h1, h2⟩; exact ⟨q.1.toNat, by omega, by omega, h1, h2⟩
theorem sorted_rowP (a n : Nat) : (rowP a n).Pairwise plt := by
  unfold rowP
  rw [List.pairwise_map]
  exact List.Pairwise.imp (fun {b c} h => Or.inr ⟨rfl, by omega⟩) List.pairwise_lt_range'
theorem sorted_allP (n : Nat) : (allP n).Pairwise plt := by
  unfold allP
  rw [List.pairwise_flatMap]
  refine ⟨fun a _ => sorted_rowP a n, ?_⟩
  refine List.Pairwise.imp (fun {a b} h x hx y hy => ?_) (List.pairwise_lt_range (n := n))
  have h1 := mem_rowP.1 hx
  have h2 := mem_rowP.1 hy
  exact .inl (by omega)
theorem filter_list {n : Nat} (hn : n ≤ 12) (f : Int × Int → Bool) : IsList n ((allP n).filter f) := by
  refine ⟨by omega, by omega, fun q hq => ?_, (sorted_allP n).filter _⟩
  exact mem_allP.1 (List.mem_filter.1 hq).1
theorem filter_isP {n : Nat} (hn : n ≤ 12) (f : Int × Int → Bool) : isP n ((allP n).filter f) = true := isP_of_list (filter_list hn f)
/-- A party's pairs are those of all that it has. -/
theorem isP_filter {n : Nat} {l : PL} (h : isP n l = true) : (allP n).filter (fun q => l.contains q) = l := by
  obtain ⟨_, _, hm, hs⟩ := isP_list h
  refine sorted_ext ((sorted_allP n).filter _) hs fun q => ?_
  rw [List.mem_filter, List.contains_iff_mem]
  exact ⟨fun hq => hq.2, fun hq => ⟨mem_allP.2 (hm q hq), hq⟩⟩
theorem allP_length_le {n : Nat} (hn : n ≤ 12) : (allP n).length ≤ 66 := by
  have h := isP_length (filter_isP hn fun _ => true)
  have h2 := people_sq (p := (n : Int)) (by omega) (by omega)
  rw [List.filter_eq_self.2 (by simp)] at h
  omega
theorem filter_length_le {n : Nat} (hn : n ≤ 12) (f : Int × Int → Bool) : ((allP n).filter f).length ≤ 66 := Nat.le_trans (List.length_filter_le _ _) (allP_length_le hn)
/-- The pairs before the pair (a, b) in the order. -/
def upTo (n a b : Nat) : PL := ((List.range a).flatMap fun a => rowP a n) ++ (List.range' (a + 1) (b - (a + 1))).map fun b : Nat => ((a : Int), (b : Int))
theorem upTo_start (n : Nat) : upTo n 0 1 = [] := rfl
theorem upTo_next {n a b : Nat} (h : a < b) : upTo n a (b + 1) = upTo n a b ++ [((a : Int), (b : Int))] := by
  unfold upTo
  rw [List.append_assoc, show b + 1 - (a + 1) = (b - (a + 1)) + 1 from by omega, List.range'_concat]
  simp
  omega
theorem upTo_row (n a : Nat) : upTo n a n = upTo n (a + 1) (a + 1 + 1) := by
  unfold upTo
  rw [List.range_succ, List.flatMap_append]
  simp [rowP]
theorem upTo_begin (n a : Nat) : upTo n a (a + 1) = (List.range a).flatMap fun a => rowP a n := by simp [upTo]
theorem upTo_all (n : Nat) : upTo n n (n + 1) = allP n := by rw [upTo_begin]; rfl
end Go.Proofs.Ytdlkfejcfnflmaa
/-
  LISTS OF PEOPLE WHO ARE TIED, TWO AND TWO, as plain lists; sets of people as numbers of sixteen bits. Nothing here speaks of the program.
-/
namespace Go.Proofs.Ytdlkfejcfnflmaa
open Go.RowKit

/-- the lists of so many more of the candidates behind those told, in order; every candidate is tied to all told -/
def listsC (t : Nat → Nat → Bool) : Nat → List Int → List Nat → List (List Int)
  | 0, told, _ => [told]
  | _ + 1, _, [] => []
  | k + 1, told, a :: cs => listsC t k (told ++ [(a : Int)]) (cs.filter (t a)) ++ listsC t (k + 1) told cs
termination_by k _ cs => (k, cs.length)
theorem listsC_zero (t : Nat → Nat → Bool) (told : List Int) (cs : List Nat) : listsC t 0 told cs = [told] := by cases cs <;> simp [listsC]
theorem listsC_nil (t : Nat → Nat → Bool) (k : Nat) (told : List Int) : listsC t (k + 1) told [] = [] := by simp [listsC]
theorem listsC_cons (t : Nat → Nat → Bool) (k : Nat) (told : List Int) (a : Nat) (cs : List Nat) :
    listsC t (k + 1) told (a :: cs) = listsC t k (told ++ [(a : Int)]) (cs.filter (t a)) ++ listsC t (k + 1) told cs := by rw [listsC]

/-- a number's bits are those of a rising list -/
structure IsSet (J : Nat) (cs : List Nat) : Prop where
  up : cs.Pairwise (· < ·)
  lt : ∀ b ∈ cs, b < 16
  mem : ∀ b, J.testBit b = true ↔ b ∈ cs
theorem IsSet.small {J : Nat} {cs : List Nat} (h : IsSet J cs) : J < 65536 := by
  refine Nat.lt_pow_two_of_testBit (n := 16) J fun i hi => ?_
  cases e : J.testBit i with
  | false => rfl
  | true => have := h.lt i ((h.mem i).1 e); omega
theorem IsSet.zero {J : Nat} (h : IsSet J []) : J = 0 := by
  refine Nat.eq_of_testBit_eq fun i => ?_
  rw [Nat.zero_testBit]
  cases e : J.testBit i with
  | false => rfl
  | true => have := (h.mem i).1 e; simp at this
theorem IsSet.pos {J a : Nat} {cs : List Nat} (h : IsSet J (a :: cs)) : J ≠ 0 := by
  intro e
  have := (h.mem a).2 List.mem_cons_self
  rw [e, Nat.zero_testBit] at this
  cases this
theorem IsSet.least {J a : Nat} {cs : List Nat} (h : IsSet J (a :: cs)) : Lib.ctz 16 J = a := by
  have hp := h.pos
  have hs := h.small
  obtain ⟨m, hm, hk⟩ := Lib.ctzFrom_spec 16 J (by omega) hs
  have e : Lib.ctz 16 J = Lib.ctzFrom 16 J := by simp [Lib.ctz, hp]
  rw [e]
  generalize Lib.ctzFrom 16 J = c at *
  have hb : ∀ b, J.testBit b = (decide (c ≤ b) && (2 * m + 1).testBit (b - c)) := fun b => by rw [hm, Nat.testBit_two_pow_mul]
  have h1 : J.testBit c = true := by rw [hb]; simp
  have h2 := (h.mem c).1 h1
  have h3 := (h.mem a).2 List.mem_cons_self
  rw [hb] at h3
  have h4 : c ≤ a := by simp only [Bool.and_eq_true, decide_eq_true_eq] at h3; exact h3.1
  rcases List.mem_cons.1 h2 with h5 | h5
  · exact h5
  · have := (List.pairwise_cons.1 h.up).1 c h5
    omega
theorem bit_off : ∀ a : Fin 16, ∀ b : Fin 16, (65535 - 2 ^ a.val).testBit b.val = decide (b.val ≠ a.val) := by decide
theorem IsSet.tail {J a : Nat} {cs : List Nat} (h : IsSet J (a :: cs)) : IsSet (J &&& (65535 - 2 ^ a)) cs := by
  have ha := h.lt a List.mem_cons_self
  have hp := List.pairwise_cons.1 h.up
  refine ⟨hp.2, fun b hb => h.lt b (List.mem_cons_of_mem _ hb), fun b => ?_⟩
  rw [Nat.testBit_and, Bool.and_eq_true, h.mem, List.mem_cons]
  constructor
  · rintro ⟨h1, h2⟩
    rcases h1 with rfl | h1
    · have := bit_off ⟨b, ha⟩ ⟨b, ha⟩
      simp only [ne_eq, not_true_eq_false, decide_false] at this
      rw [this] at h2
      cases h2
    · exact h1
  · intro hb
    have hb16 := h.lt b (List.mem_cons_of_mem _ hb)
    have := hp.1 b hb
    refine ⟨.inr hb, ?_⟩
    rw [bit_off ⟨a, ha⟩ ⟨b, hb16⟩]
    simp only [ne_eq, decide_eq_true_eq]
    omega
theorem IsSet.inter {J T : Nat} {cs : List Nat} {f : Nat → Bool} (h : IsSet J cs) (hT : ∀ b, b < 16 → T.testBit b = f b) : IsSet (J &&& T) (cs.filter f) := by
  refine ⟨h.up.filter _, fun b hb => h.lt b (List.mem_filter.1 hb).1, fun b => ?_⟩
  rw [Nat.testBit_and, Bool.and_eq_true, h.mem, List.mem_filter]
  constructor
  · rintro ⟨h1, h2⟩
    rw [hT b (h.lt b h1)] at h2
    exact ⟨h1, h2⟩
  · rintro ⟨h1, h2⟩
    exact ⟨h1, by rw [hT b (h.lt b h1)]; exact h2⟩
theorem IsSet.people {n : Nat} (hn : n ≤ 16) : IsSet (2 ^ n - 1) (List.range n) := by
  refine ⟨List.pairwise_lt_range, fun b hb => by have := List.mem_range.1 hb; omega, fun b => ?_⟩
  rw [Nat.testBit_two_pow_sub_one, decide_eq_true_eq, List.mem_range]
end Go.Proofs.Ytdlkfejcfnflmaa
/-
  WHAT A PARTY IS: the reference model's look and the program's, by their contracts: both answer 'isP'.
-/
namespace Go.Proofs.Ytdlkfejcfnflmaa
open Go.RowKit

def l1InB (n lo hi : Int) : Bool := decide (lo ≤ n ∧ n ≤ hi)
set_option maxHeartbeats 400000 in
theorem l1In_any (n lo hi : Int) (w : World) : Calls Try.prog 12 #[.int .i64 n, .int .i64 lo, .int .i64 hi] w fun e w' => e = .returned (.bool (l1InB n lo hi)) ∧ w = w' := by
  by_cases h1 : lo ≤ n
  · by_cases h2 : n ≤ hi
    · have e : l1InB n lo hi = true := decide_eq_true ⟨h1, h2⟩
      rw [e]
      clear e
      go_enter Try.func12, Try.ntmps12
      go_wp2
      go_ret
      exact ⟨rfl, rfl⟩
    · have e : l1InB n lo hi = false := decide_eq_false (by omega)
      rw [e]
      clear e
      go_enter Try.func12, Try.ntmps12
      go_wp2
      go_ret
      exact ⟨rfl, rfl⟩
  · have e : l1InB n lo hi = false := decide_eq_false (by omega)
    rw [e]
    clear e
    go_enter Try.func12, Try.ntmps12
    go_wp2
    go_ret
    exact ⟨rfl, rfl⟩
theorem l1In_yes (n lo hi : Int) (h : lo ≤ n) (h' : n ≤ hi) (w : World) : Calls Try.prog 12 #[.int .i64 n, .int .i64 lo, .int .i64 hi] w fun e w' => e = .returned (.bool true) ∧ w = w' :=
  (l1In_any n lo hi w).mono fun _ _ hh => by rwa [show l1InB n lo hi = true from decide_eq_true ⟨h, h'⟩] at hh
theorem l1In_no (n lo hi : Int) (h : n < lo ∨ hi < n) (w : World) : Calls Try.prog 12 #[.int .i64 n, .int .i64 lo, .int .i64 hi] w fun e w' => e = .returned (.bool false) ∧ w = w' :=
  (l1In_any n lo hi w).mono fun _ _ hh => by rwa [show l1InB n lo hi = false from decide_eq_false (by omega)] at hh

end Go.Proofs.Ytdlkfejcfnflmaa
/-
  THE PROGRAM's OWN LOOK AT A PARTY: comparisons of numbers and of pairs, 'impl.IsParty', by their contracts.
-/
namespace Go.Proofs.Ytdlkfejcfnflmaa
open Go.RowKit

def cmpI (a b : Int) : Int := if a < b then -1 else if b < a then 1 else 0
set_option maxHeartbeats 400000 in
theorem isNaN_any (a : Int) (w : World) : Calls Try.prog 35 #[.int .i64 a] w fun e w' => e = .returned (.bool false) ∧ w = w' := by
  go_enter Try.func35, Try.ntmps35
  go_wp2
  go_ret
  exact ⟨by simp, rfl⟩
set_option maxHeartbeats 400000 in
theorem compare_any (a b : Int) (w : World) : Calls Try.prog 32 #[.int .i64 a, .int .i64 b] w fun e w' => e = .returned (.int .i64 (cmpI a b)) ∧ w = w' := by
  by_cases h1 : a < b
  · have e : cmpI a b = -1 := if_pos h1
    rw [e]
    clear e
    go_enter Try.func32, Try.ntmps32
    go_wp2_with (go_at_call 35; refine (isNaN_any _ _).mono ?_; rintro e w' ⟨rfl, rfl⟩)
    go_ret
    exact ⟨rfl, rfl⟩
  · by_cases h2 : b < a
    · have e : cmpI a b = 1 := by rw [cmpI, if_neg h1, if_pos h2]
      rw [e]
      clear e
      go_enter Try.func32, Try.ntmps32
      go_wp2_with (go_at_call 35; refine (isNaN_any _ _).mono ?_; rintro e w' ⟨rfl, rfl⟩)
      go_ret
      exact ⟨rfl, rfl⟩
    · have e : cmpI a b = 0 := by rw [cmpI, if_neg h1, if_neg h2]
      rw [e]
      clear e
      go_enter Try.func32, Try.ntmps32
      go_wp2_with (go_at_call 35; refine (isNaN_any _ _).mono ?_; rintro e w' ⟨rfl, rfl⟩)
      go_ret
      exact ⟨rfl, rfl⟩

def cmpP (a b c d : Int) : Int := if cmpI a c = 0 then cmpI b d else cmpI a c
theorem cmpP_less (a b c d : Int) : cmpP a b c d < 0 ↔ (a < c ∨ a = c ∧ b < d) := by
  unfold cmpP cmpI
  repeat' split
  all_goals omega
theorem cmpP_more {a b c d : Int} (h : ¬ (a < c ∨ a = c ∧ b < d)) : 0 ≤ cmpP a b c d := by
  have h1 : ¬ cmpP a b c d < 0 := fun h2 => h ((cmpP_less a b c d).1 h2)
  omega

end Go.Proofs.Ytdlkfejcfnflmaa
/-
  Parties and lists of numbers that a call comes back with.
-/
namespace Go.Proofs.Ytdlkfejcfnflmaa
open Go.RowKit

/-- A call came back with a list of numbers and a bool. -/
def GotIntsOk (w : World) (l : List Int) (ok : Bool) (e : Ending) (w' : World) : Prop :=
  ∃ A c, e = .returned (.tuple #[.slice A l.length c, .bool ok]) ∧ w'.ownsRow w.heap.size 3 1 (.slice A l.length c) l.length (icells l) ∧ Below w.heap.size w w'

end Go.Proofs.Ytdlkfejcfnflmaa
/-
  TABLES OF WHO IS WHOSE FRIEND, in memory of the call's own: one row of rows.
-/
namespace Go.Proofs.Ytdlkfejcfnflmaa
open Go.RowKit

def upd (t : Nat → Nat → Bool) (a b : Nat) (x : Bool) : Nat → Nat → Bool := fun i j => if i = a ∧ j = b then x else t i j
def adj (l : PL) (i j : Nat) : Bool := l.contains ((i : Int), (j : Int)) || l.contains ((j : Int), (i : Int))
theorem adj_nil : adj [] = fun _ _ => false := rfl
theorem adj_snoc (l : PL) (a b : Nat) : adj (l ++ [((a : Int), (b : Int))]) = upd (upd (adj l) a b true) b a true := by
  funext i j
  simp only [adj, upd, List.contains_append, List.contains_cons, List.contains_nil, Bool.or_false]
  have e1 : (((i : Int), (j : Int)) == ((a : Int), (b : Int))) = decide (i = a ∧ j = b) := by rw [Bool.eq_iff_iff]; simp; omega
  have e2 : (((j : Int), (i : Int)) == ((a : Int), (b : Int))) = decide (i = b ∧ j = a) := by rw [Bool.eq_iff_iff]; simp; omega
  rw [e1, e2]
  by_cases h1 : i = b ∧ j = a
  · simp [h1]
  · by_cases h2 : i = a ∧ j = b
    · simp [h2]
    · simp [h1, h2]
theorem adj_pair {n : Nat} {l : PL} (h : isP n l = true) {i j : Nat} (hij : i < j) : adj l i j = l.contains ((i : Int), (j : Int)) := by
  unfold adj
  have : l.contains ((j : Int), (i : Int)) = false := by
    rw [Bool.eq_false_iff]
    intro hc
    rw [List.contains_iff_mem] at hc
    have := (isP_list h).2.2.1 _ hc
    simp at this
    omega
  rw [this, Bool.or_false]
theorem adj_comm (l : PL) (i j : Nat) : adj l i j = adj l j i := by unfold adj; rw [Bool.or_comm]

theorem own_cap {w : World} {base : Nat} {e : TypeId} {size n c : Nat} {A : Option Addr} {xs : List Value} (h : w.ownsRow base e size (.slice A n c) n xs) : n ≤ c := by
  rcases h.2 with ⟨h1, h2⟩ | ⟨g, cap, cur, hv, _, _, hm, _, _⟩
  · omega
  · simp only [Value.slice.injEq] at hv
    omega
theorem own_shape {w : World} {B : Nat} {e : TypeId} {size m : Nat} {v : Value} {xs : List Value} (h : w.ownsRow B e size v m xs) : ∃ A c, v = .slice A m c ∧ m ≤ c + 0 ∧ c ≤ maxLen := by
  rcases h.2 with ⟨rfl, rfl⟩ | ⟨g, cap, cur, rfl, _, _, hm, hc, _⟩
  · exact ⟨none, 0, rfl, Nat.le_refl _, by simp [maxLen]⟩
  · exact ⟨_, cap, rfl, hm, hc⟩
/-- the one cell of a slice that was built for an append -/
theorem one_cell {w : World} {g : Nat} {v : Value} (h : w.cell? ⟨g, 0, none⟩ = some v) : ∀ j u, [v][j]? = some u → w.cell? ((⟨g, 0, none⟩ : Addr).add j) = some u := by
  intro j u hu
  match j, hu with
  | 0, hu => simp at hu; subst hu; simpa [Addr.add] using h
theorem one_one {v : Value} (h : v.oneCell' = true) : ∀ u ∈ [v], u.oneCell' = true := by
  intro u hu
  simp at hu
  subst hu
  exact h
end Go.Proofs.Ytdlkfejcfnflmaa
/-
  WHETHER A NUMBER IS IN A LIST: the model's look; a list's front.
-/
namespace Go.Proofs.Ytdlkfejcfnflmaa
open Go.RowKit

theorem icells_getD {l : List Int} {j : Nat} (h : j < l.length) : (icells l)[j]? = some (.int .i64 (l.getD j 0)) := by
  simp [icells, List.getD_eq_getElem?_getD, List.getElem?_eq_getElem h]
theorem CRead.ints {w : World} {B : Nat} {A : Option Addr} {q : List Int} (h : CRead w B A (icells q)) (hq : 0 < q.length) : ∃ b off, A = some ⟨b, off, none⟩ ∧ b < B ∧ ∀ j, j < q.length → w.cell? ⟨b, off + j, none⟩ = some (.int .i64 (q.getD j 0)) := by
  obtain ⟨b, off, rfl, hb, _⟩ := h 0 _ (icells_getD hq)
  refine ⟨b, off, rfl, hb, fun j hj => ?_⟩
  obtain ⟨b', off', e, _, hc⟩ := h j _ (icells_getD hj)
  simp only [Option.some.injEq, Addr.mk.injEq, and_true] at e
  obtain ⟨rfl, rfl⟩ := e
  exact hc

theorem CRead.front {w : World} {B : Nat} {A : Option Addr} {q : List Int} (h : CRead w B A (icells q)) (k : Nat) : CRead w B A (icells (q.take k)) := fun j u hu => by
  refine h j u ?_
  unfold icells at hu ⊢
  rw [List.map_take, List.getElem?_take] at hu
  split at hu
  · exact hu
  · cases hu


/-- whether a number is in a list -/
def hasI (q : List Int) (x : Int) : Bool := q.contains x
theorem hasI_mem {q : List Int} {x : Int} : hasI q x = true ↔ x ∈ q := List.contains_iff_mem
end Go.Proofs.Ytdlkfejcfnflmaa
/-
  'spec.l1Own': a copy of a list of numbers, by its contract.
-/
namespace Go.Proofs.Ytdlkfejcfnflmaa
open Go.RowKit

set_option maxHeartbeats 1000000 in
set_option maxRecDepth 100000 in
theorem l1Own_any (q : List Int) (A : Option Addr) (c : Nat) (w : World) (hq : q.length ≤ 1048576) (h0 : 0 < q.length) (hA : CRead w w.heap.size A (icells q)) :
    Calls Try.prog 22 #[.slice A q.length c] w fun e w' => ∃ A' c', e = .returned (.slice A' q.length c') ∧ w'.ownsRow w.heap.size 3 1 (.slice A' q.length c') q.length (icells q) ∧ Below w.heap.size w w' := by
  obtain ⟨i0, hi, hz0, hz1, hz2⟩ := info_parts Try.infoInt
  obtain ⟨b, off, rfl, hb, hr⟩ := hA.ints h0
  go_enter Try.func22, Try.ntmps22
  have hc : ∀ j u, (icells q)[j]? = some u → (w.alloc (Obj.cells #[] 3)).cell? ((⟨b, off, none⟩ : Addr).add j) = some u := fun j u hu => by
    rw [Addr.add_lit]
    obtain ⟨b', off', e, _, hcell⟩ := hA j u hu
    simp only [Option.some.injEq, Addr.mk.injEq, and_true] at e
    obtain ⟨rfl, rfl⟩ := e
    exact (World.cell?_alloc_lt _ _ _ hb).trans hcell
  clear hr
  go_wp2_with (at_builtin; refine wpList_append_grows _ rfl _ _ 34 rfl 3 i0 _ 1 8 Try.underlying34 hi hz0 hz1 hz2 rfl (by decide) (some ⟨w.heap.size, 0, none⟩) 0 0 [] rfl (fun h => by cases h) rfl (fun b' hb' m u hu => by simp at hu) ⟨b, off, none⟩ q.length c (icells q) rfl (by simp [icells]) hc (icells_one q) (by omega) (by unfold maxLen; omega) (by omega) ?_; intro v1 w4 own4 gr4; simp only [Nat.zero_add, List.nil_append] at own4; obtain ⟨A4, d4, rfl, _⟩ := own_shape own4)
  go_ret
  exact ⟨A4, d4, rfl, own_lower own4 (by simp), below_of_gb (gb_trans (World.grownBy_alloc w _ none) gr4) (Nat.le_refl _)⟩
end Go.Proofs.Ytdlkfejcfnflmaa
/-
  THE MODEL's TABLE OF A PARTY, AND THE PARTY OF A TABLE, by their contracts.
-/
namespace Go.Proofs.Ytdlkfejcfnflmaa
open Go.RowKit

end Go.Proofs.Ytdlkfejcfnflmaa
