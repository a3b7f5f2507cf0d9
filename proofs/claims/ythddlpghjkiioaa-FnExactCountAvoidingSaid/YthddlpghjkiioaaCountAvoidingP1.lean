/-
  Texts put together for the claims of 'CountAvoiding' (pack 1): Base, Said, Help, Mark, Pure, Good, Cmp, Got.
-/
import Derived.WalkKit
import Derived.Handy
import Derived.Lib.Hide
import Derived.BigQuiet
import Derived.Laws.OwnMore
import Derived.Test.YthddlpghjkiioaaRows
import Derived.ProofKit
import Derived.OpenShut
import Derived.Deep.SlicePairs
import Derived.Lib.SmallJoins
import Derived.Test.YthddlpghjkiioaaProg
import Derived.StillTailTactics
import Derived.Deep.RegionWith
/-
  THE BASE OF THIS SEAT's TEXTS: lists of pairs and of numbers as cells; 'CRead': a slice that reads as a list of cells; 'Ext': the worlds that differ from one only above a block; regions that draw their order and whose calls make memory. Nothing here speaks of the program.
-/
namespace Go.Proofs.Ythddlpghjkiioaa
open Go.RowKit

/-! ## Lists as cells -/
abbrev PL := List (Int × Int)
def pcells : PL → List Value
  | [] => []
  | p :: l => .int .i64 p.1 :: .int .i64 p.2 :: pcells l
def icells (l : List Int) : List Value := l.map (Value.int .i64)
def bcells (l : List Bool) : List Value := l.map Value.bool

theorem pcells_length (l : PL) : (pcells l).length = l.length * 2 := by
  induction l with
  | nil => rfl
  | cons p l ih => simp only [pcells, List.length_cons, ih]; omega
theorem icells_length (l : List Int) : (icells l).length = l.length := by simp [icells]
theorem bcells_length (l : List Bool) : (bcells l).length = l.length := by simp [bcells]
theorem pcells_append (l m : PL) : pcells (l ++ m) = pcells l ++ pcells m := by
  induction l with
  | nil => rfl
  | cons p l ih => simp [pcells, ih]
theorem icells_append (l m : List Int) : icells (l ++ m) = icells l ++ icells m := by simp [icells]
theorem pcells_fst {l : PL} {k : Nat} {x y : Int} (h : l[k]? = some (x, y)) : (pcells l)[k * 2]? = some (.int .i64 x) := by
  induction l generalizing k with
  | nil => simp at h
  | cons p l ih =>
    cases k with
    | zero => simp at h; subst h; rfl
    | succ k => rw [show (k + 1) * 2 = k * 2 + 2 from by omega]; simpa [pcells] using ih (by simpa using h)
theorem pcells_snd {l : PL} {k : Nat} {x y : Int} (h : l[k]? = some (x, y)) : (pcells l)[k * 2 + 1]? = some (.int .i64 y) := by
  induction l generalizing k with
  | nil => simp at h
  | cons p l ih =>
    cases k with
    | zero => simp at h; subst h; rfl
    | succ k => rw [show (k + 1) * 2 + 1 = k * 2 + 1 + 2 from by omega]; simpa [pcells] using ih (by simpa using h)
theorem pcells_set (l : PL) (k : Nat) (x y : Int) : ((pcells l).set (k * 2) (.int .i64 x)).set (k * 2 + 1) (.int .i64 y) = pcells (l.set k (x, y)) := by
  induction l generalizing k with
  | nil => rfl
  | cons p l ih =>
    cases k with
    | zero => rfl
    | succ k =>
      rw [show (k + 1) * 2 = k * 2 + 2 from by omega, show k * 2 + 2 + 1 = k * 2 + 1 + 2 from by omega]
      simp [pcells, ih k]
theorem pcells_one (l : PL) : ∀ u ∈ pcells l, u.oneCell' = true := by
  induction l with
  | nil => intro u h; cases h
  | cons p l ih => intro u h; simp [pcells] at h; rcases h with rfl | rfl | h <;> first | rfl | exact ih u h
theorem icells_one (l : List Int) : ∀ u ∈ icells l, u.oneCell' = true := by
  intro u h
  obtain ⟨x, _, rfl⟩ := List.mem_map.1 h
  rfl
theorem icells_at {l : List Int} {k : Nat} {x : Int} (h : l[k]? = some x) : (icells l)[k]? = some (.int .i64 x) := by simp [icells, h]
theorem icells_set (l : List Int) (k : Nat) (x : Int) : (icells l).set k (.int .i64 x) = icells (l.set k x) := by simp [icells]
theorem bcells_at {l : List Bool} {k : Nat} {x : Bool} (h : l[k]? = some x) : (bcells l)[k]? = some (.bool x) := by simp [bcells, h]
theorem bcells_set (l : List Bool) (k : Nat) (x : Bool) : (bcells l).set k (.bool x) = bcells (l.set k x) := by simp [bcells]
theorem getSome {α : Type} (l : List α) (k : Nat) (h : k < l.length) : ∃ x, l[k]? = some x := ⟨l[k], List.getElem?_eq_getElem h⟩

/-! ## A slice that reads as a list of cells; its block lies below B -/
def CRead (w : World) (B : Nat) (ad : Option Addr) (xs : List Value) : Prop :=
  ∀ j u, xs[j]? = some u → ∃ b off, ad = some ⟨b, off, none⟩ ∧ b < B ∧ w.cell? ⟨b, off + j, none⟩ = some u
section
variable {w w' : World} {B B' : Nat} {ad : Option Addr} {xs : List Value}
theorem CRead.below (h : CRead w B ad xs) (hb : Below B' w w') (hB : B ≤ B') : CRead w' B ad xs := fun j u hu =>
  let ⟨b, off, e, hb', hc⟩ := h j u hu
  ⟨b, off, e, hb', (hb.cell (by show b < B'; omega)).trans hc⟩
theorem CRead.more (h : CRead w B ad xs) (hB : B ≤ B') : CRead w B' ad xs := fun j u hu =>
  let ⟨b, off, e, hb', hc⟩ := h j u hu
  ⟨b, off, e, by omega, hc⟩
theorem CRead.nil : CRead w B ad [] := fun j u hu => by simp at hu
theorem CRead.pair {l : PL} (h : CRead w B ad (pcells l)) {k : Nat} {x y : Int} (hk : l[k]? = some (x, y)) :
    ∃ b off, ad = some ⟨b, off, none⟩ ∧ b < B ∧ w.cell? ⟨b, off + k * 2, none⟩ = some (.int .i64 x) ∧ w.cell? ⟨b, off + k * 2 + 1, none⟩ = some (.int .i64 y) := by
  obtain ⟨b, off, rfl, hb, h0⟩ := h _ _ (pcells_fst hk)
  obtain ⟨b', off', e, _, h1⟩ := h _ _ (pcells_snd hk)
  simp only [Option.some.injEq, Addr.mk.injEq, and_true] at e
  obtain ⟨rfl, rfl⟩ := e
  exact ⟨b, off, rfl, hb, h0, h1⟩
theorem CRead.int {l : List Int} (h : CRead w B ad (icells l)) {k : Nat} {x : Int} (hk : l[k]? = some x) :
    ∃ b off, ad = some ⟨b, off, none⟩ ∧ b < B ∧ w.cell? ⟨b, off + k, none⟩ = some (.int .i64 x) := h _ _ (icells_at hk)
theorem CRead.of_own {base : Nat} {e : TypeId} {size n c : Nat} {A : Option Addr} (h : w.ownsRow base e size (.slice A n c) n xs) : CRead w w.heap.size A xs := by
  intro j u hu
  rcases h.2 with ⟨h', h0⟩ | ⟨g, cap, cur, h', hb, hg, hnc, hcm, hcs, htake⟩
  · have hx : xs = [] := List.eq_nil_of_length_eq_zero (by simpa [h0] using h.1)
    subst hx
    simp at hu
  · simp only [Value.slice.injEq] at h'
    obtain ⟨rfl, _, rfl⟩ := h'
    refine ⟨g, 0, rfl, (Array.getElem?_eq_some_iff.1 hg).1, ?_⟩
    rw [Nat.zero_add, cell_of_row w g j cur e (0, 0) hg]
    rw [← htake, List.getElem?_take] at hu
    split at hu
    · simpa using hu
    · cases hu
end

/-! ## What the call owns -/
section
variable {w w' : World} {base : Nat} {e : TypeId} {size n g cap : Nat} {v : Value} {xs : List Value}
theorem below_grownBy {B : Nat} (h : Below B w w') (hB : w.heap.size ≤ B) (row : Option Nat) : w.grownBy w' row := ⟨h.os, h.tape, h.output, h.size, fun k hk _ => h.block k (by omega)⟩
theorem own_below (h : w.ownsRow base e size v n xs) {B : Nat} (hb : Below B w w') (hB : w.heap.size ≤ B) : w'.ownsRow base e size v n xs :=
  h.kept (below_grownBy hb hB none) (by cases v.ownBlock <;> simp)
theorem own_lower (h : w.ownsRow base e size v n xs) {base' : Nat} (hb : base' ≤ base) : w.ownsRow base' e size v n xs := by
  refine ⟨h.1, ?_⟩
  rcases h.2 with h' | ⟨g, cap, cur, hv, hg, rest⟩
  · exact .inl h'
  · exact .inr ⟨g, cap, cur, hv, by omega, rest⟩
theorem own_lt (h : w.ownsRow base e size (.slice (some ⟨g, 0, none⟩) n cap) n xs) : base ≤ g ∧ g < w.heap.size := h.lt g rfl
/-- a new world, some blocks from B on written and some new ones -/
theorem below_set2 {B : Nat} {a : World} (h : Below B a w) (hg : B ≤ g) (i j : Nat) (x y : Value) : Below B a ((w.setCell ⟨g, i, none⟩ x).setCell ⟨g, j, none⟩ y) :=
  (h.setCell (p := ⟨g, i, none⟩) hg x).setCell (p := ⟨g, j, none⟩) hg y
theorem own_setPair {l : PL} (h : w.ownsRow base e 2 (.slice (some ⟨g, 0, none⟩) n cap) n (pcells l)) (k : Nat) (x y : Int) :
    ((w.setCell ⟨g, k * 2, none⟩ (.int .i64 x)).setCell ⟨g, k * 2 + 1, none⟩ (.int .i64 y)).ownsRow base e 2 (.slice (some ⟨g, 0, none⟩) n cap) n (pcells (l.set k (x, y))) := by
  rw [← pcells_set]
  exact ((h.stored (k * 2) (.int .i64 x)).1.stored (k * 2 + 1) (.int .i64 y)).1
theorem own_pairAt {l : PL} (h : w.ownsRow base e 2 (.slice (some ⟨g, 0, none⟩) n cap) n (pcells l)) {k : Nat} {x y : Int} (hk : l[k]? = some (x, y)) :
    w.cell? ⟨g, k * 2, none⟩ = some (.int .i64 x) ∧ w.cell? ⟨g, k * 2 + 1, none⟩ = some (.int .i64 y) := by
  have hl : l.length = n := by have := h.1; rw [pcells_length] at this; omega
  have hkl : k < l.length := (List.getElem?_eq_some_iff.1 hk).1
  exact ⟨(h.cellAt _ (by omega)).trans (pcells_fst hk), (h.cellAt _ (by omega)).trans (pcells_snd hk)⟩
theorem own_intAt {l : List Int} (h : w.ownsRow base e 1 (.slice (some ⟨g, 0, none⟩) n cap) n (icells l)) {k : Nat} {x : Int} (hk : l[k]? = some x) : w.cell? ⟨g, k, none⟩ = some (.int .i64 x) := by
  have hl : l.length = n := by have := h.1; rw [icells_length] at this; omega
  have hkl : k < l.length := (List.getElem?_eq_some_iff.1 hk).1
  exact (h.cellAt _ (by omega)).trans (icells_at hk)
theorem own_setInt {l : List Int} (h : w.ownsRow base e 1 (.slice (some ⟨g, 0, none⟩) n cap) n (icells l)) (k : Nat) (x : Int) :
    (w.setCell ⟨g, k, none⟩ (.int .i64 x)).ownsRow base e 1 (.slice (some ⟨g, 0, none⟩) n cap) n (icells (l.set k x)) := by
  rw [← icells_set]
  exact (h.stored k (.int .i64 x)).1
theorem own_boolAt {l : List Bool} (h : w.ownsRow base e 1 (.slice (some ⟨g, 0, none⟩) n cap) n (bcells l)) {k : Nat} {x : Bool} (hk : l[k]? = some x) : w.cell? ⟨g, k, none⟩ = some (.bool x) := by
  have hl : l.length = n := by have := h.1; rw [bcells_length] at this; omega
  have hkl : k < l.length := (List.getElem?_eq_some_iff.1 hk).1
  exact (h.cellAt _ (by omega)).trans (bcells_at hk)
theorem own_setBool {l : List Bool} (h : w.ownsRow base e 1 (.slice (some ⟨g, 0, none⟩) n cap) n (bcells l)) (k : Nat) (x : Bool) :
    (w.setCell ⟨g, k, none⟩ (.bool x)).ownsRow base e 1 (.slice (some ⟨g, 0, none⟩) n cap) n (bcells (l.set k x)) := by
  rw [← bcells_set]
  exact (h.stored k (.bool x)).1
theorem made_pairs (n : Nat) : (madeCells #[.int .i64 0, .int .i64 0] (n * 2)).toList = pcells (List.replicate n (0, 0)) := by
  have hp : ∀ m j, (pcells (List.replicate m (0, 0)))[j]? = if j < m * 2 then some (.int .i64 0) else none := by
    intro m
    induction m with
    | zero => intro j; simp [pcells]
    | succ m ih =>
      intro j
      match j with
      | 0 => simp [List.replicate_succ, pcells]
      | 1 => simp [List.replicate_succ, pcells]; omega
      | j + 2 =>
        simp only [List.replicate_succ, pcells, List.getElem?_cons_succ, ih j]
        congr 1
        apply propext
        omega
  apply List.ext_getElem?
  intro j
  rw [hp]
  by_cases hj : j < n * 2
  · rw [if_pos hj]
    rcases Nat.mod_two_eq_zero_or_one j with h | h <;> simp [madeCells, hj, h]
  · rw [if_neg hj]
    simp [madeCells, hj]
theorem made_ints (n : Nat) : (madeCells #[.int .i64 0] (n * 1)).toList = icells (List.replicate n 0) := by rw [Nat.mul_one, toList_madeCells_one]; simp [icells]
theorem made_bools (n : Nat) : (madeCells #[.bool false] (n * 1)).toList = bcells (List.replicate n false) := by rw [Nat.mul_one, toList_madeCells_one]; simp [bcells]
end

theorem gb_trans {a b c : World} {row : Option Nat} (h : a.grownBy b row) (k : b.grownBy c row) : a.grownBy c row :=
  ⟨k.os.trans h.os, k.tape.trans h.tape, k.output.trans h.output, Nat.le_trans h.size k.size, fun i hi hne => (k.block i (Nat.lt_of_lt_of_le hi h.size) hne).trans (h.block i hi hne)⟩
theorem gb_below {a b c : World} {row : Option Nat} {B : Nat} (h : a.grownBy b row) (k : Below B b c) (hB : a.heap.size ≤ B) : a.grownBy c row :=
  ⟨k.os.trans h.os, k.tape.trans h.tape, k.output.trans h.output, Nat.le_trans h.size k.size, fun i hi hne => (k.block i (by omega)).trans (h.block i hi hne)⟩
theorem below_gb {a b c : World} {row : Option Nat} {B : Nat} (h : Below B a b) (k : b.grownBy c row) (hB : a.heap.size ≤ B) : a.grownBy c row :=
  ⟨k.os.trans h.os, k.tape.trans h.tape, k.output.trans h.output, Nat.le_trans h.size k.size, fun i hi hne => (k.block i (Nat.lt_of_lt_of_le hi h.size) hne).trans (h.block i (by omega))⟩

theorem below_of_gb {w w' : World} (h : w.grownBy w' none) {B : Nat} (hB : B ≤ w.heap.size) : Below B w w' := (Below.refl _ _).grown h hB (by simp)

/-- Behind a call that only makes memory: the rules by which the walk reads old cells. -/
theorem old_cells {B : Nat} {W w1 : World} (hb : Below B W w1) : (∀ b o, b < B → w1.cell? ⟨b, o, none⟩ = W.cell? ⟨b, o, none⟩) ∧ (∀ b o, b < B → w1.frozen? ⟨b, o, none⟩ = W.frozen? ⟨b, o, none⟩) :=
  ⟨fun b o h => hb.cell (p := ⟨b, o, none⟩) h, fun b o h => hb.frozen (p := ⟨b, o, none⟩) h⟩

theorem own_far {w : World} {base : Nat} {e : TypeId} {size n g cap : Nat} {xs : List Value} (h : w.ownsRow base e size (.slice (some ⟨g, 0, none⟩) n cap) n xs) {p : Addr} (hp : p.block ≠ g) (u : Value) :
    (w.setCell p u).ownsRow base e size (.slice (some ⟨g, 0, none⟩) n cap) n xs := by
  rcases h.2 with ⟨h', _⟩ | ⟨g', cap', cur, h', hb, hg, rest⟩
  · simp at h'
  · simp only [Value.slice.injEq, Option.some.injEq, Addr.mk.injEq, and_true, true_and] at h'
    obtain ⟨rfl, rfl⟩ := h'
    exact ⟨h.1, .inr ⟨g, cap, cur, rfl, hb, by rw [Below.heap_setCell _ _ _ _ (Ne.symm hp)]; exact hg, rest⟩⟩

/-! ## Marks -/
def marks (k : Int) (n : Nat) : PL := (List.range n).map fun i : Nat => (k + 2 * (i : Int), k + 2 * (i : Int) + 1)
def imarks (k : Int) (n : Nat) : List Int := (List.range n).map fun i : Nat => k + (i : Int)
theorem marks_length (k : Int) (n : Nat) : (marks k n).length = n := by simp [marks]
theorem imarks_length (k : Int) (n : Nat) : (imarks k n).length = n := by simp [imarks]
theorem marks_at {k : Int} {n i : Nat} (h : i < n) : (marks k n)[i]? = some (k + 2 * i, k + 2 * i + 1) := by simp [marks, h]
theorem imarks_at {k : Int} {n i : Nat} (h : i < n) : (imarks k n)[i]? = some (k + i) := by simp [imarks, h]
theorem take_set_drop {α : Type} (m l : List α) (n k : Nat) (x : α) (hm : m.length = n) (hn : l.length = n) (hx : m[k]? = some x) :
    (m.take k ++ l.drop k).set k x = m.take (k + 1) ++ l.drop (k + 1) := by
  have hk : k < m.length := (List.getElem?_eq_some_iff.1 hx).1
  have e : l.drop k = l[k]'(by omega) :: l.drop (k + 1) := List.drop_eq_getElem_cons (by omega)
  have h1 : (m.take k).length = k := by rw [List.length_take]; omega
  rw [List.set_append_right _ _ (by omega), h1, Nat.sub_self, e, List.set_cons_zero, List.take_add_one, hx]
  simp
theorem take_drop_at {α : Type} (m l : List α) (n k : Nat) (hm : m.length = n) (hn : l.length = n) (hk : k < n) : ∃ y, (m.take k ++ l.drop k)[k]? = some y ∧ l[k]? = some y := by
  refine ⟨l[k]'(by omega), ?_, List.getElem?_eq_getElem (by omega)⟩
  have h1 : (m.take k).length = k := by rw [List.length_take]; omega
  rw [List.getElem?_append_right (by omega), h1, Nat.sub_self, List.getElem?_drop, Nat.add_zero]
  exact List.getElem?_eq_getElem (by omega)
theorem own_form {w : World} {base : Nat} {e : TypeId} {size n c : Nat} {A : Option Addr} {xs : List Value} (h : w.ownsRow base e size (.slice A n c) n xs) (hn : 0 < n) : ∃ g, A = some ⟨g, 0, none⟩ := by
  rcases h.2 with ⟨_, h0⟩ | ⟨g, cap, cur, hv, _⟩
  · omega
  · simp only [Value.slice.injEq] at hv
    exact ⟨g, hv.1⟩

/-! ## What stays behind a call -/
theorem carry {B : Nat} {W w : World} {b o : Nat} {v : Value} (h : Below B W w) (hc : W.cell? ⟨b, o, none⟩ = some v) (hb : b < B) : w.cell? ⟨b, o, none⟩ = some v := (h.cell (p := ⟨b, o, none⟩) hb).trans hc
/-- where a row lies -/
def Lies (v : Value) (lo hi : Nat) : Prop := ∀ k, v.ownBlock = some k → lo ≤ k ∧ k < hi
theorem own_lies {w : World} {base : Nat} {e : TypeId} {size n : Nat} {v : Value} {xs : List Value} (h : w.ownsRow base e size v n xs) : Lies v base w.heap.size := h.lt
theorem carryG {w w' : World} {v : Value} {lo hi b o : Nat} {u : Value} (hg : w.grownBy w' v.ownBlock) (hl : Lies v lo hi) (hc : w.cell? ⟨b, o, none⟩ = some u) (hb : b < lo ∨ hi ≤ b) : w'.cell? ⟨b, o, none⟩ = some u :=
  hg.cell hc (by
    intro e
    have := hl b e.symm
    omega)
theorem keptG {w w' : World} {v v' : Value} {lo hi lo' hi' base : Nat} {e : TypeId} {size n : Nat} {xs : List Value} (hg : w.grownBy w' v.ownBlock) (hl : Lies v lo hi) (h : w.ownsRow base e size v' n xs) (hl' : Lies v' lo' hi') (hd : hi ≤ lo' ∨ hi' ≤ lo) : w'.ownsRow base e size v' n xs :=
  h.kept hg (by
    cases hv : v'.ownBlock with
    | none => exact .inl rfl
    | some k =>
      refine .inr fun e => ?_
      have h1 := hl' k hv
      have h2 := hl k e.symm
      omega)
theorem belowG {a w w' : World} {v : Value} {lo hi B : Nat} (h : Below B a w) (hg : w.grownBy w' v.ownBlock) (hl : Lies v lo hi) (hB : B ≤ w.heap.size) (hlo : B ≤ lo) : Below B a w' :=
  h.grown hg hB fun k hk => by have := hl k hk; omega

/-! ## The worlds above one -/
def Ext (B : Nat) (W : World) := { w : World // Below B W w }
instance Ext.here (B : Nat) (W : World) : Nonempty (Ext B W) := ⟨⟨W, Below.refl B W⟩⟩
theorem Ext.below {B : Nat} {W : World} (x : Ext B W) : Below B W x.val := x.property
theorem wp_region_ext {P : Program} (B : Nat) {id : Nat} {Q : Exit → Act → World → Prop} {a : Act} {W : World} {l : List Oper} (hm : P.follows .mixedOrders = true) (hB : Region.lexB .any l.toArray = true)
    (h : wpQuiet P l.toArray (fun w' => ∃ x : Ext B W, w' = x.val) (fun a' => ∀ w', (∃ x : Ext B W, w' = x.val) → Q .normal a' w') l a) : (Code.region id l.toArray true).wp P Q a W :=
  wp_region_quiet (C := fun w' => ∃ x : Ext B W, w' = x.val) hm hB ⟨⟨W.drew, (Below.refl B W).drew⟩, rfl⟩ (by simpa using h)
/-- A callee's contract, met in a world above. -/
theorem Calls.ext_of {P : Program} {f : FuncId} {args : Array Value} {B : Nat} {W : World} {x : Ext B W} {v : Value}
    (h : Calls P f args x.val fun e w' => e = .returned v ∧ Below B x.val w') : Calls P f args x.val fun e w'' => e = .returned v ∧ ∃ y : Ext B W, w'' = y.val :=
  h.mono fun _ w' ⟨he, hb⟩ => ⟨he, ⟨w', x.below.trans hb⟩, rfl⟩
theorem Ext.cell {B : Nat} {W : World} (x : Ext B W) {b o : Nat} {v : Value} (h : W.cell? ⟨b, o, none⟩ = some v) (hb : b < B) : x.val.cell? ⟨b, o, none⟩ = some v := (x.below.cell (p := ⟨b, o, none⟩) hb).trans h
theorem Ext.size {B : Nat} {W : World} (x : Ext B W) : W.heap.size ≤ x.val.heap.size := x.below.size
theorem Ext.size' {B : Nat} {W : World} (hB : B ≤ W.heap.size) (x : Ext B W) : B ≤ x.val.heap.size := Nat.le_trans hB x.below.size
end Go.Proofs.Ythddlpghjkiioaa
/-
  FROM A LAW's WALK TO ITS STATEMENT: arguments opened (numbers, lists of numbers, parties), and what every law's post asks.
-/
namespace Go.Proofs.Ythddlpghjkiioaa
open Go.ChangeShapes Go.WideShapes Go.ChangeAt Go.RowKit Go.Deep

theorem Try.own : ownKnob Try.prog.godebug = none := by kernel_rfl
theorem Try.laidOut : laidOutB Try.prog = true := by kernel_rfl
theorem Try.cellsPair : Try.prog.cellsOf 102 = 2 := by kernel_rfl
theorem Try.cellsParty : Try.prog.cellsOf 36 = 2 := by kernel_rfl
theorem Try.cellsInt : Try.prog.cellsOf 3 = 1 := by kernel_rfl

section
variable {H : Type} {enc : TypeId × Value → H} {P : Program}
theorem below_trodAll (hl : laidOutB P = true) : ∀ (ts : List TypeId), (ts.all fun t => P.readableRec t && decide (t < P.types.size)) = true → ∀ {vs : List Value} {ds : List (DataW H)} {ps : List MemPlace} {W W' : World},
    DataW.TrodAll enc P W 0 (fun _ => true) true ts vs ds ps → Below W.heap.size W W' → (∀ x ∈ ps, x.block < W.heap.size) → DataW.TrodAll enc P W' 0 (fun b => decide (b < W.heap.size)) true ts vs ds ps
  | [], _, vs, ds, ps, W, W', h, _, _ => by
    obtain ⟨rfl, rfl, rfl⟩ := trodAll_nil h
    exact trodAll_mk0
  | t :: ts, hr, vs, ds, ps, W, W', h, hb, hlt => by
    obtain ⟨v, vs', d, ds', p, q, rfl, rfl, rfl, h0, h1⟩ := trodAll_cons h
    simp only [List.all_cons, Bool.and_eq_true, decide_eq_true_eq] at hr
    refine trodAll_cons_mk (Below.trod hl hr.1.1 hr.1.2 h0 hb (fun x hx => hlt x (List.mem_append_left _ hx))) (below_trodAll hl ts (by simpa using hr.2) h1 hb (fun x hx => hlt x (List.mem_append_right _ hx)))

theorem law_post {f : Func} {s : ChangeSpec} {W W' : World} {args : Array Value} {ds gs : List (DataW H)} {before : List MemPlace} {tb : TypeId} (hl : laidOutB P = true)
    (hr : (f.params.toList.all fun t => P.readableRec t && decide (t < P.types.size)) = true) (hres : f.resultTypes = #[tb]) (htb : P.underlying tb = some .bool) (hsv : s.vars = [])
    (hspec : s.fn H (ds ++ gs) = { results := [.lit (.bool true)], args := ds })
    (hW : DataW.Whole enc P f.params.toList s.vars false W args.toList ds gs before) (hb : Below W.heap.size W W') : s.post enc P f false true false false W args (.bool true) W' := by
  have hW' := hW
  obtain ⟨p, q, hA, hV, rfl, _, _⟩ := hW
  rw [hsv] at hV
  obtain ⟨rfl, rfl⟩ := trodVars_none hV
  have hlt : ∀ x ∈ p, x.block < W.heap.size := fun x hx => by simpa using hW'.lt x (by simpa using hx)
  refine ⟨ds, _, _, [] ++ [], p, [], hW', ?_, ?_, ?_, hb.frame _, fun h => by cases h⟩
  · rw [hspec, hres]
    exact trodAll_mk1 (shut_bool htb _)
  · rw [hspec]
    exact below_trodAll hl _ hr hA hb hlt
  · rw [hspec, hsv]
    rfl
end

section
variable {H : Type} {enc : TypeId × Value → H} {W : World}
set_option maxRecDepth 100000 in
/-- A party that came in. -/
theorem open_party {v : Value} {d : DataW H} {p : List MemPlace} {r : Reach} {b0 : Nat} (hv : Value.okWide Try.prog W r b0 36 v) (h : DataW.Trod enc Try.prog W 0 (fun _ => true) true 36 v d p) :
    ∃ (x : Int) (l : PL) (A : Option Addr) (c : Nat), v = .agg #[.int .i64 x, .slice A l.length c] ∧ l.length ≤ maxLen ∧ CRead W W.heap.size A (pcells l) := by
  obtain ⟨v0, v1, y0, y1, n, rfl, _, _, h0, h1⟩ := Joins.open_agg2 Try.underlying36 (by kernel_rfl) Try.cellsParty hv h
  obtain ⟨x, hx, _, _⟩ := DataW.trod_int Try.underlying3 h0
  simp only [List.cons.injEq, and_true] at hx
  subst hx
  rcases open_slice_pairs Try.underlying34 Try.underlying102 Try.cellsPair rfl rfl (by kernel_rfl) (by kernel_rfl) h1 with ⟨hcs, _⟩ | ⟨a, len, cap, m, n', V0, V1, D0, D1, P0, P1, hcs, _, hlc, hcm, hm, _, hall⟩
  · simp only [List.cons.injEq, and_true] at hcs
    subst hcs
    exact ⟨x, [], none, 0, rfl, Nat.zero_le _, CRead.nil⟩
  · simp only [List.cons.injEq, and_true] at hcs
    subst hcs
    have hm' : m = cap := by simpa using hm
    subst hm'
    have each : ∀ i, i < len → ∃ a0 a1 : Int, W.cell? (a.add (i * 2)) = some (.int .i64 a0) ∧ W.cell? (a.add (i * 2 + 1)) = some (.int .i64 a1) := by
      intro i hi
      obtain ⟨c0, c1, t0, t1⟩ := hall i (by omega)
      obtain ⟨a0, e0, _, _⟩ := DataW.trod_int Try.underlying3 t0
      obtain ⟨a1, e1, _, _⟩ := DataW.trod_int Try.underlying3 t1
      simp only [List.cons.injEq, and_true] at e0 e1
      exact ⟨a0, a1, by rw [c0, e0], by rw [c1, e1]⟩
    let num : Option Value → Int := fun | some (.int _ z) => z | _ => 0
    let l : PL := (List.range len).map fun i => (num (W.cell? (a.add (i * 2))), num (W.cell? (a.add (i * 2 + 1))))
    have hll : l.length = len := by simp [l]
    refine ⟨x, l, some a, m, by rw [hll], by rw [hll]; omega, ?_⟩
    intro j u hu
    have hjl : j < (pcells l).length := (List.getElem?_eq_some_iff.1 hu).1
    rw [pcells_length, hll] at hjl
    have hi : j / 2 < len := by omega
    obtain ⟨a0, a1, c0, c1⟩ := each (j / 2) hi
    have hl : l[j / 2]? = some (a0, a1) := by simp [l, hi, c0, c1, num]
    obtain ⟨z0, _, cz, _⟩ := each 0 (by omega)
    have hspot : a.spot = none := by simpa [Addr.add] using World.cell?_spot cz
    obtain ⟨b, off, sp⟩ := a
    simp only at hspot
    subst hspot
    have hb : b < W.heap.size := by
      have := World.block_lt_of_cell? W _ cz
      simpa [Addr.add] using this
    refine ⟨b, off, rfl, hb, ?_⟩
    rw [add_plain] at c0 c1
    rcases Nat.mod_two_eq_zero_or_one j with h2 | h2
    · have e : j = j / 2 * 2 := by omega
      have e2 := pcells_fst hl
      rw [← e] at e2 c0
      rw [hu] at e2
      rw [c0, e2]
    · have e : j = j / 2 * 2 + 1 := by omega
      have e2 := pcells_snd hl
      rw [← e] at e2 c1
      rw [hu] at e2
      rw [c1, e2]
end
end Go.Proofs.Ythddlpghjkiioaa
/-
  THE LAWS' OWN SMALL FUNCTIONS, BY THEIR CONTRACTS: sizes, copies, comparisons, marks.
-/
namespace Go.Proofs.Ythddlpghjkiioaa
open Go.RowKit

def szI (left : Int) (n : Nat) : Int := if left - n < 0 then -1 else left - n
theorem szI_lo (left : Int) (n : Nat) : -1 ≤ szI left n := by unfold szI; split <;> omega
theorem szI_hi (left : Int) (n : Nat) (h : 0 ≤ left) : szI left n ≤ left := by unfold szI; split <;> omega
theorem szI_len (left : Int) (n : Nat) (h : ¬ szI left n < 0) : (n : Int) ≤ left := by unfold szI at h; split at h <;> omega

set_option maxHeartbeats 400000 in
theorem szPairS_any (ad : Option Addr) (n cap : Nat) (left : Int) (hn : n ≤ maxLen) (h0 : 0 ≤ left) (h1 : left ≤ 1048576) (w : World) :
    Calls Try.prog 51 #[.slice ad n cap, .int .i64 left] w fun e w' => e = .returned (.int .i64 (szI left n)) ∧ w = w' := by
  unfold maxLen at hn
  by_cases h : left - n < 0
  · have e : szI left n = -1 := if_pos h
    rw [e]
    go_enter Try.func51, Try.ntmps51
    go_wp2
    go_ret
    exact ⟨rfl, rfl⟩
  · have e : szI left n = left - n := if_neg h
    rw [e]
    go_enter Try.func51, Try.ntmps51
    go_wp2
    go_ret
    exact ⟨rfl, rfl⟩

set_option maxHeartbeats 400000 in
theorem szParty_any (p : Int) (ad : Option Addr) (n cap : Nat) (left : Int) (hn : n ≤ maxLen) (h0 : 0 ≤ left) (h1 : left ≤ 1048576) (w : World) :
    Calls Try.prog 19 #[.agg #[.int .i64 p, .slice ad n cap], .int .i64 left] w fun e w' => e = .returned (.int .i64 (szI left n)) ∧ Below w.heap.size w w' := by
  by_cases h : szI left n < 0
  · have hneg : szI left n = -1 := by unfold szI at h ⊢; split <;> simp_all
    have Hn := Lib.hid hneg
    clear hneg
    go_enter Try.func19, Try.ntmps19
    go_wp2_with (go_at_call 51; refine (szPairS_any _ _ _ _ hn h0 h1 _).mono ?_; rintro e w' ⟨rfl, rfl⟩)
    go_ret
    exact ⟨by rw [Hn.out]; rfl, by go_grown⟩
  · go_enter Try.func19, Try.ntmps19
    go_wp2_with (go_at_call 51; refine (szPairS_any _ _ _ _ hn h0 h1 _).mono ?_; rintro e w' ⟨rfl, rfl⟩)
    go_ret
    exact ⟨rfl, by go_grown⟩

set_option maxHeartbeats 400000 in
theorem toPair_any (a b : Int) (w : World) :
    Calls Try.prog 77 #[.agg #[.int .i64 a, .int .i64 b]] w fun e w' => e = .returned (.agg #[.int .i64 a, .int .i64 b]) ∧ Below w.heap.size w w' := by
  go_enter Try.func77, Try.ntmps77
  go_wp2
  go_returns
  exact ⟨rfl, by go_grown⟩

def eqPairB (a b c d : Int) : Bool := decide (a = c ∧ b = d)
set_option maxHeartbeats 400000 in
theorem eqPair_any (a b c d : Int) (w : World) :
    Calls Try.prog 74 #[.agg #[.int .i64 a, .int .i64 b], .agg #[.int .i64 c, .int .i64 d]] w fun e w' =>
      e = .returned (.bool (eqPairB a b c d)) ∧ Below w.heap.size w w' := by
  by_cases h1 : a = c
  · by_cases h2 : b = d
    · subst h1 h2
      go_enter Try.func74, Try.ntmps74
      go_wp2
      go_ret
      exact ⟨by simp [eqPairB], by go_grown⟩
    · subst h1
      go_enter Try.func74, Try.ntmps74
      go_wp2
      go_ret
      exact ⟨by simp [eqPairB, h2], by go_grown⟩
  · go_enter Try.func74, Try.ntmps74
    go_wp2
    go_ret
    exact ⟨by simp [eqPairB, h1], by go_grown⟩

set_option maxHeartbeats 1000000 in
theorem eqPairS_any (l m : PL) (A B : Option Addr) (c d : Nat) (w : World) (hl : l.length ≤ maxLen) (hm : m.length ≤ maxLen)
    (hA : CRead w w.heap.size A (pcells l)) (hB : CRead w w.heap.size B (pcells m)) :
    Calls Try.prog 48 #[.slice A l.length c, .slice B m.length d] w fun e w' =>
      e = .returned (.bool (decide (l = m))) ∧ Below w.heap.size w w' := by
  unfold maxLen at hl hm
  by_cases hlen : l.length = m.length
  · generalize hn : l.length = n at *
    have Hn := Lib.hid hn
    have Hm := Lib.hid hlen
    clear hn
    rw [← hlen]
    clear hlen
    go_enter Try.func48, Try.ntmps48
    go_wp2
    go_loopw [5] (fun i wr => ∃ k : Nat, k ≤ n ∧ i = .int .i64 k ∧ l.take k = m.take k ∧ Below w.heap.size w wr) (fun i _ => n - (intOf i).toNat)
    case atStart => exact ⟨0, Nat.zero_le _, rfl, rfl, Below.refl _ _⟩
    case round =>
      obtain ⟨k, hk, rfl, htk, hb⟩ := hrel
      have Htk := Lib.hid htk
      clear htk
      have hs := hb.size
      by_cases hlt : k < n
      · obtain ⟨⟨x, y⟩, hx⟩ := getSome l k (by rw [Hn.out]; exact hlt)
        obtain ⟨⟨x', y'⟩, hx'⟩ := getSome m k (by rw [← Hm.out]; exact hlt)
        obtain ⟨b, off, rfl, hbb, c0, c1⟩ := (hA.below hb (Nat.le_refl _)).pair hx
        obtain ⟨b', off', rfl, hbb', c0', c1'⟩ := (hB.below hb (Nat.le_refl _)).pair hx'
        have q0 : ∀ z : Ext wr.heap.size wr, z.val.cell? ⟨b, off + k * 2, none⟩ = some (.int .i64 x) := fun z => z.cell c0 (by omega)
        have q1 : ∀ z : Ext wr.heap.size wr, z.val.cell? ⟨b, off + k * 2 + 1, none⟩ = some (.int .i64 y) := fun z => z.cell c1 (by omega)
        have q0' : ∀ z : Ext wr.heap.size wr, z.val.cell? ⟨b', off' + k * 2, none⟩ = some (.int .i64 x') := fun z => z.cell c0' (by omega)
        have q1' : ∀ z : Ext wr.heap.size wr, z.val.cell? ⟨b', off' + k * 2 + 1, none⟩ = some (.int .i64 y') := fun z => z.cell c1' (by omega)
        clear c0 c1 c0' c1'
        have hki : (k : Int) < (n : Int) := by omega
        have Hx := Lib.hid hx
        have Hx' := Lib.hid hx'
        clear hx hx'
        go_wp2
        refine wp_region_ext wr.heap.size (by kernel_rfl) (by kernel_rfl) ?_
        repeat (go_big_quiet_step ((go_at_call 74; exact Calls.ext_of ((eqPair_any _ _ _ _ _).mono fun _ _ h => ⟨h.1, h.2.mono (Ext.size _)⟩))))
        refine wpQuiet_nil ?_
        rintro _ ⟨⟨w1, hb1⟩, rfl⟩
        clear q0 q1 q0' q1'
        have hs1 := hb1.size
        cases hq : eqPairB x y x' y'
        · go_wp2
          go_ret
          refine ⟨?_, hb.trans (hb1.mono hs)⟩
          have e : ¬ (x = x' ∧ y = y') := of_decide_eq_false hq
          have : l ≠ m := by rintro rfl; have h := Hx.out; rw [Hx'.out] at h; simp at h; exact e ⟨h.1.symm, h.2.symm⟩
          simp [this]
        · go_wp2
          go_roundw
          case rel =>
            refine ⟨k + 1, by omega, by go_num, ?_, hb.trans (hb1.mono hs)⟩
            obtain ⟨rfl, rfl⟩ := of_decide_eq_true hq
            rw [List.take_add_one, List.take_add_one, Htk.out, Hx.out, Hx'.out]
          case measure => simp [intOf]; omega
      · have hkl : k = n := by omega
        go_wp2
        go_ret
        refine ⟨?_, hb⟩
        have e := Htk.out
        rw [hkl, List.take_of_length_le (by rw [Hn.out]; exact Nat.le_refl _), List.take_of_length_le (by rw [← Hm.out]; exact Nat.le_refl _)] at e
        simp [e]
  · have hne : l ≠ m := by rintro rfl; exact hlen rfl
    have e : decide (l = m) = false := by simp [hne]
    rw [e]
    clear e
    go_enter Try.func48, Try.ntmps48
    go_wp2
    go_ret
    exact ⟨rfl, Below.refl _ _⟩
theorem Try.infoPair : (Try.prog.info? 64).map (fun i => (i.zero, i.size, i.bytes)) = some (some (.agg #[.int .i64 0, .int .i64 0]), 2, 16) := by kernel_rfl
theorem Try.infoInt : (Try.prog.info? 3).map (fun i => (i.zero, i.size, i.bytes)) = some (some (.int .i64 0), 1, 8) := by kernel_rfl
theorem Try.infoBool : (Try.prog.info? 4).map (fun i => (i.zero, i.size, i.bytes)) = some (some (.bool false), 1, 1) := by kernel_rfl

theorem take_set_replicate {α : Type} (l : List α) (z : α) (n k : Nat) (x : α) (hn : l.length = n) (hx : l[k]? = some x) :
    (l.take k ++ List.replicate (n - k) z).set k x = l.take (k + 1) ++ List.replicate (n - (k + 1)) z := by
  have hk : k < l.length := (List.getElem?_eq_some_iff.1 hx).1
  have e : n - k = (n - (k + 1)) + 1 := by omega
  rw [List.set_append_right _ _ (by simp; omega), e, List.replicate_succ, List.take_add_one, hx]
  simp [Nat.min_eq_left (Nat.le_of_lt hk)]

set_option maxHeartbeats 1000000 in
theorem toPairS_any (l : PL) (A : Option Addr) (c : Nat) (w : World) (hl : l.length ≤ 1048576) (hA : CRead w w.heap.size A (pcells l)) :
    Calls Try.prog 54 #[.slice A l.length c] w fun e w' =>
      e = .returned (.slice (some ⟨w.heap.size, 0, none⟩) l.length l.length) ∧ w'.ownsRow w.heap.size 64 2 (.slice (some ⟨w.heap.size, 0, none⟩) l.length l.length) l.length (pcells l) ∧ Below w.heap.size w w' := by
  obtain ⟨i0, hi, hz0, hz1, hz2⟩ := info_parts Try.infoPair
  generalize hn : l.length = n at *
  have Hn := Lib.hid hn
  clear hn
  generalize hg : w.heap.size = g at *
  have Hg := Lib.hid hg
  clear hg
  go_enter Try.func54, Try.ntmps54
  go_wp2_with (at_make; refine wpList_make_full _ rfl _ _ 23 rfl g 64 i0 _ 2 Try.underlying23 hi hz0 hz1 _ _ _ _ n rfl rfl (by omega) (by omega) (by rw [hz2]; omega) (by unfold maxLen; omega) (by rw [Hg.out]; exact Nat.le_refl _) ?_; rw [Hg.out]; intro w1 hown1 hgr1)
  have hs1 : g < w1.heap.size := (own_lt hown1).2
  have hb1 : Below g w w1 := (Below.refl _ _).grown hgr1 (by rw [Hg.out]; exact Nat.le_refl _) (by simp)
  rw [show Value.cells (.agg #[.int .i64 0, .int .i64 0]) = #[.int .i64 0, .int .i64 0] from rfl, made_pairs] at hown1
  have hge : w.heap.size ≤ g := by rw [Hg.out]; exact Nat.le_refl _
  go_loopw [4] (fun i wr => ∃ k : Nat, k ≤ n ∧ i = .int .i64 k ∧ wr.ownsRow g 64 2 (.slice (some ⟨g, 0, none⟩) n n) n (pcells (l.take k ++ List.replicate (n - k) (0, 0))) ∧ Below g w wr) (fun i _ => n - (intOf i).toNat)
  case atStart => exact ⟨0, Nat.zero_le _, rfl, by simpa using hown1, hb1⟩
  case round =>
    obtain ⟨k, hk, rfl, hown, hb⟩ := hrel
    have hs := own_lt hown
    have hki : (k : Int) ≤ n := by omega
    by_cases hlt : k < n
    · obtain ⟨⟨x, y⟩, hx⟩ := getSome l k (by rw [Hn.out]; exact hlt)
      obtain ⟨b, off, rfl, hbb, c0, c1⟩ := (hA.below hb (Nat.le_refl _)).pair hx
      have hlt' : (k : Int) < n := by omega
      have hz : (l.take k ++ List.replicate (n - k) (0, 0))[k]? = some (0, 0) := by
        rw [List.getElem?_append_right (by simp; omega)]
        have h1 : min k l.length = k := Nat.min_eq_left (by rw [Hn.out]; exact hk)
        simp only [List.length_take, h1, Nat.sub_self]
        rw [List.getElem?_replicate, if_pos (by omega)]
      have Hx := Lib.hid hx
      clear hx
      have Hz := Lib.hid hz
      clear hz
      go_wp2_with (go_at_call 77; refine (toPair_any _ _ _).mono ?_; rintro e w2 ⟨rfl, hb2⟩; have hown2 := own_below hown hb2 (Nat.le_refl _); have ⟨d0, d1⟩ := own_pairAt hown2 Hz.out; have f0 := hown2.frozenAt (k * 2); have f1 := hown2.frozenAt (k * 2 + 1))
      go_roundw
      case rel =>
        refine ⟨k + 1, by omega, by go_num, ?_, ?_⟩
        · have h2 := own_setPair hown2 k x y
          rwa [take_set_replicate l (0, 0) n k (x, y) Hn.out Hx.out] at h2
        · exact below_set2 (hb.trans (hb2.mono (by omega))) (Nat.le_refl _) _ _ _ _
      case measure => simp [intOf]; omega
    · have hkl : k = n := by omega
      subst hkl
      have hge : ¬ ((k : Int) < k) := by omega
      go_wp2
      go_ret
      refine ⟨rfl, ?_, hb⟩
      rwa [Nat.sub_self, List.replicate_zero, List.append_nil, List.take_of_length_le (by rw [Hn.out]; exact Nat.le_refl _)] at hown
end Go.Proofs.Ythddlpghjkiioaa
/-
  THE LAWS' OWN SMALL FUNCTIONS THAT MARK A RESULT'S MEMORY AND LOOK WHETHER THE MARKS STAND; copies of parties and of lists of numbers; their comparison.
-/
namespace Go.Proofs.Ythddlpghjkiioaa
open Go.RowKit

set_option maxHeartbeats 1000000 in
theorem markPairS_any (l : PL) (A : Option Addr) (n c : Nat) (k0 : Int) (base : Nat) (w : World) (hn : l.length = n) (hl : n ≤ 1048576) (hk0 : 0 ≤ k0 ∧ k0 ≤ 16777216) (hown0 : w.ownsRow base 64 2 (.slice A n c) n (pcells l)) :
    Calls Try.prog 49 #[.slice A n c, .int .i64 k0] w fun e w' =>
      e = .returned (.int .i64 (k0 + 2 * n)) ∧ w'.ownsRow base 64 2 (.slice A n c) n (pcells (marks k0 n)) ∧ w.grownBy w' (Value.ownBlock (.slice A n c)) := by
  have Hn := Lib.hid hn
  obtain ⟨hk00, hk01⟩ := hk0
  clear hn
  go_enter Try.func49, Try.ntmps49
  go_wp2
  go_loopw [1, 5] (fun q i wr => ∃ k : Nat, k ≤ n ∧ i = .int .i64 k ∧ q = .int .i64 (k0 + 2 * k) ∧ wr.ownsRow base 64 2 (.slice A n c) n (pcells ((marks k0 n).take k ++ l.drop k)) ∧ w.grownBy wr (Value.ownBlock (.slice A n c))) (fun _ i _ => n - (intOf i).toNat)
  case atStart => exact ⟨0, Nat.zero_le _, rfl, by simp, by simpa using hown0, World.grownBy.refl _ _⟩
  case round =>
    obtain ⟨k, hk, rfl, rfl, hown, hb⟩ := hrel
    by_cases hlt : k < n
    · obtain ⟨g, rfl⟩ := own_form hown (by omega)
      obtain ⟨⟨x, y⟩, hz, hx⟩ := take_drop_at (marks k0 n) l n k (marks_length _ _) Hn.out hlt
      have hlt' : (k : Int) < n := by omega
      obtain ⟨d0, d1⟩ := own_pairAt hown hz
      have f0 := hown.frozenAt (k * 2)
      have f1 := hown.frozenAt (k * 2 + 1)
      have Hz := Lib.hid hz
      clear hz hx
      go_wp2
      go_roundw
      case rel =>
        refine ⟨k + 1, by omega, by go_num, by go_num, ?_, ?_⟩
        · have h2 := own_setPair hown k (k0 + 2 * k) (k0 + 2 * k + 1)
          rwa [take_set_drop (marks k0 n) l n k _ (marks_length _ _) Hn.out (marks_at hlt)] at h2
        · exact gb_trans (gb_trans hb (hown.stored (k * 2) _).2) ((hown.stored (k * 2) _).1.stored (k * 2 + 1) _).2
      case measure => simp [intOf]; omega
    · have hkl : k = n := by omega
      subst hkl
      have hge : ¬ ((k : Int) < k) := by omega
      go_wp2
      go_ret
      refine ⟨rfl, ?_, hb⟩
      rwa [List.take_of_length_le (by rw [marks_length]; exact Nat.le_refl _), List.drop_of_length_le (by rw [Hn.out]; exact Nat.le_refl _), List.append_nil] at hown

set_option maxHeartbeats 1000000 in
theorem heldPairS_any (A : Option Addr) (n c : Nat) (k0 : Int) (w : World) (hl : n ≤ 1048576) (hk0 : 0 ≤ k0 ∧ k0 ≤ 16777216) (hA : CRead w w.heap.size A (pcells (marks k0 n))) :
    Calls Try.prog 50 #[.slice A n c, .int .i64 k0] w fun e w' => e = .returned (.int .i64 (k0 + 2 * n)) ∧ w = w' := by
  obtain ⟨hk00, hk01⟩ := hk0
  go_enter Try.func50, Try.ntmps50
  go_wp2
  go_loop [1, 5] (fun q i => ∃ k : Nat, k ≤ n ∧ i = .int .i64 k ∧ q = .int .i64 (k0 + 2 * k)) (fun _ i => n - (intOf i).toNat)
  case atStart => exact ⟨0, Nat.zero_le _, rfl, by simp⟩
  case round =>
    obtain ⟨k, hk, rfl, rfl⟩ := hrel
    by_cases hlt : k < n
    · obtain ⟨b, off, rfl, hbb, c0, c1⟩ := hA.pair (marks_at hlt)
      have hlt' : (k : Int) < n := by omega
      go_wp2
      go_round
      case rel => exact ⟨k + 1, by omega, by go_num, by go_num⟩
      case measure => simp [intOf]; omega
    · have hkl : k = n := by omega
      subst hkl
      have hge : ¬ ((k : Int) < k) := by omega
      go_wp2
      go_ret
      exact ⟨rfl, rfl⟩

/-! ## Parties -/
/-- A call came back with a party whose pairs lie in memory of its own. -/
def GotParty (w : World) (p : Int) (l : PL) (e : Ending) (w' : World) : Prop :=
  ∃ A c, e = .returned (.agg #[.int .i64 p, .slice A l.length c]) ∧ w'.ownsRow w.heap.size 64 2 (.slice A l.length c) l.length (pcells l) ∧ Below w.heap.size w w'

set_option maxHeartbeats 1000000 in
theorem toParty_any (p : Int) (l : PL) (A : Option Addr) (c : Nat) (w : World) (hl : l.length ≤ 1048576) (hA : CRead w w.heap.size A (pcells l)) :
    Calls Try.prog 21 #[.agg #[.int .i64 p, .slice A l.length c]] w (GotParty w p l) := by
  generalize hn : l.length = n at *
  have Hn := Lib.hid hn
  go_enter Try.func21, Try.ntmps21
  go_wp2_with (go_at_call 54; rw [← Hn.out]; refine (toPairS_any l _ _ _ (by rw [Hn.out]; exact hl) (hA.below (B' := w.heap.size) (by go_grown) (Nat.le_refl _) |>.more (by go_size))).mono ?_; rw [Hn.out]; rintro e w2 ⟨rfl, hown2, hb2⟩; have ⟨hc, hf⟩ := old_cells hb2; have hz := hb2.size; simp only [World.size_alloc] at hc hf hz)
  refine bodyPost_ret (v := .agg #[.int .i64 p, .slice (some ⟨w.heap.size + 1 + 1 + 1, 0, none⟩) n n]) (by simp [results, Try.results21, go_sem, hc]) rfl ?_
  simp only [World.size_alloc] at hown2 hb2
  have hb3 : Below w.heap.size w w2 := Below.trans (b := _) (by go_grown) (hb2.mono (by omega))
  refine ⟨some ⟨w.heap.size + 1 + 1 + 1, 0, none⟩, n, by rw [hn], ?_, ?_⟩
  · rw [hn]
    exact own_far (own_far (own_far (own_lower hown2 (by omega)) (p := ⟨w.heap.size + 1 + 1, 1, none⟩) (by simp) _) (p := ⟨w.heap.size + 1, 0, none⟩) (by simp) _) (p := ⟨w.heap.size + 1, 1, none⟩) (by simp) _
  · exact ((hb3.setCell (p := ⟨w.heap.size + 1 + 1, 1, none⟩) (by simp; omega) _).setCell (p := ⟨w.heap.size + 1, 0, none⟩) (by simp) _).setCell (p := ⟨w.heap.size + 1, 1, none⟩) (by simp) _

set_option maxHeartbeats 1000000 in
theorem eqParty_any (p q : Int) (l m : PL) (A B : Option Addr) (c d : Nat) (w : World) (hl : l.length ≤ maxLen) (hm : m.length ≤ maxLen)
    (hA : CRead w w.heap.size A (pcells l)) (hB : CRead w w.heap.size B (pcells m)) :
    Calls Try.prog 14 #[.agg #[.int .i64 p, .slice A l.length c], .agg #[.int .i64 q, .slice B m.length d]] w fun e w' =>
      e = .returned (.bool (decide (p = q ∧ l = m))) ∧ Below w.heap.size w w' := by
  by_cases hpq : p = q
  · subst hpq
    by_cases hlm : l = m
    · have e : decide (p = p ∧ l = m) = true := by simp [hlm]
      rw [e]
      clear e
      have Hlm := Lib.hid hlm
      clear hlm
      go_enter Try.func14, Try.ntmps14
      go_wp2_with (go_at_call 48; refine (eqPairS_any l m _ _ _ _ _ hl hm ((hA.below (B' := w.heap.size) (by go_grown) (Nat.le_refl _)).more (by go_size)) ((hB.below (B' := w.heap.size) (by go_grown) (Nat.le_refl _)).more (by go_size))).mono ?_; rw [decide_eq_true Hlm.out]; rintro e w2 ⟨rfl, hb2⟩; simp only [World.size_alloc] at hb2)
      go_ret
      exact ⟨rfl, Below.trans (b := _) (by go_grown) (hb2.mono (by omega))⟩
    · have e : decide (p = p ∧ l = m) = false := by simp [hlm]
      rw [e]
      clear e
      have Hlm := Lib.hid hlm
      clear hlm
      go_enter Try.func14, Try.ntmps14
      go_wp2_with (go_at_call 48; refine (eqPairS_any l m _ _ _ _ _ hl hm ((hA.below (B' := w.heap.size) (by go_grown) (Nat.le_refl _)).more (by go_size)) ((hB.below (B' := w.heap.size) (by go_grown) (Nat.le_refl _)).more (by go_size))).mono ?_; rw [decide_eq_false Hlm.out]; rintro e w2 ⟨rfl, hb2⟩; simp only [World.size_alloc] at hb2)
      go_ret
      exact ⟨rfl, Below.trans (b := _) (by go_grown) (hb2.mono (by omega))⟩
  · have e : decide (p = q ∧ l = m) = false := by simp [hpq]
    rw [e]
    clear e
    go_enter Try.func14, Try.ntmps14
    go_wp2
    go_ret
    exact ⟨rfl, by go_grown⟩

set_option maxHeartbeats 1000000 in
theorem markParty_any (p : Int) (l : PL) (A : Option Addr) (n c : Nat) (k0 : Int) (base : Nat) (w : World) (hn : l.length = n) (hl : n ≤ 1048576) (hk0 : 0 ≤ k0 ∧ k0 ≤ 16777216) (hown0 : w.ownsRow base 64 2 (.slice A n c) n (pcells l)) :
    Calls Try.prog 17 #[.agg #[.int .i64 p, .slice A n c], .int .i64 k0] w fun e w' =>
      e = .returned (.int .i64 (k0 + 2 * n)) ∧ w'.ownsRow base 64 2 (.slice A n c) n (pcells (marks k0 n)) ∧ w.grownBy w' (Value.ownBlock (.slice A n c)) := by
  have Hn := Lib.hid hn
  clear hn
  have hk1 : 0 ≤ k0 + 2 * (n : Int) := by omega
  go_enter Try.func17, Try.ntmps17
  go_wp2_with (go_at_call 49; refine (markPairS_any l _ _ _ _ _ _ Hn.out hl hk0 (hown0.alloc _)).mono ?_; rintro e w2 ⟨rfl, hown2, hb2⟩)
  go_ret
  exact ⟨rfl, hown2, below_gb (B := w.heap.size) (by go_grown) hb2 (Nat.le_refl _)⟩

set_option maxHeartbeats 1000000 in
theorem heldParty_any (p : Int) (A : Option Addr) (n c : Nat) (k0 : Int) (w : World) (hl : n ≤ 1048576) (hk0 : 0 ≤ k0 ∧ k0 ≤ 16777216) (hA : CRead w w.heap.size A (pcells (marks k0 n))) :
    Calls Try.prog 18 #[.agg #[.int .i64 p, .slice A n c], .int .i64 k0] w fun e w' => e = .returned (.int .i64 (k0 + 2 * n)) ∧ Below w.heap.size w w' := by
  have hk1 : 0 ≤ k0 + 2 * (n : Int) := by omega
  go_enter Try.func18, Try.ntmps18
  go_wp2_with (go_at_call 50; refine (heldPairS_any _ _ _ _ _ hl hk0 ((hA.below (B' := w.heap.size) (by go_grown) (Nat.le_refl _)).more (by go_size))).mono ?_; rintro e w2 ⟨rfl, rfl⟩)
  go_ret
  exact ⟨rfl, by go_grown⟩

/-! ## Lists of numbers -/
set_option maxHeartbeats 1000000 in
theorem eqIntS_any (l m : List Int) (A B : Option Addr) (c d : Nat) (w : World) (hl : l.length ≤ maxLen) (hm : m.length ≤ maxLen)
    (hA : CRead w w.heap.size A (icells l)) (hB : CRead w w.heap.size B (icells m)) :
    Calls Try.prog 15 #[.slice A l.length c, .slice B m.length d] w fun e w' =>
      e = .returned (.bool (decide (l = m))) ∧ Below w.heap.size w w' := by
  unfold maxLen at hl hm
  by_cases hlen : l.length = m.length
  · generalize hn : l.length = n at *
    have Hn := Lib.hid hn
    have Hm := Lib.hid hlen
    clear hn
    rw [← hlen]
    clear hlen
    go_enter Try.func15, Try.ntmps15
    go_wp2
    go_loopw [5] (fun i wr => ∃ k : Nat, k ≤ n ∧ i = .int .i64 k ∧ l.take k = m.take k ∧ Below w.heap.size w wr) (fun i _ => n - (intOf i).toNat)
    case atStart => exact ⟨0, Nat.zero_le _, rfl, rfl, Below.refl _ _⟩
    case round =>
      obtain ⟨k, hk, rfl, htk, hb⟩ := hrel
      have Htk := Lib.hid htk
      clear htk
      have hs := hb.size
      by_cases hlt : k < n
      · obtain ⟨x, hx⟩ := getSome l k (by rw [Hn.out]; exact hlt)
        obtain ⟨x', hx'⟩ := getSome m k (by rw [← Hm.out]; exact hlt)
        obtain ⟨b, off, rfl, hbb, c0⟩ := (hA.below hb (Nat.le_refl _)).int hx
        obtain ⟨b', off', rfl, hbb', c0'⟩ := (hB.below hb (Nat.le_refl _)).int hx'
        have hki : (k : Int) < (n : Int) := by omega
        have Hx := Lib.hid hx
        have Hx' := Lib.hid hx'
        clear hx hx'
        go_wp2
        go_quiet (fail)
        by_cases hq : x = x'
        · subst hq
          go_wp2
          go_roundw
          case rel =>
            refine ⟨k + 1, by omega, by go_num, ?_, hb.trans ⟨rfl, rfl, rfl, Nat.le_refl _, fun _ _ => rfl⟩⟩
            rw [List.take_add_one, List.take_add_one, Htk.out, Hx.out, Hx'.out]
          case measure => simp [intOf]; omega
        · go_wp2
          go_ret
          refine ⟨?_, hb.trans ⟨rfl, rfl, rfl, Nat.le_refl _, fun _ _ => rfl⟩⟩
          have : l ≠ m := by rintro rfl; have h := Hx.out; rw [Hx'.out] at h; exact hq (by simpa using h.symm)
          simp [this]
      · have hkl : k = n := by omega
        go_wp2
        go_ret
        refine ⟨?_, hb⟩
        have e := Htk.out
        rw [hkl, List.take_of_length_le (by rw [Hn.out]; exact Nat.le_refl _), List.take_of_length_le (by rw [← Hm.out]; exact Nat.le_refl _)] at e
        simp [e]
  · have hne : l ≠ m := by rintro rfl; exact hlen rfl
    have e : decide (l = m) = false := by simp [hne]
    rw [e]
    clear e
    go_enter Try.func15, Try.ntmps15
    go_wp2
    go_ret
    exact ⟨rfl, Below.refl _ _⟩

set_option maxHeartbeats 1000000 in
theorem markIntS_any (l : List Int) (A : Option Addr) (n c : Nat) (k0 : Int) (base : Nat) (w : World) (hn : l.length = n) (hl : n ≤ 1048576) (hk0 : 0 ≤ k0 ∧ k0 ≤ 16777216) (hown0 : w.ownsRow base 3 1 (.slice A n c) n (icells l)) :
    Calls Try.prog 16 #[.slice A n c, .int .i64 k0] w fun e w' =>
      e = .returned (.int .i64 (k0 + n)) ∧ w'.ownsRow base 3 1 (.slice A n c) n (icells (imarks k0 n)) ∧ w.grownBy w' (Value.ownBlock (.slice A n c)) := by
  have Hn := Lib.hid hn
  obtain ⟨hk00, hk01⟩ := hk0
  clear hn
  go_enter Try.func16, Try.ntmps16
  go_wp2
  go_loopw [1, 5] (fun q i wr => ∃ k : Nat, k ≤ n ∧ i = .int .i64 k ∧ q = .int .i64 (k0 + k) ∧ wr.ownsRow base 3 1 (.slice A n c) n (icells ((imarks k0 n).take k ++ l.drop k)) ∧ w.grownBy wr (Value.ownBlock (.slice A n c))) (fun _ i _ => n - (intOf i).toNat)
  case atStart => exact ⟨0, Nat.zero_le _, rfl, by simp, by simpa using hown0, World.grownBy.refl _ _⟩
  case round =>
    obtain ⟨k, hk, rfl, rfl, hown, hb⟩ := hrel
    by_cases hlt : k < n
    · obtain ⟨g, rfl⟩ := own_form hown (by omega)
      obtain ⟨x, hz, hx⟩ := take_drop_at (imarks k0 n) l n k (imarks_length _ _) Hn.out hlt
      have hlt' : (k : Int) < n := by omega
      have d0 := own_intAt hown hz
      have f0 := hown.frozenAt k
      have Hz := Lib.hid hz
      clear hz hx
      go_wp2
      go_roundw
      case rel =>
        refine ⟨k + 1, by omega, by go_num, by go_num, ?_, ?_⟩
        · have h2 := own_setInt hown k (k0 + k)
          rwa [take_set_drop (imarks k0 n) l n k _ (imarks_length _ _) Hn.out (imarks_at hlt)] at h2
        · exact gb_trans hb (hown.stored k _).2
      case measure => simp [intOf]; omega
    · have hkl : k = n := by omega
      subst hkl
      have hge : ¬ ((k : Int) < k) := by omega
      go_wp2
      go_ret
      refine ⟨rfl, ?_, hb⟩
      rwa [List.take_of_length_le (by rw [imarks_length]; exact Nat.le_refl _), List.drop_of_length_le (by rw [Hn.out]; exact Nat.le_refl _), List.append_nil] at hown

set_option maxHeartbeats 1000000 in
theorem heldIntS_any (A : Option Addr) (n c : Nat) (k0 : Int) (w : World) (hl : n ≤ 1048576) (hk0 : 0 ≤ k0 ∧ k0 ≤ 16777216) (hA : CRead w w.heap.size A (icells (imarks k0 n))) :
    Calls Try.prog 25 #[.slice A n c, .int .i64 k0] w fun e w' => e = .returned (.int .i64 (k0 + n)) ∧ w = w' := by
  obtain ⟨hk00, hk01⟩ := hk0
  go_enter Try.func25, Try.ntmps25
  go_wp2
  go_loop [1, 5] (fun q i => ∃ k : Nat, k ≤ n ∧ i = .int .i64 k ∧ q = .int .i64 (k0 + k)) (fun _ i => n - (intOf i).toNat)
  case atStart => exact ⟨0, Nat.zero_le _, rfl, by simp⟩
  case round =>
    obtain ⟨k, hk, rfl, rfl⟩ := hrel
    by_cases hlt : k < n
    · obtain ⟨b, off, rfl, hbb, c0⟩ := hA.int (imarks_at hlt)
      have hlt' : (k : Int) < n := by omega
      go_wp2
      go_round
      case rel => exact ⟨k + 1, by omega, by go_num, by go_num⟩
      case measure => simp [intOf]; omega
    · have hkl : k = n := by omega
      subst hkl
      have hge : ¬ ((k : Int) < k) := by omega
      go_wp2
      go_ret
      exact ⟨rfl, rfl⟩
end Go.Proofs.Ythddlpghjkiioaa
/-
  PARTIES AS PLAIN LISTS: what a party is, how many pairs it can have. Nothing here speaks of the program.
-/
namespace Go.Proofs.Ythddlpghjkiioaa

def pairLess (a b : Int × Int) : Bool := decide (a.1 < b.1 ∨ a.1 = b.1 ∧ a.2 < b.2)
def goodAt (p : Int) (l : PL) (i : Nat) : Bool :=
  match l[i]? with
  | none => true
  | some (x, y) => decide (0 ≤ x ∧ x < y ∧ y < p) && (i == 0 || match l[i - 1]? with | none => true | some q => pairLess q (x, y))
def isP (p : Int) (l : PL) : Bool := decide (0 ≤ p ∧ p ≤ 12) && (List.range l.length).all (goodAt p l)

theorem isP_of (p : Int) (l : PL) (h0 : 0 ≤ p) (h1 : p ≤ 12) (h : ∀ i, i < l.length → goodAt p l i = true) : isP p l = true := by
  simp only [isP, Bool.and_eq_true, decide_eq_true_eq, List.all_eq_true, List.mem_range]
  exact ⟨⟨h0, h1⟩, h⟩
theorem isP_no (p : Int) (l : PL) {i : Nat} (hi : i < l.length) (h : goodAt p l i = false) : isP p l = false := by
  cases he : isP p l with
  | false => rfl
  | true =>
    simp only [isP, Bool.and_eq_true, decide_eq_true_eq, List.all_eq_true, List.mem_range] at he
    rw [he.2 i hi] at h
    cases h
theorem isP_out (p : Int) (l : PL) (h : p < 0 ∨ 12 < p) : isP p l = false := by
  simp only [isP, Bool.and_eq_false_iff, decide_eq_false_iff_not]
  left
  omega
theorem isP_range {p : Int} {l : PL} (h : isP p l = true) : 0 ≤ p ∧ p ≤ 12 := by
  simp only [isP, Bool.and_eq_true, decide_eq_true_eq] at h
  exact h.1
theorem isP_good {p : Int} {l : PL} (h : isP p l = true) {i : Nat} (hi : i < l.length) : goodAt p l i = true := by
  simp only [isP, Bool.and_eq_true, decide_eq_true_eq, List.all_eq_true, List.mem_range] at h
  exact h.2 i hi
theorem goodAt_pair {p : Int} {l : PL} {i : Nat} {x y : Int} (h : goodAt p l i = true) (hx : l[i]? = some (x, y)) : 0 ≤ x ∧ x < y ∧ y < p := by
  simp only [goodAt, hx, Bool.and_eq_true, decide_eq_true_eq] at h
  exact h.1
theorem goodAt_less {p : Int} {l : PL} {i : Nat} {x y x' y' : Int} (h : goodAt p l (i + 1) = true) (hx : l[i]? = some (x, y)) (hx' : l[i + 1]? = some (x', y')) : x < x' ∨ x = x' ∧ y < y' := by
  simp only [goodAt, hx', Nat.add_sub_cancel, hx, Bool.and_eq_true, Bool.or_eq_true, pairLess, decide_eq_true_eq] at h
  rcases h.2 with h | h
  · simp at h
  · exact h
theorem goodAt_first {p : Int} {l : PL} {x y : Int} (hx : l[0]? = some (x, y)) (h : 0 ≤ x ∧ x < y ∧ y < p) : goodAt p l 0 = true := by
  simp [goodAt, hx, h.1, h.2.1, h.2.2]
theorem goodAt_next {p : Int} {l : PL} {i : Nat} {x y x' y' : Int} (hx : l[i]? = some (x, y)) (hx' : l[i + 1]? = some (x', y')) (h : 0 ≤ x' ∧ x' < y' ∧ y' < p) (hl : x < x' ∨ x = x' ∧ y < y') : goodAt p l (i + 1) = true := by
  simp only [goodAt, hx', Nat.add_sub_cancel, hx, Bool.and_eq_true, Bool.or_eq_true, pairLess, decide_eq_true_eq]
  exact ⟨h, .inr hl⟩
theorem goodAt_bad {p : Int} {l : PL} {i : Nat} {x y : Int} (hx : l[i]? = some (x, y)) (h : ¬ (0 ≤ x ∧ x < y ∧ y < p)) : goodAt p l i = false := by
  simp only [goodAt, hx, Bool.and_eq_false_iff, decide_eq_false_iff_not]
  exact .inl h
theorem goodAt_stale {p : Int} {l : PL} {i : Nat} {x y x' y' : Int} (hx : l[i]? = some (x, y)) (hx' : l[i + 1]? = some (x', y')) (hl : ¬ (x < x' ∨ x = x' ∧ y < y')) : goodAt p l (i + 1) = false := by
  cases h : goodAt p l (i + 1) with
  | false => rfl
  | true => exact absurd (goodAt_less h hx hx') hl

theorem goodAt_zero {p : Int} {l : PL} {k : Nat} {x y : Int} (hk : k = 0) (hx : l[k]? = some (x, y)) (h : 0 ≤ x ∧ x < y ∧ y < p) : goodAt p l k = true := by subst hk; exact goodAt_first hx h
theorem goodAt_later {p : Int} {l : PL} {k : Nat} {x y x' y' : Int} (hk : 0 < k) (hx : l[k - 1]? = some (x, y)) (hx' : l[k]? = some (x', y')) (h : 0 ≤ x' ∧ x' < y' ∧ y' < p) (hl : x < x' ∨ x = x' ∧ y < y') : goodAt p l k = true := by
  obtain ⟨j, rfl⟩ : ∃ j, k = j + 1 := ⟨k - 1, by omega⟩
  exact goodAt_next hx hx' h hl
theorem goodAt_stale' {p : Int} {l : PL} {k : Nat} {x y x' y' : Int} (hk : 0 < k) (hx : l[k - 1]? = some (x, y)) (hx' : l[k]? = some (x', y')) (hl : ¬ (x < x' ∨ x = x' ∧ y < y')) : goodAt p l k = false := by
  obtain ⟨j, rfl⟩ : ∃ j, k = j + 1 := ⟨k - 1, by omega⟩
  exact goodAt_stale hx hx' hl

/-- Twice the number of pairs that come before a pair. -/
def rank2 (p x y : Int) : Int := 2 * (x * p) + 2 * y - x * x - 3 * x - 2
theorem small_cases {x : Int} (h0 : 0 ≤ x) (h1 : x ≤ 11) : x = 0 ∨ x = 1 ∨ x = 2 ∨ x = 3 ∨ x = 4 ∨ x = 5 ∨ x = 6 ∨ x = 7 ∨ x = 8 ∨ x = 9 ∨ x = 10 ∨ x = 11 := by omega
theorem rank2_step {p x y x' y' : Int} (hp : p ≤ 12) (h : 0 ≤ x ∧ x < y ∧ y < p) (h' : 0 ≤ x' ∧ x' < y' ∧ y' < p) (hl : x < x' ∨ x = x' ∧ y < y') : rank2 p x y + 2 ≤ rank2 p x' y' := by
  unfold rank2
  rcases small_cases h.1 (by omega) with rfl | rfl | rfl | rfl | rfl | rfl | rfl | rfl | rfl | rfl | rfl | rfl <;>
  rcases small_cases h'.1 (by omega) with rfl | rfl | rfl | rfl | rfl | rfl | rfl | rfl | rfl | rfl | rfl | rfl <;> omega
theorem rank2_lo {p x y : Int} (hp : p ≤ 12) (h : 0 ≤ x ∧ x < y ∧ y < p) : 0 ≤ rank2 p x y := by
  unfold rank2
  rcases small_cases h.1 (by omega) with rfl | rfl | rfl | rfl | rfl | rfl | rfl | rfl | rfl | rfl | rfl | rfl <;> omega
theorem people_cases {p : Int} (h0 : 0 ≤ p) (h1 : p ≤ 12) : p = 0 ∨ p = 1 ∨ p = 2 ∨ p = 3 ∨ p = 4 ∨ p = 5 ∨ p = 6 ∨ p = 7 ∨ p = 8 ∨ p = 9 ∨ p = 10 ∨ p = 11 ∨ p = 12 := by omega
theorem rank2_hi {p x y : Int} (hp : p ≤ 12) (h : 0 ≤ x ∧ x < y ∧ y < p) : rank2 p x y + 2 ≤ p * (p - 1) := by
  have h0 : 0 ≤ p := by omega
  unfold rank2
  rcases people_cases h0 hp with rfl | rfl | rfl | rfl | rfl | rfl | rfl | rfl | rfl | rfl | rfl | rfl | rfl <;>
  rcases small_cases h.1 (by omega) with rfl | rfl | rfl | rfl | rfl | rfl | rfl | rfl | rfl | rfl | rfl | rfl <;> omega
theorem people_sq {p : Int} (h0 : 0 ≤ p) (h1 : p ≤ 12) : 0 ≤ p * (p - 1) ∧ p * (p - 1) ≤ 132 := by
  rcases people_cases h0 h1 with rfl | rfl | rfl | rfl | rfl | rfl | rfl | rfl | rfl | rfl | rfl | rfl | rfl <;> omega
theorem isP_rank {p : Int} {l : PL} (h : isP p l = true) : ∀ (i : Nat) (x y : Int), l[i]? = some (x, y) → 2 * (i : Int) ≤ rank2 p x y := by
  intro i
  induction i with
  | zero =>
    intro x y hx
    have hl : 0 < l.length := (List.getElem?_eq_some_iff.1 hx).1
    have := rank2_lo (isP_range h).2 (goodAt_pair (isP_good h hl) hx)
    omega
  | succ i ih =>
    intro x y hx
    have hl : i + 1 < l.length := (List.getElem?_eq_some_iff.1 hx).1
    obtain ⟨⟨x', y'⟩, hx'⟩ := getSome l i (by omega)
    have h1 := ih _ _ hx'
    have h2 := rank2_step (isP_range h).2 (goodAt_pair (isP_good h (by omega)) hx') (goodAt_pair (isP_good h hl) hx) (goodAt_less (isP_good h hl) hx' hx)
    omega
/-- A party has no more pairs than there are. -/
theorem isP_length {p : Int} {l : PL} (h : isP p l = true) : 2 * (l.length : Int) ≤ p * (p - 1) := by
  have hr := isP_range h
  by_cases hl : l.length = 0
  · have := people_sq hr.1 hr.2
    omega
  · obtain ⟨⟨x, y⟩, hx⟩ := getSome l (l.length - 1) (by omega)
    have h1 := isP_rank h _ _ _ hx
    have h2 := rank2_hi hr.2 (goodAt_pair (isP_good h (by omega)) hx)
    omega
theorem isP_many {p : Int} {l : PL} (h : p * (p - 1) < 2 * (l.length : Int)) : isP p l = false := by
  cases he : isP p l with
  | false => rfl
  | true => have := isP_length he; omega
end Go.Proofs.Ythddlpghjkiioaa
/-
  WHAT A PARTY IS: the reference model's look and the program's, by their contracts: both answer 'isP'.
-/
namespace Go.Proofs.Ythddlpghjkiioaa
open Go.RowKit

def l1InB (n lo hi : Int) : Bool := decide (lo ≤ n ∧ n ≤ hi)
set_option maxHeartbeats 400000 in
theorem l1In_any (n lo hi : Int) (w : World) : Calls Try.prog 57 #[.int .i64 n, .int .i64 lo, .int .i64 hi] w fun e w' => e = .returned (.bool (l1InB n lo hi)) ∧ w = w' := by
  by_cases h1 : lo ≤ n
  · by_cases h2 : n ≤ hi
    · have e : l1InB n lo hi = true := decide_eq_true ⟨h1, h2⟩
      rw [e]
      clear e
      go_enter Try.func57, Try.ntmps57
      go_wp2
      go_ret
      exact ⟨rfl, rfl⟩
    · have e : l1InB n lo hi = false := decide_eq_false (by omega)
      rw [e]
      clear e
      go_enter Try.func57, Try.ntmps57
      go_wp2
      go_ret
      exact ⟨rfl, rfl⟩
  · have e : l1InB n lo hi = false := decide_eq_false (by omega)
    rw [e]
    clear e
    go_enter Try.func57, Try.ntmps57
    go_wp2
    go_ret
    exact ⟨rfl, rfl⟩
theorem l1In_yes (n lo hi : Int) (h : lo ≤ n) (h' : n ≤ hi) (w : World) : Calls Try.prog 57 #[.int .i64 n, .int .i64 lo, .int .i64 hi] w fun e w' => e = .returned (.bool true) ∧ w = w' :=
  (l1In_any n lo hi w).mono fun _ _ hh => by rwa [show l1InB n lo hi = true from decide_eq_true ⟨h, h'⟩] at hh
theorem l1In_no (n lo hi : Int) (h : n < lo ∨ hi < n) (w : World) : Calls Try.prog 57 #[.int .i64 n, .int .i64 lo, .int .i64 hi] w fun e w' => e = .returned (.bool false) ∧ w = w' :=
  (l1In_any n lo hi w).mono fun _ _ hh => by rwa [show l1InB n lo hi = false from decide_eq_false (by omega)] at hh

set_option maxHeartbeats 400000 in
theorem paPeople_any (n : Int) (w : World) : Calls Try.prog 94 #[.int .i64 n] w fun e w' => e = .returned (.bool (l1InB n 0 12)) ∧ w = w' := by
  go_enter Try.func94, Try.ntmps94
  go_wp2_with (go_at_call 57; refine (l1In_any _ _ _ _).mono ?_; rintro e w' ⟨rfl, rfl⟩)
  go_ret
  exact ⟨rfl, rfl⟩
theorem paPeople_yes (n : Int) (h : 0 ≤ n) (h' : n ≤ 12) (w : World) : Calls Try.prog 94 #[.int .i64 n] w fun e w' => e = .returned (.bool true) ∧ w = w' :=
  (paPeople_any n w).mono fun _ _ hh => by rwa [show l1InB n 0 12 = true from decide_eq_true ⟨h, h'⟩] at hh
theorem paPeople_no (n : Int) (h : n < 0 ∨ 12 < n) (w : World) : Calls Try.prog 94 #[.int .i64 n] w fun e w' => e = .returned (.bool false) ∧ w = w' :=
  (paPeople_any n w).mono fun _ _ hh => by rwa [show l1InB n 0 12 = false from decide_eq_false (by omega)] at hh

set_option maxHeartbeats 400000 in
theorem paLess_any (a b c d : Int) (w : World) :
    Calls Try.prog 95 #[.agg #[.int .i64 a, .int .i64 b], .agg #[.int .i64 c, .int .i64 d]] w fun e w' => e = .returned (.bool (pairLess (a, b) (c, d))) ∧ Below w.heap.size w w' := by
  by_cases h1 : a < c
  · have e : pairLess (a, b) (c, d) = true := decide_eq_true (.inl h1)
    rw [e]
    clear e
    go_enter Try.func95, Try.ntmps95
    go_wp2
    go_ret
    exact ⟨rfl, by go_grown⟩
  · by_cases h2 : a = c
    · subst h2
      by_cases h3 : b < d
      · have e : pairLess (a, b) (a, d) = true := decide_eq_true (.inr ⟨rfl, h3⟩)
        rw [e]
        clear e
        go_enter Try.func95, Try.ntmps95
        go_wp2
        go_ret
        exact ⟨rfl, by go_grown⟩
      · have e : pairLess (a, b) (a, d) = false := decide_eq_false (by simp; omega)
        rw [e]
        clear e
        go_enter Try.func95, Try.ntmps95
        go_wp2
        go_ret
        exact ⟨rfl, by go_grown⟩
    · have e : pairLess (a, b) (c, d) = false := decide_eq_false (by simp; omega)
      rw [e]
      clear e
      go_enter Try.func95, Try.ntmps95
      go_wp2
      go_ret
      exact ⟨rfl, by go_grown⟩
theorem paLess_yes (a b c d : Int) (h : a < c ∨ a = c ∧ b < d) (w : World) :
    Calls Try.prog 95 #[.agg #[.int .i64 a, .int .i64 b], .agg #[.int .i64 c, .int .i64 d]] w fun e w' => e = .returned (.bool true) ∧ Below w.heap.size w w' :=
  (paLess_any a b c d w).mono fun _ _ hh => by rwa [show pairLess (a, b) (c, d) = true from decide_eq_true h] at hh
theorem paLess_no (a b c d : Int) (h : ¬ (a < c ∨ a = c ∧ b < d)) (w : World) :
    Calls Try.prog 95 #[.agg #[.int .i64 a, .int .i64 b], .agg #[.int .i64 c, .int .i64 d]] w fun e w' => e = .returned (.bool false) ∧ Below w.heap.size w w' :=
  (paLess_any a b c d w).mono fun _ _ hh => by rwa [show pairLess (a, b) (c, d) = false from decide_eq_false h] at hh

set_option maxHeartbeats 1000000 in
theorem paGood_any (p : Int) (l : PL) (A : Option Addr) (c : Nat) (w : World) (hl : l.length ≤ 1048576) (hA : CRead w w.heap.size A (pcells l)) :
    Calls Try.prog 75 #[.agg #[.int .i64 p, .slice A l.length c]] w fun e w' => e = .returned (.bool (isP p l)) ∧ Below w.heap.size w w' := by
  by_cases hp : p < 0 ∨ 12 < p
  · rw [isP_out p l hp]
    go_enter Try.func75, Try.ntmps75
    go_wp2_with (go_at_call 94; refine (paPeople_no _ hp _).mono ?_; rintro e w' ⟨rfl, rfl⟩)
    go_ret
    exact ⟨rfl, by go_grown⟩
  · obtain ⟨q, hq⟩ : ∃ q, p * (p - 1) = q := ⟨_, rfl⟩
    have hq0 : 0 ≤ q ∧ q ≤ 132 := by rw [← hq]; exact people_sq (by omega) (by omega)
    have hp0 : 0 ≤ p := by omega
    have hp1 : p ≤ 12 := by omega
    obtain ⟨q0, q1⟩ := hq0
    by_cases hmany : q < 2 * (l.length : Int)
    · rw [isP_many (by rw [hq]; exact hmany)]
      have hm' : q / 2 < (l.length : Int) := by omega
      go_enter Try.func75, Try.ntmps75
      go_wp2_with (go_at_call 94; refine (paPeople_yes _ hp0 hp1 _).mono ?_; rintro e w' ⟨rfl, rfl⟩)
      go_ret
      exact ⟨rfl, by go_grown⟩
    · have hm' : ¬ (q / 2 < (l.length : Int)) := by omega
      generalize hn : l.length = n at *
      have Hn := Lib.hid hn
      clear hn
      go_enter Try.func75, Try.ntmps75
      go_wp2_with (go_at_call 94; refine (paPeople_yes _ hp0 hp1 _).mono ?_; rintro e w' ⟨rfl, rfl⟩)
      have hbw : Below (w.heap.size + 1) (w.alloc (Obj.cells #[.int .i64 p, .slice A n c] 25)) (w.alloc (Obj.cells #[.int .i64 p, .slice A n c] 25)) := Below.refl _ _
      go_loopw [25] (fun i wr => ∃ k : Nat, k ≤ n ∧ i = .int .i64 k ∧ (∀ j, j < k → goodAt p l j = true) ∧ Below (w.heap.size + 1) (w.alloc (Obj.cells #[.int .i64 p, .slice A n c] 25)) wr) (fun i _ => n - (intOf i).toNat)
      case atStart => exact ⟨0, Nat.zero_le _, rfl, fun j hj => by omega, hbw⟩
      case round =>
        obtain ⟨k, hk, rfl, hgood, hb⟩ := hrel
        have Hgood := Lib.hid hgood
        clear hgood hbw
        have hs := hb.size
        simp only [World.size_alloc] at hs
        have hbw : Below w.heap.size w wr := Below.trans (b := _) (by go_grown) (hb.mono (by omega))
        have u0 : wr.cell? ⟨w.heap.size, 0, none⟩ = some (.int .i64 p) := (hb.cell (p := ⟨w.heap.size, 0, none⟩) (by simp)).trans (by simp)
        have u1 : wr.cell? ⟨w.heap.size, 1, none⟩ = some (.slice A n c) := (hb.cell (p := ⟨w.heap.size, 1, none⟩) (by simp)).trans (by simp)
        by_cases hlt : k < n
        · obtain ⟨⟨x, y⟩, hx⟩ := getSome l k (by rw [Hn.out]; exact hlt)
          obtain ⟨b, off, rfl, hbb, c0, c1⟩ := (hA.below hbw (Nat.le_refl _)).pair hx
          have hki : (k : Int) < (n : Int) := by omega
          have Hx := Lib.hid hx
          clear hx
          have e0 : ∀ z : Ext (wr.heap.size + 1) (wr.alloc (.cells #[.int .i64 x, .int .i64 y] 64)), z.val.cell? ⟨wr.heap.size, 0, none⟩ = some (.int .i64 x) := fun z => z.cell (by simp) (by omega)
          have e1 : ∀ z : Ext (wr.heap.size + 1) (wr.alloc (.cells #[.int .i64 x, .int .i64 y] 64)), z.val.cell? ⟨wr.heap.size, 1, none⟩ = some (.int .i64 y) := fun z => z.cell (by simp) (by omega)
          have z0 : ∀ z : Ext (wr.heap.size + 1) (wr.alloc (.cells #[.int .i64 x, .int .i64 y] 64)), z.val.cell? ⟨w.heap.size, 0, none⟩ = some (.int .i64 p) := fun z => z.cell ((World.cell?_alloc_lt wr _ _ (by simp; omega)).trans u0) (by omega)
          have z1 : ∀ z : Ext (wr.heap.size + 1) (wr.alloc (.cells #[.int .i64 x, .int .i64 y] 64)), z.val.cell? ⟨w.heap.size, 1, none⟩ = some (.slice (some ⟨b, off, none⟩) n c) := fun z => z.cell ((World.cell?_alloc_lt wr _ _ (by simp; omega)).trans u1) (by omega)
          by_cases hA1 : x < 0 ∨ p - 1 < x
          · go_wp2
            refine wp_region_ext (wr.heap.size + 1) (by kernel_rfl) (by kernel_rfl) ?_
            repeat (go_big_quiet_step ((go_at_call 57; exact Calls.ext_of ((l1In_no _ _ _ hA1 _).mono fun _ _ h => ⟨h.1, h.2 ▸ Below.refl _ _⟩))))
            refine wpQuiet_nil ?_
            rintro w1 ⟨⟨_, hb1⟩, rfl⟩
            go_wp2
            go_ret
            refine ⟨?_, hbw.trans (Below.trans (b := _) ((Below.refl _ _).alloc (by omega) _) (hb1.mono (by omega)))⟩
            rw [isP_no p l (i := k) (by rw [Hn.out]; exact hlt) (goodAt_bad Hx.out (by omega))]
            rfl
          · by_cases hA2 : y < x + 1 ∨ p - 1 < y
            · go_wp2
              refine wp_region_ext (wr.heap.size + 1) (by kernel_rfl) (by kernel_rfl) ?_
              repeat (go_big_quiet_step ((first | (go_at_call_of 57 (Value.int IntKind.i64 x); exact Calls.ext_of ((l1In_yes _ _ _ (by omega) (by omega) _).mono fun _ _ h => ⟨h.1, h.2 ▸ Below.refl _ _⟩)) | (go_at_call_of 57 (Value.int IntKind.i64 y); exact Calls.ext_of ((l1In_no _ _ _ hA2 _).mono fun _ _ h => ⟨h.1, h.2 ▸ Below.refl _ _⟩)))))
              refine wpQuiet_nil ?_
              rintro w1 ⟨⟨_, hb1⟩, rfl⟩
              have hb2 : Below (wr.heap.size) wr w1 := Below.trans (b := _) ((Below.refl _ _).alloc (by omega) _) (hb1.mono (by omega))
              go_wp2
              go_ret
              refine ⟨?_, hbw.trans (hb2.mono (by omega))⟩
              rw [isP_no p l (i := k) (by rw [Hn.out]; exact hlt) (goodAt_bad Hx.out (by omega))]
              rfl
            · have hxy : 0 ≤ x ∧ x < y ∧ y < p := by omega
              have y0 : x + 1 ≤ y := by omega
              have y1 : y ≤ p - 1 := by omega
              have x0 : 0 ≤ x := by omega
              have x1 : x ≤ p - 1 := by omega
              by_cases hkz : k = 0
              · have hk0 : decide ((0 : Int) < (k : Int)) = false := by simp [hkz]
                have hk1 : decide (0 < k) = false := by simp [hkz]
                have Hkz := Lib.hid hkz
                clear hkz
                go_wp2
                refine wp_region_ext (wr.heap.size + 1) (by kernel_rfl) (by kernel_rfl) ?_
                repeat (go_big_quiet_step ((first | (go_at_call_of 57 (Value.int IntKind.i64 x); exact Calls.ext_of ((l1In_yes _ _ _ (by omega) (by omega) _).mono fun _ _ h => ⟨h.1, h.2 ▸ Below.refl _ _⟩)) | (go_at_call_of 57 (Value.int IntKind.i64 y); exact Calls.ext_of ((l1In_yes _ _ _ (by omega) (by omega) _).mono fun _ _ h => ⟨h.1, h.2 ▸ Below.refl _ _⟩)))))
                refine wpQuiet_nil ?_
                rintro w1 ⟨⟨_, hb1⟩, rfl⟩
                have hb2 : Below (wr.heap.size) wr w1 := Below.trans (b := _) ((Below.refl _ _).alloc (by omega) _) (hb1.mono (by omega))
                go_wp2
                go_roundw
                case rel =>
                  refine ⟨k + 1, by omega, by go_num, ?_, hb.trans (hb2.mono (by omega))⟩
                  intro j hj
                  rcases Nat.lt_succ_iff_lt_or_eq.1 hj with h | rfl
                  · exact Hgood.out j h
                  · exact goodAt_zero Hkz.out Hx.out hxy
                case measure => simp [intOf]; omega
              · obtain ⟨⟨x', y'⟩, hx'⟩ := getSome l (k - 1) (by rw [Hn.out]; omega)
                obtain ⟨b', off', e', _, c0', c1'⟩ := (hA.below hbw (Nat.le_refl _)).pair hx'
                simp only [Option.some.injEq, Addr.mk.injEq, and_true] at e'
                obtain ⟨rfl, rfl⟩ := e'
                have Hx' := Lib.hid hx'
                clear hx'
                have e2 : ∀ z : Ext (wr.heap.size + 1) (wr.alloc (.cells #[.int .i64 x, .int .i64 y] 64)), z.val.cell? ⟨b, off + (k - 1) * 2, none⟩ = some (.int .i64 x') := fun z => z.cell ((World.cell?_alloc_lt wr _ _ (by simp; omega)).trans c0') (by omega)
                have e3 : ∀ z : Ext (wr.heap.size + 1) (wr.alloc (.cells #[.int .i64 x, .int .i64 y] 64)), z.val.cell? ⟨b, off + (k - 1) * 2 + 1, none⟩ = some (.int .i64 y') := fun z => z.cell ((World.cell?_alloc_lt wr _ _ (by simp; omega)).trans c1') (by omega)
                have hk0 : (0 : Int) < (k : Int) := by omega
                have hk1 : decide ((0 : Int) < (k : Int)) = true := by simp; omega
                have hk2 : 0 < k := by omega
                have hk3 : (0 : Int) ≤ (k : Int) - 1 := by omega
                have hk4 : (k : Int) - 1 < (n : Int) := by omega
                clear hkz
                by_cases hA3 : x' < x ∨ x' = x ∧ y' < y
                · go_wp2
                  refine wp_region_ext (wr.heap.size + 1) (by kernel_rfl) (by kernel_rfl) ?_
                  repeat (go_big_quiet_step ((first | (go_at_call_of 57 (Value.int IntKind.i64 x); exact Calls.ext_of ((l1In_yes _ _ _ (by omega) (by omega) _).mono fun _ _ h => ⟨h.1, h.2 ▸ Below.refl _ _⟩)) | (go_at_call_of 57 (Value.int IntKind.i64 y); exact Calls.ext_of ((l1In_yes _ _ _ (by omega) (by omega) _).mono fun _ _ h => ⟨h.1, h.2 ▸ Below.refl _ _⟩)) | (go_at_call 95; exact Calls.ext_of ((paLess_yes _ _ _ _ hA3 _).mono fun _ _ h => ⟨h.1, h.2.mono (Ext.size' (by simp) _)⟩)))))
                  refine wpQuiet_nil ?_
                  rintro w1 ⟨⟨_, hb1⟩, rfl⟩
                  have hb2 : Below (wr.heap.size) wr w1 := Below.trans (b := _) ((Below.refl _ _).alloc (by omega) _) (hb1.mono (by omega))
                  go_wp2
                  go_roundw
                  case rel =>
                    refine ⟨k + 1, by omega, by go_num, ?_, hb.trans (hb2.mono (by omega))⟩
                    intro j hj
                    rcases Nat.lt_succ_iff_lt_or_eq.1 hj with h | rfl
                    · exact Hgood.out j h
                    · exact goodAt_later hk2 Hx'.out Hx.out hxy hA3
                  case measure => simp [intOf]; omega
                · go_wp2
                  refine wp_region_ext (wr.heap.size + 1) (by kernel_rfl) (by kernel_rfl) ?_
                  repeat (go_big_quiet_step ((first | (go_at_call_of 57 (Value.int IntKind.i64 x); exact Calls.ext_of ((l1In_yes _ _ _ (by omega) (by omega) _).mono fun _ _ h => ⟨h.1, h.2 ▸ Below.refl _ _⟩)) | (go_at_call_of 57 (Value.int IntKind.i64 y); exact Calls.ext_of ((l1In_yes _ _ _ (by omega) (by omega) _).mono fun _ _ h => ⟨h.1, h.2 ▸ Below.refl _ _⟩)) | (go_at_call 95; exact Calls.ext_of ((paLess_no _ _ _ _ hA3 _).mono fun _ _ h => ⟨h.1, h.2.mono (Ext.size' (by simp) _)⟩)))))
                  refine wpQuiet_nil ?_
                  rintro w1 ⟨⟨_, hb1⟩, rfl⟩
                  have hb2 : Below (wr.heap.size) wr w1 := Below.trans (b := _) ((Below.refl _ _).alloc (by omega) _) (hb1.mono (by omega))
                  go_wp2
                  go_ret
                  refine ⟨?_, hbw.trans (hb2.mono (by omega))⟩
                  rw [isP_no p l (i := k) (by rw [Hn.out]; exact hlt) (goodAt_stale' hk2 Hx'.out Hx.out hA3)]
                  rfl
        · have hkl : k = n := by omega
          subst hkl
          have hge : ¬ ((k : Int) < k) := by omega
          go_wp2
          go_ret
          refine ⟨?_, hbw⟩
          rw [isP_of p l hp0 hp1 (fun i hi => Hgood.out i (by rw [Hn.out] at hi; exact hi))]
          rfl
end Go.Proofs.Ythddlpghjkiioaa
/-
  THE PROGRAM's OWN LOOK AT A PARTY: comparisons of numbers and of pairs, 'impl.IsParty', by their contracts.
-/
namespace Go.Proofs.Ythddlpghjkiioaa
open Go.RowKit

def cmpI (a b : Int) : Int := if a < b then -1 else if b < a then 1 else 0
set_option maxHeartbeats 400000 in
theorem isNaN_any (a : Int) (w : World) : Calls Try.prog 106 #[.int .i64 a] w fun e w' => e = .returned (.bool false) ∧ w = w' := by
  go_enter Try.func106, Try.ntmps106
  go_wp2
  go_ret
  exact ⟨by simp, rfl⟩
set_option maxHeartbeats 400000 in
theorem compare_any (a b : Int) (w : World) : Calls Try.prog 103 #[.int .i64 a, .int .i64 b] w fun e w' => e = .returned (.int .i64 (cmpI a b)) ∧ w = w' := by
  by_cases h1 : a < b
  · have e : cmpI a b = -1 := if_pos h1
    rw [e]
    clear e
    go_enter Try.func103, Try.ntmps103
    go_wp2_with (go_at_call 106; refine (isNaN_any _ _).mono ?_; rintro e w' ⟨rfl, rfl⟩)
    go_ret
    exact ⟨rfl, rfl⟩
  · by_cases h2 : b < a
    · have e : cmpI a b = 1 := by rw [cmpI, if_neg h1, if_pos h2]
      rw [e]
      clear e
      go_enter Try.func103, Try.ntmps103
      go_wp2_with (go_at_call 106; refine (isNaN_any _ _).mono ?_; rintro e w' ⟨rfl, rfl⟩)
      go_ret
      exact ⟨rfl, rfl⟩
    · have e : cmpI a b = 0 := by rw [cmpI, if_neg h1, if_neg h2]
      rw [e]
      clear e
      go_enter Try.func103, Try.ntmps103
      go_wp2_with (go_at_call 106; refine (isNaN_any _ _).mono ?_; rintro e w' ⟨rfl, rfl⟩)
      go_ret
      exact ⟨rfl, rfl⟩

set_option maxHeartbeats 400000 in
theorem or_any (x y : Int) (g : Nat) (w : World) (h0 : w.cell? ⟨g, 0, none⟩ = some (.int .i64 x)) (h1 : w.cell? ⟨g, 1, none⟩ = some (.int .i64 y)) :
    Calls Try.prog 102 #[.slice (some ⟨g, 0, none⟩) 2 2] w fun e w' => e = .returned (.int .i64 (if x = 0 then y else x)) ∧ w = w' := by
  by_cases hx : x = 0
  · subst hx
    rw [if_pos rfl]
    by_cases hy : y = 0
    · subst hy
      go_enter Try.func102, Try.ntmps102
      go_wp2
      refine wp_loop_rounds 3 ?_
      rw [rounds_succ]
      go_wp2
      rw [rounds_succ]
      go_wp2
      rw [rounds_succ]
      go_wp2
      go_ret
      exact ⟨rfl, rfl⟩
    · go_enter Try.func102, Try.ntmps102
      go_wp2
      refine wp_loop_rounds 3 ?_
      rw [rounds_succ]
      go_wp2
      rw [rounds_succ]
      go_wp2
      go_ret
      exact ⟨rfl, rfl⟩
  · rw [if_neg hx]
    go_enter Try.func102, Try.ntmps102
    go_wp2
    refine wp_loop_rounds 3 ?_
    rw [rounds_succ]
    go_wp2
    go_ret
    exact ⟨rfl, rfl⟩

def cmpP (a b c d : Int) : Int := if cmpI a c = 0 then cmpI b d else cmpI a c
theorem cmpP_less (a b c d : Int) : cmpP a b c d < 0 ↔ (a < c ∨ a = c ∧ b < d) := by
  unfold cmpP cmpI
  repeat' split
  all_goals omega
set_option maxHeartbeats 1000000 in
set_option maxRecDepth 100000 in
theorem comparePairs_any (a b c d : Int) (w : World) :
    Calls Try.prog 96 #[.agg #[.int .i64 a, .int .i64 b], .agg #[.int .i64 c, .int .i64 d]] w fun e w' => e = .returned (.int .i64 (cmpP a b c d)) ∧ Below w.heap.size w w' := by
  go_enter Try.func96, Try.ntmps96
  go_wp2
  generalize hW : (w.alloc (Obj.cells #[.int .i64 a, .int .i64 b] 64)).alloc (Obj.cells #[.int .i64 c, .int .i64 d] 64) = W
  have c0 : W.cell? ⟨w.heap.size, 0, none⟩ = some (.int .i64 a) := by rw [← hW]; simp
  have c1 : W.cell? ⟨w.heap.size, 1, none⟩ = some (.int .i64 b) := by rw [← hW]; simp
  have c2 : W.cell? ⟨w.heap.size + 1, 0, none⟩ = some (.int .i64 c) := by rw [← hW]; simp
  have c3 : W.cell? ⟨w.heap.size + 1, 1, none⟩ = some (.int .i64 d) := by rw [← hW]; simp
  have hb : Below w.heap.size w W := by rw [← hW]; go_grown
  clear hW
  refine wp_region_still_tail 10 (by kernel_rfl) (by kernel_rfl) ?_
  simp only [List.take_succ_cons, List.take_zero, List.drop_succ_cons, List.drop_zero]
  still_step
  still_step
  still_step
  still_step
  still_call ((compare_any a c _).mono fun _ _ h => ⟨h.1, h.2.symm⟩)
  still_step
  still_step
  still_step
  still_step
  still_call ((compare_any b d _).mono fun _ _ h => ⟨h.1, h.2.symm⟩)
  refine wpStill_nil ?_
  change wpList _ _ _ _ _ (World.drew _)
  go_wp2_with (go_at_call 102; refine (or_any (cmpI a c) (cmpI b d) _ _ (by simp) (by simp)).mono ?_; rintro e w2 ⟨rfl, rfl⟩)
  · have h : cmpI a c = 0 := by assumption
    go_ret
    exact ⟨by simp [cmpP, h], (hb.alloc hb.size _).drew⟩
  · have h : ¬ cmpI a c = 0 := by assumption
    go_ret
    exact ⟨by simp [cmpP, h], (hb.alloc hb.size _).drew⟩
theorem comparePairs_less (a b c d : Int) (h : a < c ∨ a = c ∧ b < d) (w : World) :
    Calls Try.prog 96 #[.agg #[.int .i64 a, .int .i64 b], .agg #[.int .i64 c, .int .i64 d]] w fun e w' => e = .returned (.int .i64 (-1)) ∧ Below w.heap.size w w' :=
  (comparePairs_any a b c d w).mono fun _ _ hh => by
    have h1 := (cmpP_less a b c d).2 h
    have h2 : cmpP a b c d = -1 := by unfold cmpP cmpI at h1 ⊢; repeat' split at h1; all_goals (repeat' split); all_goals omega
    rwa [h2] at hh
theorem cmpP_more {a b c d : Int} (h : ¬ (a < c ∨ a = c ∧ b < d)) : 0 ≤ cmpP a b c d := by
  have h1 : ¬ cmpP a b c d < 0 := fun h2 => h ((cmpP_less a b c d).1 h2)
  omega

set_option maxHeartbeats 1000000 in
theorem isParty_any (p : Int) (l : PL) (A : Option Addr) (c : Nat) (w : World) (hl : l.length ≤ 1048576) (hA : CRead w w.heap.size A (pcells l)) :
    Calls Try.prog 78 #[.agg #[.int .i64 p, .slice A l.length c]] w fun e w' => e = .returned (.bool (isP p l)) ∧ Below w.heap.size w w' := by
  by_cases hp : p < 0 ∨ 12 < p
  · rw [isP_out p l hp]
    rcases hp with hp | hp
    · go_enter Try.func78, Try.ntmps78
      go_wp2
      go_ret
      exact ⟨rfl, by go_grown⟩
    · have hp' : ¬ p < 0 := by omega
      go_enter Try.func78, Try.ntmps78
      go_wp2
      go_ret
      exact ⟨rfl, by go_grown⟩
  · have hp0 : 0 ≤ p := by omega
    have hp1 : p ≤ 12 := by omega
    generalize hn : l.length = n at *
    have Hn := Lib.hid hn
    clear hn hp
    go_enter Try.func78, Try.ntmps78
    go_wp2
    have hbw : Below (w.heap.size + 1) (w.alloc (Obj.cells #[.int .i64 p, .slice A n c] 25)) (w.alloc (Obj.cells #[.int .i64 p, .slice A n c] 25)) := Below.refl _ _
    go_loopw [16] (fun i wr => ∃ k : Nat, k ≤ n ∧ i = .int .i64 k ∧ (∀ j, j < k → goodAt p l j = true) ∧ Below (w.heap.size + 1) (w.alloc (Obj.cells #[.int .i64 p, .slice A n c] 25)) wr) (fun i _ => n - (intOf i).toNat)
    case atStart => exact ⟨0, Nat.zero_le _, rfl, fun j hj => by omega, hbw⟩
    case round =>
      obtain ⟨k, hk, rfl, hgood, hb⟩ := hrel
      have Hgood := Lib.hid hgood
      clear hgood hbw
      have hs := hb.size
      simp only [World.size_alloc] at hs
      have hbw : Below w.heap.size w wr := Below.trans (b := _) (by go_grown) (hb.mono (by omega))
      have u0 : wr.cell? ⟨w.heap.size, 0, none⟩ = some (.int .i64 p) := (hb.cell (p := ⟨w.heap.size, 0, none⟩) (by simp)).trans (by simp)
      have u1 : wr.cell? ⟨w.heap.size, 1, none⟩ = some (.slice A n c) := (hb.cell (p := ⟨w.heap.size, 1, none⟩) (by simp)).trans (by simp)
      by_cases hlt : k < n
      · obtain ⟨⟨x, y⟩, hx⟩ := getSome l k (by rw [Hn.out]; exact hlt)
        obtain ⟨b, off, rfl, hbb, c0, c1⟩ := (hA.below hbw (Nat.le_refl _)).pair hx
        have hki : (k : Int) < (n : Int) := by omega
        have Hx := Lib.hid hx
        clear hx
        have u2 : (wr.alloc (.cells #[.int .i64 x, .int .i64 y] 64)).cell? ⟨w.heap.size, 0, none⟩ = some (.int .i64 p) := (World.cell?_alloc_lt wr _ _ (by simp; omega)).trans u0
        have u3 : (wr.alloc (.cells #[.int .i64 x, .int .i64 y] 64)).cell? ⟨w.heap.size, 1, none⟩ = some (.slice (some ⟨b, off, none⟩) n c) := (World.cell?_alloc_lt wr _ _ (by simp; omega)).trans u1
        by_cases hxy : 0 ≤ x ∧ x < y ∧ y < p
        · have x0 : 0 ≤ x := by omega
          have x1 : ¬ (y ≤ x) := by omega
          have x2 : ¬ (p ≤ y) := by omega
          have e0 : ∀ z : Ext (wr.heap.size + 1) (wr.alloc (.cells #[.int .i64 x, .int .i64 y] 64)), z.val.cell? ⟨wr.heap.size, 0, none⟩ = some (.int .i64 x) := fun z => z.cell (by simp) (by omega)
          have e1 : ∀ z : Ext (wr.heap.size + 1) (wr.alloc (.cells #[.int .i64 x, .int .i64 y] 64)), z.val.cell? ⟨wr.heap.size, 1, none⟩ = some (.int .i64 y) := fun z => z.cell (by simp) (by omega)
          have z0 : ∀ z : Ext (wr.heap.size + 1) (wr.alloc (.cells #[.int .i64 x, .int .i64 y] 64)), z.val.cell? ⟨w.heap.size, 0, none⟩ = some (.int .i64 p) := fun z => z.cell ((World.cell?_alloc_lt wr _ _ (by simp; omega)).trans u0) (by omega)
          have z1 : ∀ z : Ext (wr.heap.size + 1) (wr.alloc (.cells #[.int .i64 x, .int .i64 y] 64)), z.val.cell? ⟨w.heap.size, 1, none⟩ = some (.slice (some ⟨b, off, none⟩) n c) := fun z => z.cell ((World.cell?_alloc_lt wr _ _ (by simp; omega)).trans u1) (by omega)
          have Hxy := Lib.hid hxy
          clear hxy
          by_cases hkz : k = 0
          · have hk0 : decide ((0 : Int) < (k : Int)) = false := by simp [hkz]
            have hk1 : decide (0 < k) = false := by simp [hkz]
            have Hkz := Lib.hid hkz
            clear hkz
            go_wp2
            refine wp_region_ext (wr.heap.size + 1) (by kernel_rfl) (by kernel_rfl) ?_
            repeat (go_big_quiet_step (fail))
            refine wpQuiet_nil ?_
            rintro w1 ⟨⟨_, hb1⟩, rfl⟩
            have hb2 : Below (wr.heap.size) wr w1 := Below.trans (b := _) ((Below.refl _ _).alloc (by omega) _) (hb1.mono (by omega))
            go_wp2
            go_roundw
            case rel =>
              refine ⟨k + 1, by omega, by go_num, ?_, hb.trans (hb2.mono (by omega))⟩
              intro j hj
              rcases Nat.lt_succ_iff_lt_or_eq.1 hj with h | rfl
              · exact Hgood.out j h
              · exact goodAt_zero Hkz.out Hx.out Hxy.out
            case measure => simp [intOf]; omega
          · obtain ⟨⟨x', y'⟩, hx'⟩ := getSome l (k - 1) (by rw [Hn.out]; omega)
            obtain ⟨b', off', e', _, c0', c1'⟩ := (hA.below hbw (Nat.le_refl _)).pair hx'
            simp only [Option.some.injEq, Addr.mk.injEq, and_true] at e'
            obtain ⟨rfl, rfl⟩ := e'
            have Hx' := Lib.hid hx'
            clear hx'
            have e2 : ∀ z : Ext (wr.heap.size + 1) (wr.alloc (.cells #[.int .i64 x, .int .i64 y] 64)), z.val.cell? ⟨b, off + (k - 1) * 2, none⟩ = some (.int .i64 x') := fun z => z.cell ((World.cell?_alloc_lt wr _ _ (by simp; omega)).trans c0') (by omega)
            have e3 : ∀ z : Ext (wr.heap.size + 1) (wr.alloc (.cells #[.int .i64 x, .int .i64 y] 64)), z.val.cell? ⟨b, off + (k - 1) * 2 + 1, none⟩ = some (.int .i64 y') := fun z => z.cell ((World.cell?_alloc_lt wr _ _ (by simp; omega)).trans c1') (by omega)
            have hk0 : (0 : Int) < (k : Int) := by omega
            have hk1 : decide ((0 : Int) < (k : Int)) = true := by simp; omega
            have hk2 : 0 < k := by omega
            have hk3 : (0 : Int) ≤ (k : Int) - 1 := by omega
            have hk4 : (k : Int) - 1 < (n : Int) := by omega
            clear hkz
            by_cases hA3 : x' < x ∨ x' = x ∧ y' < y
            · go_wp2
              refine wp_region_ext (wr.heap.size + 1) (by kernel_rfl) (by kernel_rfl) ?_
              repeat (go_big_quiet_step ((go_at_call 96; exact Calls.ext_of ((comparePairs_less _ _ _ _ hA3 _).mono fun _ _ h => ⟨h.1, h.2.mono (Ext.size' (by simp) _)⟩))))
              refine wpQuiet_nil ?_
              rintro w1 ⟨⟨_, hb1⟩, rfl⟩
              have hb2 : Below (wr.heap.size) wr w1 := Below.trans (b := _) ((Below.refl _ _).alloc (by omega) _) (hb1.mono (by omega))
              go_wp2
              go_roundw
              case rel =>
                refine ⟨k + 1, by omega, by go_num, ?_, hb.trans (hb2.mono (by omega))⟩
                intro j hj
                rcases Nat.lt_succ_iff_lt_or_eq.1 hj with h | rfl
                · exact Hgood.out j h
                · exact goodAt_later hk2 Hx'.out Hx.out Hxy.out hA3
              case measure => simp [intOf]; omega
            · have hmore := cmpP_more hA3
              go_wp2
              refine wp_region_ext (wr.heap.size + 1) (by kernel_rfl) (by kernel_rfl) ?_
              repeat (go_big_quiet_step ((go_at_call 96; exact Calls.ext_of ((comparePairs_any _ _ _ _ _).mono fun _ _ h => ⟨h.1, h.2.mono (Ext.size' (by simp) _)⟩))))
              refine wpQuiet_nil ?_
              rintro w1 ⟨⟨_, hb1⟩, rfl⟩
              have hb2 : Below (wr.heap.size) wr w1 := Below.trans (b := _) ((Below.refl _ _).alloc (by omega) _) (hb1.mono (by omega))
              go_wp2
              go_ret
              refine ⟨?_, hbw.trans (hb2.mono (by omega))⟩
              rw [isP_no p l (i := k) (by rw [Hn.out]; exact hlt) (goodAt_stale' hk2 Hx'.out Hx.out hA3)]
              rfl
        · have hres : isP p l = false := isP_no p l (i := k) (by rw [Hn.out]; exact hlt) (goodAt_bad Hx.out hxy)
          have Hres := Lib.hid hres
          clear hres
          by_cases h1 : x < 0
          · go_wp2
            go_ret
            exact ⟨by rw [Hres.out]; rfl, hbw.alloc (by omega) _⟩
          · by_cases h2 : y ≤ x
            · go_wp2
              go_ret
              exact ⟨by rw [Hres.out]; rfl, hbw.alloc (by omega) _⟩
            · have h3 : p ≤ y := by omega
              go_wp2
              go_ret
              exact ⟨by rw [Hres.out]; rfl, hbw.alloc (by omega) _⟩
      · have hkl : k = n := by omega
        subst hkl
        have hge : ¬ ((k : Int) < k) := by omega
        go_wp2
        go_ret
        refine ⟨?_, hbw⟩
        rw [isP_of p l hp0 hp1 (fun i hi => Hgood.out i (by rw [Hn.out] at hi; exact hi))]
        rfl

end Go.Proofs.Ythddlpghjkiioaa
/-
  Parties and lists of numbers that a call comes back with.
-/
namespace Go.Proofs.Ythddlpghjkiioaa
open Go.RowKit

/-- A call came back with a party and a bool; the party's pairs lie in memory of its own. -/
def GotPartyOk (w : World) (p : Int) (l : PL) (ok : Bool) (e : Ending) (w' : World) : Prop :=
  ∃ A c, e = .returned (.tuple #[.agg #[.int .i64 p, .slice A l.length c], .bool ok]) ∧ w'.ownsRow w.heap.size 64 2 (.slice A l.length c) l.length (pcells l) ∧ Below w.heap.size w w'
/-- A call came back with a list of numbers and a bool. -/
def GotIntsOk (w : World) (l : List Int) (ok : Bool) (e : Ending) (w' : World) : Prop :=
  ∃ A c, e = .returned (.tuple #[.slice A l.length c, .bool ok]) ∧ w'.ownsRow w.heap.size 3 1 (.slice A l.length c) l.length (icells l) ∧ Below w.heap.size w w'

end Go.Proofs.Ythddlpghjkiioaa
