/-
  THE BASE OF THIS SEAT's TEXTS: lists of pairs and of numbers as cells; 'CRead': a slice that reads as a list of cells; 'Ext': the worlds that differ from one only above a block; regions that draw their order and whose calls make memory. Nothing here speaks of the program.
-/
import Derived.WalkKit
import Derived.Handy
import Derived.Lib.Hide
import Derived.BigQuiet
import Derived.Laws.OwnMore
namespace Go.Proofs.YtgccapdjhnejcaaDoor
open Go.RowKit

/-! ## Lists as cells -/
abbrev PL := List (Int × Int)
def pcells : PL → List Value
  | [] => []
  | p :: l => .int .i64 p.1 :: .int .i64 p.2 :: pcells l
def icells (l : List Int) : List Value := l.map (Value.int .i64)
def bcells (l : List Bool) : List Value := l.map Value.bool

theorem pcells_length (l : PL) : (pcells l).length = l.length * 2 := by
  induction l with
  | nil => rfl
  | cons p l ih => simp only [pcells, List.length_cons, ih]; omega
theorem icells_length (l : List Int) : (icells l).length = l.length := by simp [icells]
theorem bcells_length (l : List Bool) : (bcells l).length = l.length := by simp [bcells]
theorem pcells_append (l m : PL) : pcells (l ++ m) = pcells l ++ pcells m := by
  induction l with
  | nil => rfl
  | cons p l ih => simp [pcells, ih]
theorem icells_append (l m : List Int) : icells (l ++ m) = icells l ++ icells m := by simp [icells]
theorem pcells_fst {l : PL} {k : Nat} {x y : Int} (h : l[k]? = some (x, y)) : (pcells l)[k * 2]? = some (.int .i64 x) := by
  induction l generalizing k with
  | nil => simp at h
  | cons p l ih =>
    cases k with
    | zero => simp at h; subst h; rfl
    | succ k => rw [show (k + 1) * 2 = k * 2 + 2 from by omega]; simpa [pcells] using ih (by simpa using h)
theorem pcells_snd {l : PL} {k : Nat} {x y : Int} (h : l[k]? = some (x, y)) : (pcells l)[k * 2 + 1]? = some (.int .i64 y) := by
  induction l generalizing k with
  | nil => simp at h
  | cons p l ih =>
    cases k with
    | zero => simp at h; subst h; rfl
    | succ k => rw [show (k + 1) * 2 + 1 = k * 2 + 1 + 2 from by omega]; simpa [pcells] using ih (by simpa using h)
theorem pcells_set (l : PL) (k : Nat) (x y : Int) : ((pcells l).set (k * 2) (.int .i64 x)).set (k * 2 + 1) (.int .i64 y) = pcells (l.set k (x, y)) := by
  induction l generalizing k with
  | nil => rfl
  | cons p l ih =>
    cases k with
    | zero => rfl
    | succ k =>
      rw [show (k + 1) * 2 = k * 2 + 2 from by omega, show k * 2 + 2 + 1 = k * 2 + 1 + 2 from by omega]
      simp [pcells, ih k]
theorem pcells_one (l : PL) : ∀ u ∈ pcells l, u.oneCell' = true := by
  induction l with
  | nil => intro u h; cases h
  | cons p l ih => intro u h; simp [pcells] at h; rcases h with rfl | rfl | h <;> first | rfl | exact ih u h
theorem icells_one (l : List Int) : ∀ u ∈ icells l, u.oneCell' = true := by
  intro u h
  obtain ⟨x, _, rfl⟩ := List.mem_map.1 h
  rfl
theorem icells_at {l : List Int} {k : Nat} {x : Int} (h : l[k]? = some x) : (icells l)[k]? = some (.int .i64 x) := by simp [icells, h]
theorem icells_set (l : List Int) (k : Nat) (x : Int) : (icells l).set k (.int .i64 x) = icells (l.set k x) := by simp [icells]
theorem bcells_at {l : List Bool} {k : Nat} {x : Bool} (h : l[k]? = some x) : (bcells l)[k]? = some (.bool x) := by simp [bcells, h]
theorem bcells_set (l : List Bool) (k : Nat) (x : Bool) : (bcells l).set k (.bool x) = bcells (l.set k x) := by simp [bcells]
theorem getSome {α : Type} (l : List α) (k : Nat) (h : k < l.length) : ∃ x, l[k]? = some x := ⟨l[k], List.getElem?_eq_getElem h⟩

/-! ## A slice that reads as a list of cells; its block lies below B -/
def CRead (w : World) (B : Nat) (ad : Option Addr) (xs : List Value) : Prop :=
  ∀ j u, xs[j]? = some u → ∃ b off, ad = some ⟨b, off, none⟩ ∧ b < B ∧ w.cell? ⟨b, off + j, none⟩ = some u
section
variable {w w' : World} {B B' : Nat} {ad : Option Addr} {xs : List Value}
theorem CRead.below (h : CRead w B ad xs) (hb : Below B' w w') (hB : B ≤ B') : CRead w' B ad xs := fun j u hu =>
  let ⟨b, off, e, hb', hc⟩ := h j u hu
  ⟨b, off, e, hb', (hb.cell (by show b < B'; omega)).trans hc⟩
theorem CRead.more (h : CRead w B ad xs) (hB : B ≤ B') : CRead w B' ad xs := fun j u hu =>
  let ⟨b, off, e, hb', hc⟩ := h j u hu
  ⟨b, off, e, by omega, hc⟩
theorem CRead.nil : CRead w B ad [] := fun j u hu => by simp at hu
theorem CRead.pair {l : PL} (h : CRead w B ad (pcells l)) {k : Nat} {x y : Int} (hk : l[k]? = some (x, y)) :
    ∃ b off, ad = some ⟨b, off, none⟩ ∧ b < B ∧ w.cell? ⟨b, off + k * 2, none⟩ = some (.int .i64 x) ∧ w.cell? ⟨b, off + k * 2 + 1, none⟩ = some (.int .i64 y) := by
  obtain ⟨b, off, rfl, hb, h0⟩ := h _ _ (pcells_fst hk)
  obtain ⟨b', off', e, _, h1⟩ := h _ _ (pcells_snd hk)
  simp only [Option.some.injEq, Addr.mk.injEq, and_true] at e
  obtain ⟨rfl, rfl⟩ := e
  exact ⟨b, off, rfl, hb, h0, h1⟩
theorem CRead.int {l : List Int} (h : CRead w B ad (icells l)) {k : Nat} {x : Int} (hk : l[k]? = some x) :
    ∃ b off, ad = some ⟨b, off, none⟩ ∧ b < B ∧ w.cell? ⟨b, off + k, none⟩ = some (.int .i64 x) := h _ _ (icells_at hk)
theorem CRead.of_own {base : Nat} {e : TypeId} {size n c : Nat} {A : Option Addr} (h : w.ownsRow base e size (.slice A n c) n xs) : CRead w w.heap.size A xs := by
  intro j u hu
  rcases h.2 with ⟨h', h0⟩ | ⟨g, cap, cur, h', hb, hg, hnc, hcm, hcs, htake⟩
  · have hx : xs = [] := List.eq_nil_of_length_eq_zero (by simpa [h0] using h.1)
    subst hx
    simp at hu
  · simp only [Value.slice.injEq] at h'
    obtain ⟨rfl, _, rfl⟩ := h'
    refine ⟨g, 0, rfl, (Array.getElem?_eq_some_iff.1 hg).1, ?_⟩
    rw [Nat.zero_add, cell_of_row w g j cur e (0, 0) hg]
    rw [← htake, List.getElem?_take] at hu
    split at hu
    · simpa using hu
    · cases hu
end

/-! ## What the call owns -/
section
variable {w w' : World} {base : Nat} {e : TypeId} {size n g cap : Nat} {v : Value} {xs : List Value}
theorem below_grownBy {B : Nat} (h : Below B w w') (hB : w.heap.size ≤ B) (row : Option Nat) : w.grownBy w' row := ⟨h.os, h.tape, h.output, h.size, fun k hk _ => h.block k (by omega)⟩
theorem own_below (h : w.ownsRow base e size v n xs) {B : Nat} (hb : Below B w w') (hB : w.heap.size ≤ B) : w'.ownsRow base e size v n xs :=
  h.kept (below_grownBy hb hB none) (by cases v.ownBlock <;> simp)
theorem own_lower (h : w.ownsRow base e size v n xs) {base' : Nat} (hb : base' ≤ base) : w.ownsRow base' e size v n xs := by
  refine ⟨h.1, ?_⟩
  rcases h.2 with h' | ⟨g, cap, cur, hv, hg, rest⟩
  · exact .inl h'
  · exact .inr ⟨g, cap, cur, hv, by omega, rest⟩
theorem own_lt (h : w.ownsRow base e size (.slice (some ⟨g, 0, none⟩) n cap) n xs) : base ≤ g ∧ g < w.heap.size := h.lt g rfl
/-- a new world, some blocks from B on written and some new ones -/
theorem below_set2 {B : Nat} {a : World} (h : Below B a w) (hg : B ≤ g) (i j : Nat) (x y : Value) : Below B a ((w.setCell ⟨g, i, none⟩ x).setCell ⟨g, j, none⟩ y) :=
  (h.setCell (p := ⟨g, i, none⟩) hg x).setCell (p := ⟨g, j, none⟩) hg y
theorem own_setPair {l : PL} (h : w.ownsRow base e 2 (.slice (some ⟨g, 0, none⟩) n cap) n (pcells l)) (k : Nat) (x y : Int) :
    ((w.setCell ⟨g, k * 2, none⟩ (.int .i64 x)).setCell ⟨g, k * 2 + 1, none⟩ (.int .i64 y)).ownsRow base e 2 (.slice (some ⟨g, 0, none⟩) n cap) n (pcells (l.set k (x, y))) := by
  rw [← pcells_set]
  exact ((h.stored (k * 2) (.int .i64 x)).1.stored (k * 2 + 1) (.int .i64 y)).1
theorem own_pairAt {l : PL} (h : w.ownsRow base e 2 (.slice (some ⟨g, 0, none⟩) n cap) n (pcells l)) {k : Nat} {x y : Int} (hk : l[k]? = some (x, y)) :
    w.cell? ⟨g, k * 2, none⟩ = some (.int .i64 x) ∧ w.cell? ⟨g, k * 2 + 1, none⟩ = some (.int .i64 y) := by
  have hl : l.length = n := by have := h.1; rw [pcells_length] at this; omega
  have hkl : k < l.length := (List.getElem?_eq_some_iff.1 hk).1
  exact ⟨(h.cellAt _ (by omega)).trans (pcells_fst hk), (h.cellAt _ (by omega)).trans (pcells_snd hk)⟩
theorem own_intAt {l : List Int} (h : w.ownsRow base e 1 (.slice (some ⟨g, 0, none⟩) n cap) n (icells l)) {k : Nat} {x : Int} (hk : l[k]? = some x) : w.cell? ⟨g, k, none⟩ = some (.int .i64 x) := by
  have hl : l.length = n := by have := h.1; rw [icells_length] at this; omega
  have hkl : k < l.length := (List.getElem?_eq_some_iff.1 hk).1
  exact (h.cellAt _ (by omega)).trans (icells_at hk)
theorem own_setInt {l : List Int} (h : w.ownsRow base e 1 (.slice (some ⟨g, 0, none⟩) n cap) n (icells l)) (k : Nat) (x : Int) :
    (w.setCell ⟨g, k, none⟩ (.int .i64 x)).ownsRow base e 1 (.slice (some ⟨g, 0, none⟩) n cap) n (icells (l.set k x)) := by
  rw [← icells_set]
  exact (h.stored k (.int .i64 x)).1
theorem own_boolAt {l : List Bool} (h : w.ownsRow base e 1 (.slice (some ⟨g, 0, none⟩) n cap) n (bcells l)) {k : Nat} {x : Bool} (hk : l[k]? = some x) : w.cell? ⟨g, k, none⟩ = some (.bool x) := by
  have hl : l.length = n := by have := h.1; rw [bcells_length] at this; omega
  have hkl : k < l.length := (List.getElem?_eq_some_iff.1 hk).1
  exact (h.cellAt _ (by omega)).trans (bcells_at hk)
theorem own_setBool {l : List Bool} (h : w.ownsRow base e 1 (.slice (some ⟨g, 0, none⟩) n cap) n (bcells l)) (k : Nat) (x : Bool) :
    (w.setCell ⟨g, k, none⟩ (.bool x)).ownsRow base e 1 (.slice (some ⟨g, 0, none⟩) n cap) n (bcells (l.set k x)) := by
  rw [← bcells_set]
  exact (h.stored k (.bool x)).1
theorem made_pairs (n : Nat) : (madeCells #[.int .i64 0, .int .i64 0] (n * 2)).toList = pcells (List.replicate n (0, 0)) := by
  have hp : ∀ m j, (pcells (List.replicate m (0, 0)))[j]? = if j < m * 2 then some (.int .i64 0) else none := by
    intro m
    induction m with
    | zero => intro j; simp [pcells]
    | succ m ih =>
      intro j
      match j with
      | 0 => simp [List.replicate_succ, pcells]
      | 1 => simp [List.replicate_succ, pcells]; omega
      | j + 2 =>
        simp only [List.replicate_succ, pcells, List.getElem?_cons_succ, ih j]
        congr 1
        apply propext
        omega
  apply List.ext_getElem?
  intro j
  rw [hp]
  by_cases hj : j < n * 2
  · rw [if_pos hj]
    rcases Nat.mod_two_eq_zero_or_one j with h | h <;> simp [madeCells, hj, h]
  · rw [if_neg hj]
    simp [madeCells, hj]
theorem made_ints (n : Nat) : (madeCells #[.int .i64 0] (n * 1)).toList = icells (List.replicate n 0) := by rw [Nat.mul_one, toList_madeCells_one]; simp [icells]
theorem made_bools (n : Nat) : (madeCells #[.bool false] (n * 1)).toList = bcells (List.replicate n false) := by rw [Nat.mul_one, toList_madeCells_one]; simp [bcells]
end

theorem gb_trans {a b c : World} {row : Option Nat} (h : a.grownBy b row) (k : b.grownBy c row) : a.grownBy c row :=
  ⟨k.os.trans h.os, k.tape.trans h.tape, k.output.trans h.output, Nat.le_trans h.size k.size, fun i hi hne => (k.block i (Nat.lt_of_lt_of_le hi h.size) hne).trans (h.block i hi hne)⟩
theorem gb_below {a b c : World} {row : Option Nat} {B : Nat} (h : a.grownBy b row) (k : Below B b c) (hB : a.heap.size ≤ B) : a.grownBy c row :=
  ⟨k.os.trans h.os, k.tape.trans h.tape, k.output.trans h.output, Nat.le_trans h.size k.size, fun i hi hne => (k.block i (by omega)).trans (h.block i hi hne)⟩
theorem below_gb {a b c : World} {row : Option Nat} {B : Nat} (h : Below B a b) (k : b.grownBy c row) (hB : a.heap.size ≤ B) : a.grownBy c row :=
  ⟨k.os.trans h.os, k.tape.trans h.tape, k.output.trans h.output, Nat.le_trans h.size k.size, fun i hi hne => (k.block i (Nat.lt_of_lt_of_le hi h.size) hne).trans (h.block i (by omega))⟩

theorem below_of_gb {w w' : World} (h : w.grownBy w' none) {B : Nat} (hB : B ≤ w.heap.size) : Below B w w' := (Below.refl _ _).grown h hB (by simp)

/-- Behind a call that only makes memory: the rules by which the walk reads old cells. -/
theorem old_cells {B : Nat} {W w1 : World} (hb : Below B W w1) : (∀ b o, b < B → w1.cell? ⟨b, o, none⟩ = W.cell? ⟨b, o, none⟩) ∧ (∀ b o, b < B → w1.frozen? ⟨b, o, none⟩ = W.frozen? ⟨b, o, none⟩) :=
  ⟨fun b o h => hb.cell (p := ⟨b, o, none⟩) h, fun b o h => hb.frozen (p := ⟨b, o, none⟩) h⟩

theorem own_far {w : World} {base : Nat} {e : TypeId} {size n g cap : Nat} {xs : List Value} (h : w.ownsRow base e size (.slice (some ⟨g, 0, none⟩) n cap) n xs) {p : Addr} (hp : p.block ≠ g) (u : Value) :
    (w.setCell p u).ownsRow base e size (.slice (some ⟨g, 0, none⟩) n cap) n xs := by
  rcases h.2 with ⟨h', _⟩ | ⟨g', cap', cur, h', hb, hg, rest⟩
  · simp at h'
  · simp only [Value.slice.injEq, Option.some.injEq, Addr.mk.injEq, and_true, true_and] at h'
    obtain ⟨rfl, rfl⟩ := h'
    exact ⟨h.1, .inr ⟨g, cap, cur, rfl, hb, by rw [Below.heap_setCell _ _ _ _ (Ne.symm hp)]; exact hg, rest⟩⟩

/-! ## Marks -/
def marks (k : Int) (n : Nat) : PL := (List.range n).map fun i : Nat => (k + 2 * (i : Int), k + 2 * (i : Int) + 1)
def imarks (k : Int) (n : Nat) : List Int := (List.range n).map fun i : Nat => k + (i : Int)
theorem marks_length (k : Int) (n : Nat) : (marks k n).length = n := by simp [marks]
theorem imarks_length (k : Int) (n : Nat) : (imarks k n).length = n := by simp [imarks]
theorem marks_at {k : Int} {n i : Nat} (h : i < n) : (marks k n)[i]? = some (k + 2 * i, k + 2 * i + 1) := by simp [marks, h]
theorem imarks_at {k : Int} {n i : Nat} (h : i < n) : (imarks k n)[i]? = some (k + i) := by simp [imarks, h]
theorem take_set_drop {α : Type} (m l : List α) (n k : Nat) (x : α) (hm : m.length = n) (hn : l.length = n) (hx : m[k]? = some x) :
    (m.take k ++ l.drop k).set k x = m.take (k + 1) ++ l.drop (k + 1) := by
  have hk : k < m.length := (List.getElem?_eq_some_iff.1 hx).1
  have e : l.drop k = l[k]'(by omega) :: l.drop (k + 1) := List.drop_eq_getElem_cons (by omega)
  have h1 : (m.take k).length = k := by rw [List.length_take]; omega
  rw [List.set_append_right _ _ (by omega), h1, Nat.sub_self, e, List.set_cons_zero, List.take_add_one, hx]
  simp
theorem take_drop_at {α : Type} (m l : List α) (n k : Nat) (hm : m.length = n) (hn : l.length = n) (hk : k < n) : ∃ y, (m.take k ++ l.drop k)[k]? = some y ∧ l[k]? = some y := by
  refine ⟨l[k]'(by omega), ?_, List.getElem?_eq_getElem (by omega)⟩
  have h1 : (m.take k).length = k := by rw [List.length_take]; omega
  rw [List.getElem?_append_right (by omega), h1, Nat.sub_self, List.getElem?_drop, Nat.add_zero]
  exact List.getElem?_eq_getElem (by omega)
theorem own_form {w : World} {base : Nat} {e : TypeId} {size n c : Nat} {A : Option Addr} {xs : List Value} (h : w.ownsRow base e size (.slice A n c) n xs) (hn : 0 < n) : ∃ g, A = some ⟨g, 0, none⟩ := by
  rcases h.2 with ⟨_, h0⟩ | ⟨g, cap, cur, hv, _⟩
  · omega
  · simp only [Value.slice.injEq] at hv
    exact ⟨g, hv.1⟩

/-! ## What stays behind a call -/
theorem carry {B : Nat} {W w : World} {b o : Nat} {v : Value} (h : Below B W w) (hc : W.cell? ⟨b, o, none⟩ = some v) (hb : b < B) : w.cell? ⟨b, o, none⟩ = some v := (h.cell (p := ⟨b, o, none⟩) hb).trans hc
/-- where a row lies -/
def Lies (v : Value) (lo hi : Nat) : Prop := ∀ k, v.ownBlock = some k → lo ≤ k ∧ k < hi
theorem own_lies {w : World} {base : Nat} {e : TypeId} {size n : Nat} {v : Value} {xs : List Value} (h : w.ownsRow base e size v n xs) : Lies v base w.heap.size := h.lt
theorem carryG {w w' : World} {v : Value} {lo hi b o : Nat} {u : Value} (hg : w.grownBy w' v.ownBlock) (hl : Lies v lo hi) (hc : w.cell? ⟨b, o, none⟩ = some u) (hb : b < lo ∨ hi ≤ b) : w'.cell? ⟨b, o, none⟩ = some u :=
  hg.cell hc (by
    intro e
    have := hl b e.symm
    omega)
theorem keptG {w w' : World} {v v' : Value} {lo hi lo' hi' base : Nat} {e : TypeId} {size n : Nat} {xs : List Value} (hg : w.grownBy w' v.ownBlock) (hl : Lies v lo hi) (h : w.ownsRow base e size v' n xs) (hl' : Lies v' lo' hi') (hd : hi ≤ lo' ∨ hi' ≤ lo) : w'.ownsRow base e size v' n xs :=
  h.kept hg (by
    cases hv : v'.ownBlock with
    | none => exact .inl rfl
    | some k =>
      refine .inr fun e => ?_
      have h1 := hl' k hv
      have h2 := hl k e.symm
      omega)
theorem belowG {a w w' : World} {v : Value} {lo hi B : Nat} (h : Below B a w) (hg : w.grownBy w' v.ownBlock) (hl : Lies v lo hi) (hB : B ≤ w.heap.size) (hlo : B ≤ lo) : Below B a w' :=
  h.grown hg hB fun k hk => by have := hl k hk; omega

/-! ## The worlds above one -/
def Ext (B : Nat) (W : World) := { w : World // Below B W w }
instance Ext.here (B : Nat) (W : World) : Nonempty (Ext B W) := ⟨⟨W, Below.refl B W⟩⟩
theorem Ext.below {B : Nat} {W : World} (x : Ext B W) : Below B W x.val := x.property
theorem wp_region_ext {P : Program} (B : Nat) {id : Nat} {Q : Exit → Act → World → Prop} {a : Act} {W : World} {l : List Oper} (hm : P.follows .mixedOrders = true) (hB : Region.lexB .any l.toArray = true)
    (h : wpQuiet P l.toArray (fun w' => ∃ x : Ext B W, w' = x.val) (fun a' => ∀ w', (∃ x : Ext B W, w' = x.val) → Q .normal a' w') l a) : (Code.region id l.toArray true).wp P Q a W :=
  wp_region_quiet (C := fun w' => ∃ x : Ext B W, w' = x.val) hm hB ⟨⟨W.drew, (Below.refl B W).drew⟩, rfl⟩ (by simpa using h)
/-- A callee's contract, met in a world above. -/
theorem Calls.ext_of {P : Program} {f : FuncId} {args : Array Value} {B : Nat} {W : World} {x : Ext B W} {v : Value}
    (h : Calls P f args x.val fun e w' => e = .returned v ∧ Below B x.val w') : Calls P f args x.val fun e w'' => e = .returned v ∧ ∃ y : Ext B W, w'' = y.val :=
  h.mono fun _ w' ⟨he, hb⟩ => ⟨he, ⟨w', x.below.trans hb⟩, rfl⟩
theorem Ext.cell {B : Nat} {W : World} (x : Ext B W) {b o : Nat} {v : Value} (h : W.cell? ⟨b, o, none⟩ = some v) (hb : b < B) : x.val.cell? ⟨b, o, none⟩ = some v := (x.below.cell (p := ⟨b, o, none⟩) hb).trans h
theorem Ext.size {B : Nat} {W : World} (x : Ext B W) : W.heap.size ≤ x.val.heap.size := x.below.size
theorem Ext.size' {B : Nat} {W : World} (hB : B ≤ W.heap.size) (x : Ext B W) : B ≤ x.val.heap.size := Nat.le_trans hB x.below.size
end Go.Proofs.YtgccapdjhnejcaaDoor
