/-
  Texts put together for the claims of 'PuzzleText' (pack 1): ShelfP, Base, Pure, Pairs, PartyT, Help, Mark.
-/
import Derived.Shelf.Strconv.Itoa3
import Derived.Shelf.Strings.OnBuilder
import Derived.Shelf.SlGeneric
import Derived.Shelf.Lays
import Derived.Ground.NamesProg
import Derived.Test.YtefkcfkicmfhlaaDoorProg
import Derived.WalkKit
import Derived.Handy
import Derived.Lib.Hide
import Derived.BigQuiet
import Derived.Laws.OwnMore
import Derived.Laws.IdiomStrings
/-
  DERIVED: THE SHELF's CONTRACTS AT THIS DUMP, IN PLAIN WORDS (tools/lay-plain.mjs out of 'YtefkcfkicmfhlaaDoorShelfHomeP.lean', which tools/lay-shelf.mjs wrote): THE SAME DECLARATIONS UNDER THE SAME NAMES: 'import', 'namespace', 'open', 'def', 'theorem' AND NOTHING ELSE: no command of the shelf's: FOR A HAND-IN. Each laying: the table of numbers ('.._ren') and one theorem, a field a fact of the dump's own or the kernel's comparison; each contract: ONE APPLICATION.
-/
namespace Go.Proofs
open Go.Shelf
def Tryd.itoa_ren : Go.Shelf.Ren := ⟨fun | 171 => 103 | 243 => 131 | 246 => 160 | 283 => 174 | 284 => 175 | 285 => 176 | 286 => 177 | 129 => 194 | 317 => 193 | 318 => 195 | 319 => 196 | 320 => 197 | 337 => 208 | 338 => 209 | n => n, fun | 3 => 3 | 9 => 9 | 2 => 2 | 4 => 4 | 171 => 193 | 0 => 0 | 53 => 194 | 37 => 145 | 5 => 5 | 173 => 197 | 212 => 214 | 51 => 215 | 20 => 20 | 213 => 216 | 46 => 217 | 232 => 228 | 233 => 236 | n => n, fun | 17 => 0 | 18 => 4 | 19 => 5 | n => n⟩
theorem Tryd.itoa : Go.Proofs.Lays.n171 Tryd.prog Tryd.itoa_ren := {
  mixed := by kernel_rfl
  f129 := Tryd.func194.trans (congrArg some (by kernel_rfl))
  f171 := Tryd.func103.trans (congrArg some (by kernel_rfl))
  f243 := Tryd.func131.trans (congrArg some (by kernel_rfl))
  f246 := Tryd.func160.trans (congrArg some (by kernel_rfl))
  f283 := Tryd.func174.trans (congrArg some (by kernel_rfl))
  f284 := Tryd.func175.trans (congrArg some (by kernel_rfl))
  f285 := Tryd.func176.trans (congrArg some (by kernel_rfl))
  f286 := Tryd.func177.trans (congrArg some (by kernel_rfl))
  f317 := Tryd.func193.trans (congrArg some (by kernel_rfl))
  f318 := Tryd.func195.trans (congrArg some (by kernel_rfl))
  f319 := Tryd.func196.trans (congrArg some (by kernel_rfl))
  f320 := Tryd.func197.trans (congrArg some (by kernel_rfl))
  f337 := Tryd.func208.trans (congrArg some (by kernel_rfl))
  f338 := Tryd.func209.trans (congrArg some (by kernel_rfl))
  t0 := Tryd.underlying0
  a0 := Tryd.isAgg0
  z0 := Tryd.sizeOf0
  v0 := Tryd.zeroValue0
  t2 := Tryd.underlying2
  a2 := Tryd.isAgg2
  z2 := Tryd.sizeOf2
  v2 := Tryd.zeroValue2
  t3 := Tryd.underlying3
  a3 := Tryd.isAgg3
  z3 := Tryd.sizeOf3
  v3 := Tryd.zeroValue3
  t4 := Tryd.underlying4
  a4 := Tryd.isAgg4
  z4 := Tryd.sizeOf4
  v4 := Tryd.zeroValue4
  t5 := Tryd.underlying5
  a5 := Tryd.isAgg5
  z5 := Tryd.sizeOf5
  v5 := Tryd.zeroValue5
  t9 := Tryd.underlying9
  a9 := Tryd.isAgg9
  z9 := Tryd.sizeOf9
  v9 := Tryd.zeroValue9
  t20 := Tryd.underlying20
  a20 := Tryd.isAgg20
  z20 := Tryd.sizeOf20
  v20 := Tryd.zeroValue20
  t37 := Tryd.underlying145
  a37 := Tryd.isAgg145
  z37 := Tryd.sizeOf145
  v37 := Tryd.zeroValue145
  t46 := Tryd.underlying217
  a46 := Tryd.isAgg217
  z46 := Tryd.sizeOf217
  v46 := Tryd.zeroValue217
  t51 := Tryd.underlying215
  a51 := Tryd.isAgg215
  z51 := Tryd.sizeOf215
  v51 := Tryd.zeroValue215
  t53 := Tryd.underlying194
  a53 := Tryd.isAgg194
  z53 := Tryd.sizeOf194
  v53 := Tryd.zeroValue194
  t171 := Tryd.underlying193
  a171 := Tryd.isAgg193
  z171 := Tryd.sizeOf193
  v171 := Tryd.zeroValue193
  t173 := Tryd.underlying197
  a173 := Tryd.isAgg197
  z173 := Tryd.sizeOf197
  v173 := Tryd.zeroValue197
  t212 := Tryd.underlying214
  a212 := Tryd.isAgg214
  z212 := Tryd.sizeOf214
  v212 := Tryd.zeroValue214
  t213 := Tryd.underlying216
  a213 := Tryd.isAgg216
  z213 := Tryd.sizeOf216
  t232 := Tryd.underlying228
  a232 := Tryd.isAgg228
  z232 := Tryd.sizeOf228
  v232 := Tryd.zeroValue228
  t233 := Tryd.underlying236
  a233 := Tryd.isAgg236
  z233 := Tryd.sizeOf236
  v233 := Tryd.zeroValue236
  g17 := by kernel_rfl
  g18 := by kernel_rfl
  g19 := by kernel_rfl }
def Tryd.join_ren : Go.Shelf.Ren := ⟨fun | 156 => 104 | 165 => 132 | 166 => 133 | 169 => 134 | 240 => 161 | 241 => 162 | 276 => 178 | 277 => 179 | n => n, fun | 31 => 118 | 9 => 9 | 3 => 3 | 4 => 4 | 0 => 0 | 20 => 20 | 72 => 147 | 76 => 151 | 70 => 144 | 37 => 145 | 75 => 150 | 127 => 183 | 164 => 199 | 5 => 5 | 80 => 153 | n => n, fun | n => n⟩
theorem Tryd.join : Go.Proofs.Lays.n156 Tryd.prog Tryd.join_ren := {
  mixed := by kernel_rfl
  f156 := Tryd.func104.trans (congrArg some (by kernel_rfl))
  f165 := Tryd.func132.trans (congrArg some (by kernel_rfl))
  f166 := Tryd.func133.trans (congrArg some (by kernel_rfl))
  f169 := Tryd.func134.trans (congrArg some (by kernel_rfl))
  f240 := Tryd.func161.trans (congrArg some (by kernel_rfl))
  f241 := Tryd.func162.trans (congrArg some (by kernel_rfl))
  f276 := Tryd.func178.trans (congrArg some (by kernel_rfl))
  f277 := Tryd.func179.trans (congrArg some (by kernel_rfl))
  t0 := Tryd.underlying0
  a0 := Tryd.isAgg0
  z0 := Tryd.sizeOf0
  v0 := Tryd.zeroValue0
  t3 := Tryd.underlying3
  a3 := Tryd.isAgg3
  z3 := Tryd.sizeOf3
  v3 := Tryd.zeroValue3
  t4 := Tryd.underlying4
  a4 := Tryd.isAgg4
  z4 := Tryd.sizeOf4
  v4 := Tryd.zeroValue4
  t9 := Tryd.underlying9
  a9 := Tryd.isAgg9
  z9 := Tryd.sizeOf9
  v9 := Tryd.zeroValue9
  t20 := Tryd.underlying20
  a20 := Tryd.isAgg20
  z20 := Tryd.sizeOf20
  v20 := Tryd.zeroValue20
  t31 := Tryd.underlying118
  a31 := Tryd.isAgg118
  z31 := Tryd.sizeOf118
  v31 := Tryd.zeroValue118
  t37 := Tryd.underlying145
  a37 := Tryd.isAgg145
  z37 := Tryd.sizeOf145
  v37 := Tryd.zeroValue145
  t70 := Tryd.underlying144
  a70 := Tryd.isAgg144
  z70 := Tryd.sizeOf144
  v70 := Tryd.zeroValue144
  t72 := Tryd.underlying147
  a72 := Tryd.isAgg147
  z72 := Tryd.sizeOf147
  v72 := Tryd.zeroValue147
  t75 := Tryd.underlying150
  a75 := Tryd.isAgg150
  z75 := Tryd.sizeOf150
  v75 := Tryd.zeroValue150
  t76 := Tryd.underlying151
  a76 := Tryd.isAgg151
  z76 := Tryd.sizeOf151
  v76 := Tryd.zeroValue151
  t127 := Tryd.underlying183
  a127 := Tryd.isAgg183
  z127 := Tryd.sizeOf183
  v127 := Tryd.zeroValue183
  t164 := Tryd.underlying199
  a164 := Tryd.isAgg199
  z164 := Tryd.sizeOf199
  v164 := Tryd.zeroValue199 }
end Go.Proofs
/-
  THE BASE OF THIS SEAT's TEXTS: lists of pairs and of numbers as cells; 'CRead': a slice that reads as a list of cells; 'Ext': the worlds that differ from one only above a block; regions that draw their order and whose calls make memory. Nothing here speaks of the program.
-/
namespace Go.Proofs.YtefkcfkicmfhlaaDoor
open Go.RowKit

/-! ## Lists as cells -/
abbrev PL := List (Int × Int)
def pcells : PL → List Value
  | [] => []
  | p :: l => .int .i64 p.1 :: .int .i64 p.2 :: pcells l
def icells (l : List Int) : List Value := l.map (Value.int .i64)
def bcells (l : List Bool) : List Value := l.map Value.bool

theorem pcells_length (l : PL) : (pcells l).length = l.length * 2 := by
  induction l with
  | nil => rfl
  | cons p l ih => simp only [pcells, List.length_cons, ih]; omega
theorem icells_length (l : List Int) : (icells l).length = l.length := by simp [icells]
theorem bcells_length (l : List Bool) : (bcells l).length = l.length := by simp [bcells]
theorem pcells_append (l m : PL) : pcells (l ++ m) = pcells l ++ pcells m := by
  induction l with
  | nil => rfl
  | cons p l ih => simp [pcells, ih]
theorem icells_append (l m : List Int) : icells (l ++ m) = icells l ++ icells m := by simp [icells]
theorem pcells_fst {l : PL} {k : Nat} {x y : Int} (h : l[k]? = some (x, y)) : (pcells l)[k * 2]? = some (.int .i64 x) := by
  induction l generalizing k with
  | nil => simp at h
  | cons p l ih =>
    cases k with
    | zero => simp at h; subst h; rfl
    | succ k => rw [show (k + 1) * 2 = k * 2 + 2 from by omega]; simpa [pcells] using ih (by simpa using h)
theorem pcells_snd {l : PL} {k : Nat} {x y : Int} (h : l[k]? = some (x, y)) : (pcells l)[k * 2 + 1]? = some (.int .i64 y) := by
  induction l generalizing k with
  | nil => simp at h
  | cons p l ih =>
    cases k with
    | zero => simp at h; subst h; rfl
    | succ k => rw [show (k + 1) * 2 + 1 = k * 2 + 1 + 2 from by omega]; simpa [pcells] using ih (by simpa using h)
theorem pcells_set (l : PL) (k : Nat) (x y : Int) : ((pcells l).set (k * 2) (.int .i64 x)).set (k * 2 + 1) (.int .i64 y) = pcells (l.set k (x, y)) := by
  induction l generalizing k with
  | nil => rfl
  | cons p l ih =>
    cases k with
    | zero => rfl
    | succ k =>
      rw [show (k + 1) * 2 = k * 2 + 2 from by omega, show k * 2 + 2 + 1 = k * 2 + 1 + 2 from by omega]
      simp [pcells, ih k]
theorem pcells_one (l : PL) : ∀ u ∈ pcells l, u.oneCell' = true := by
  induction l with
  | nil => intro u h; cases h
  | cons p l ih => intro u h; simp [pcells] at h; rcases h with rfl | rfl | h <;> first | rfl | exact ih u h
theorem icells_one (l : List Int) : ∀ u ∈ icells l, u.oneCell' = true := by
  intro u h
  obtain ⟨x, _, rfl⟩ := List.mem_map.1 h
  rfl
theorem icells_at {l : List Int} {k : Nat} {x : Int} (h : l[k]? = some x) : (icells l)[k]? = some (.int .i64 x) := by simp [icells, h]
theorem icells_set (l : List Int) (k : Nat) (x : Int) : (icells l).set k (.int .i64 x) = icells (l.set k x) := by simp [icells]
theorem bcells_at {l : List Bool} {k : Nat} {x : Bool} (h : l[k]? = some x) : (bcells l)[k]? = some (.bool x) := by simp [bcells, h]
theorem bcells_set (l : List Bool) (k : Nat) (x : Bool) : (bcells l).set k (.bool x) = bcells (l.set k x) := by simp [bcells]
theorem getSome {α : Type} (l : List α) (k : Nat) (h : k < l.length) : ∃ x, l[k]? = some x := ⟨l[k], List.getElem?_eq_getElem h⟩

/-! ## A slice that reads as a list of cells; its block lies below B -/
def CRead (w : World) (B : Nat) (ad : Option Addr) (xs : List Value) : Prop :=
  ∀ j u, xs[j]? = some u → ∃ b off, ad = some ⟨b, off, none⟩ ∧ b < B ∧ w.cell? ⟨b, off + j, none⟩ = some u
section
variable {w w' : World} {B B' : Nat} {ad : Option Addr} {xs : List Value}
theorem CRead.below (h : CRead w B ad xs) (hb : Below B' w w') (hB : B ≤ B') : CRead w' B ad xs := fun j u hu =>
  let ⟨b, off, e, hb', hc⟩ := h j u hu
  ⟨b, off, e, hb', (hb.cell (by show b < B'; omega)).trans hc⟩
theorem CRead.more (h : CRead w B ad xs) (hB : B ≤ B') : CRead w B' ad xs := fun j u hu =>
  let ⟨b, off, e, hb', hc⟩ := h j u hu
  ⟨b, off, e, by omega, hc⟩
theorem CRead.nil : CRead w B ad [] := fun j u hu => by simp at hu
theorem CRead.pair {l : PL} (h : CRead w B ad (pcells l)) {k : Nat} {x y : Int} (hk : l[k]? = some (x, y)) :
    ∃ b off, ad = some ⟨b, off, none⟩ ∧ b < B ∧ w.cell? ⟨b, off + k * 2, none⟩ = some (.int .i64 x) ∧ w.cell? ⟨b, off + k * 2 + 1, none⟩ = some (.int .i64 y) := by
  obtain ⟨b, off, rfl, hb, h0⟩ := h _ _ (pcells_fst hk)
  obtain ⟨b', off', e, _, h1⟩ := h _ _ (pcells_snd hk)
  simp only [Option.some.injEq, Addr.mk.injEq, and_true] at e
  obtain ⟨rfl, rfl⟩ := e
  exact ⟨b, off, rfl, hb, h0, h1⟩
theorem CRead.int {l : List Int} (h : CRead w B ad (icells l)) {k : Nat} {x : Int} (hk : l[k]? = some x) :
    ∃ b off, ad = some ⟨b, off, none⟩ ∧ b < B ∧ w.cell? ⟨b, off + k, none⟩ = some (.int .i64 x) := h _ _ (icells_at hk)
theorem CRead.of_own {base : Nat} {e : TypeId} {size n c : Nat} {A : Option Addr} (h : w.ownsRow base e size (.slice A n c) n xs) : CRead w w.heap.size A xs := by
  intro j u hu
  rcases h.2 with ⟨h', h0⟩ | ⟨g, cap, cur, h', hb, hg, hnc, hcm, hcs, htake⟩
  · have hx : xs = [] := List.eq_nil_of_length_eq_zero (by simpa [h0] using h.1)
    subst hx
    simp at hu
  · simp only [Value.slice.injEq] at h'
    obtain ⟨rfl, _, rfl⟩ := h'
    refine ⟨g, 0, rfl, (Array.getElem?_eq_some_iff.1 hg).1, ?_⟩
    rw [Nat.zero_add, cell_of_row w g j cur e (0, 0) hg]
    rw [← htake, List.getElem?_take] at hu
    split at hu
    · simpa using hu
    · cases hu
end

/-! ## What the call owns -/
section
variable {w w' : World} {base : Nat} {e : TypeId} {size n g cap : Nat} {v : Value} {xs : List Value}
theorem below_grownBy {B : Nat} (h : Below B w w') (hB : w.heap.size ≤ B) (row : Option Nat) : w.grownBy w' row := ⟨h.os, h.tape, h.output, h.size, fun k hk _ => h.block k (by omega)⟩
theorem own_below (h : w.ownsRow base e size v n xs) {B : Nat} (hb : Below B w w') (hB : w.heap.size ≤ B) : w'.ownsRow base e size v n xs :=
  h.kept (below_grownBy hb hB none) (by cases v.ownBlock <;> simp)
theorem own_lower (h : w.ownsRow base e size v n xs) {base' : Nat} (hb : base' ≤ base) : w.ownsRow base' e size v n xs := by
  refine ⟨h.1, ?_⟩
  rcases h.2 with h' | ⟨g, cap, cur, hv, hg, rest⟩
  · exact .inl h'
  · exact .inr ⟨g, cap, cur, hv, by omega, rest⟩
theorem own_lt (h : w.ownsRow base e size (.slice (some ⟨g, 0, none⟩) n cap) n xs) : base ≤ g ∧ g < w.heap.size := h.lt g rfl
/-- a new world, some blocks from B on written and some new ones -/
theorem below_set2 {B : Nat} {a : World} (h : Below B a w) (hg : B ≤ g) (i j : Nat) (x y : Value) : Below B a ((w.setCell ⟨g, i, none⟩ x).setCell ⟨g, j, none⟩ y) :=
  (h.setCell (p := ⟨g, i, none⟩) hg x).setCell (p := ⟨g, j, none⟩) hg y
theorem own_setPair {l : PL} (h : w.ownsRow base e 2 (.slice (some ⟨g, 0, none⟩) n cap) n (pcells l)) (k : Nat) (x y : Int) :
    ((w.setCell ⟨g, k * 2, none⟩ (.int .i64 x)).setCell ⟨g, k * 2 + 1, none⟩ (.int .i64 y)).ownsRow base e 2 (.slice (some ⟨g, 0, none⟩) n cap) n (pcells (l.set k (x, y))) := by
  rw [← pcells_set]
  exact ((h.stored (k * 2) (.int .i64 x)).1.stored (k * 2 + 1) (.int .i64 y)).1
theorem own_pairAt {l : PL} (h : w.ownsRow base e 2 (.slice (some ⟨g, 0, none⟩) n cap) n (pcells l)) {k : Nat} {x y : Int} (hk : l[k]? = some (x, y)) :
    w.cell? ⟨g, k * 2, none⟩ = some (.int .i64 x) ∧ w.cell? ⟨g, k * 2 + 1, none⟩ = some (.int .i64 y) := by
  have hl : l.length = n := by have := h.1; rw [pcells_length] at this; omega
  have hkl : k < l.length := (List.getElem?_eq_some_iff.1 hk).1
  exact ⟨(h.cellAt _ (by omega)).trans (pcells_fst hk), (h.cellAt _ (by omega)).trans (pcells_snd hk)⟩
theorem own_intAt {l : List Int} (h : w.ownsRow base e 1 (.slice (some ⟨g, 0, none⟩) n cap) n (icells l)) {k : Nat} {x : Int} (hk : l[k]? = some x) : w.cell? ⟨g, k, none⟩ = some (.int .i64 x) := by
  have hl : l.length = n := by have := h.1; rw [icells_length] at this; omega
  have hkl : k < l.length := (List.getElem?_eq_some_iff.1 hk).1
  exact (h.cellAt _ (by omega)).trans (icells_at hk)
theorem own_setInt {l : List Int} (h : w.ownsRow base e 1 (.slice (some ⟨g, 0, none⟩) n cap) n (icells l)) (k : Nat) (x : Int) :
    (w.setCell ⟨g, k, none⟩ (.int .i64 x)).ownsRow base e 1 (.slice (some ⟨g, 0, none⟩) n cap) n (icells (l.set k x)) := by
  rw [← icells_set]
  exact (h.stored k (.int .i64 x)).1
theorem own_boolAt {l : List Bool} (h : w.ownsRow base e 1 (.slice (some ⟨g, 0, none⟩) n cap) n (bcells l)) {k : Nat} {x : Bool} (hk : l[k]? = some x) : w.cell? ⟨g, k, none⟩ = some (.bool x) := by
  have hl : l.length = n := by have := h.1; rw [bcells_length] at this; omega
  have hkl : k < l.length := (List.getElem?_eq_some_iff.1 hk).1
  exact (h.cellAt _ (by omega)).trans (bcells_at hk)
theorem own_setBool {l : List Bool} (h : w.ownsRow base e 1 (.slice (some ⟨g, 0, none⟩) n cap) n (bcells l)) (k : Nat) (x : Bool) :
    (w.setCell ⟨g, k, none⟩ (.bool x)).ownsRow base e 1 (.slice (some ⟨g, 0, none⟩) n cap) n (bcells (l.set k x)) := by
  rw [← bcells_set]
  exact (h.stored k (.bool x)).1
theorem made_pairs (n : Nat) : (madeCells #[.int .i64 0, .int .i64 0] (n * 2)).toList = pcells (List.replicate n (0, 0)) := by
  have hp : ∀ m j, (pcells (List.replicate m (0, 0)))[j]? = if j < m * 2 then some (.int .i64 0) else none := by
    intro m
    induction m with
    | zero => intro j; simp [pcells]
    | succ m ih =>
      intro j
      match j with
      | 0 => simp [List.replicate_succ, pcells]
      | 1 => simp [List.replicate_succ, pcells]; omega
      | j + 2 =>
        simp only [List.replicate_succ, pcells, List.getElem?_cons_succ, ih j]
        congr 1
        apply propext
        omega
  apply List.ext_getElem?
  intro j
  rw [hp]
  by_cases hj : j < n * 2
  · rw [if_pos hj]
    rcases Nat.mod_two_eq_zero_or_one j with h | h <;> simp [madeCells, hj, h]
  · rw [if_neg hj]
    simp [madeCells, hj]
theorem made_ints (n : Nat) : (madeCells #[.int .i64 0] (n * 1)).toList = icells (List.replicate n 0) := by rw [Nat.mul_one, toList_madeCells_one]; simp [icells]
theorem made_bools (n : Nat) : (madeCells #[.bool false] (n * 1)).toList = bcells (List.replicate n false) := by rw [Nat.mul_one, toList_madeCells_one]; simp [bcells]
end

theorem gb_trans {a b c : World} {row : Option Nat} (h : a.grownBy b row) (k : b.grownBy c row) : a.grownBy c row :=
  ⟨k.os.trans h.os, k.tape.trans h.tape, k.output.trans h.output, Nat.le_trans h.size k.size, fun i hi hne => (k.block i (Nat.lt_of_lt_of_le hi h.size) hne).trans (h.block i hi hne)⟩
theorem gb_below {a b c : World} {row : Option Nat} {B : Nat} (h : a.grownBy b row) (k : Below B b c) (hB : a.heap.size ≤ B) : a.grownBy c row :=
  ⟨k.os.trans h.os, k.tape.trans h.tape, k.output.trans h.output, Nat.le_trans h.size k.size, fun i hi hne => (k.block i (by omega)).trans (h.block i hi hne)⟩
theorem below_gb {a b c : World} {row : Option Nat} {B : Nat} (h : Below B a b) (k : b.grownBy c row) (hB : a.heap.size ≤ B) : a.grownBy c row :=
  ⟨k.os.trans h.os, k.tape.trans h.tape, k.output.trans h.output, Nat.le_trans h.size k.size, fun i hi hne => (k.block i (Nat.lt_of_lt_of_le hi h.size) hne).trans (h.block i (by omega))⟩

theorem below_of_gb {w w' : World} (h : w.grownBy w' none) {B : Nat} (hB : B ≤ w.heap.size) : Below B w w' := (Below.refl _ _).grown h hB (by simp)

/-- Behind a call that only makes memory: the rules by which the walk reads old cells. -/
theorem old_cells {B : Nat} {W w1 : World} (hb : Below B W w1) : (∀ b o, b < B → w1.cell? ⟨b, o, none⟩ = W.cell? ⟨b, o, none⟩) ∧ (∀ b o, b < B → w1.frozen? ⟨b, o, none⟩ = W.frozen? ⟨b, o, none⟩) :=
  ⟨fun b o h => hb.cell (p := ⟨b, o, none⟩) h, fun b o h => hb.frozen (p := ⟨b, o, none⟩) h⟩

theorem own_far {w : World} {base : Nat} {e : TypeId} {size n g cap : Nat} {xs : List Value} (h : w.ownsRow base e size (.slice (some ⟨g, 0, none⟩) n cap) n xs) {p : Addr} (hp : p.block ≠ g) (u : Value) :
    (w.setCell p u).ownsRow base e size (.slice (some ⟨g, 0, none⟩) n cap) n xs := by
  rcases h.2 with ⟨h', _⟩ | ⟨g', cap', cur, h', hb, hg, rest⟩
  · simp at h'
  · simp only [Value.slice.injEq, Option.some.injEq, Addr.mk.injEq, and_true, true_and] at h'
    obtain ⟨rfl, rfl⟩ := h'
    exact ⟨h.1, .inr ⟨g, cap, cur, rfl, hb, by rw [Below.heap_setCell _ _ _ _ (Ne.symm hp)]; exact hg, rest⟩⟩

/-! ## Marks -/
def marks (k : Int) (n : Nat) : PL := (List.range n).map fun i : Nat => (k + 2 * (i : Int), k + 2 * (i : Int) + 1)
def imarks (k : Int) (n : Nat) : List Int := (List.range n).map fun i : Nat => k + (i : Int)
theorem marks_length (k : Int) (n : Nat) : (marks k n).length = n := by simp [marks]
theorem imarks_length (k : Int) (n : Nat) : (imarks k n).length = n := by simp [imarks]
theorem marks_at {k : Int} {n i : Nat} (h : i < n) : (marks k n)[i]? = some (k + 2 * i, k + 2 * i + 1) := by simp [marks, h]
theorem imarks_at {k : Int} {n i : Nat} (h : i < n) : (imarks k n)[i]? = some (k + i) := by simp [imarks, h]
theorem take_set_drop {α : Type} (m l : List α) (n k : Nat) (x : α) (hm : m.length = n) (hn : l.length = n) (hx : m[k]? = some x) :
    (m.take k ++ l.drop k).set k x = m.take (k + 1) ++ l.drop (k + 1) := by
  have hk : k < m.length := (List.getElem?_eq_some_iff.1 hx).1
  have e : l.drop k = l[k]'(by omega) :: l.drop (k + 1) := List.drop_eq_getElem_cons (by omega)
  have h1 : (m.take k).length = k := by rw [List.length_take]; omega
  rw [List.set_append_right _ _ (by omega), h1, Nat.sub_self, e, List.set_cons_zero, List.take_add_one, hx]
  simp
theorem take_drop_at {α : Type} (m l : List α) (n k : Nat) (hm : m.length = n) (hn : l.length = n) (hk : k < n) : ∃ y, (m.take k ++ l.drop k)[k]? = some y ∧ l[k]? = some y := by
  refine ⟨l[k]'(by omega), ?_, List.getElem?_eq_getElem (by omega)⟩
  have h1 : (m.take k).length = k := by rw [List.length_take]; omega
  rw [List.getElem?_append_right (by omega), h1, Nat.sub_self, List.getElem?_drop, Nat.add_zero]
  exact List.getElem?_eq_getElem (by omega)
theorem own_form {w : World} {base : Nat} {e : TypeId} {size n c : Nat} {A : Option Addr} {xs : List Value} (h : w.ownsRow base e size (.slice A n c) n xs) (hn : 0 < n) : ∃ g, A = some ⟨g, 0, none⟩ := by
  rcases h.2 with ⟨_, h0⟩ | ⟨g, cap, cur, hv, _⟩
  · omega
  · simp only [Value.slice.injEq] at hv
    exact ⟨g, hv.1⟩

/-! ## What stays behind a call -/
theorem carry {B : Nat} {W w : World} {b o : Nat} {v : Value} (h : Below B W w) (hc : W.cell? ⟨b, o, none⟩ = some v) (hb : b < B) : w.cell? ⟨b, o, none⟩ = some v := (h.cell (p := ⟨b, o, none⟩) hb).trans hc
/-- where a row lies -/
def Lies (v : Value) (lo hi : Nat) : Prop := ∀ k, v.ownBlock = some k → lo ≤ k ∧ k < hi
theorem own_lies {w : World} {base : Nat} {e : TypeId} {size n : Nat} {v : Value} {xs : List Value} (h : w.ownsRow base e size v n xs) : Lies v base w.heap.size := h.lt
theorem carryG {w w' : World} {v : Value} {lo hi b o : Nat} {u : Value} (hg : w.grownBy w' v.ownBlock) (hl : Lies v lo hi) (hc : w.cell? ⟨b, o, none⟩ = some u) (hb : b < lo ∨ hi ≤ b) : w'.cell? ⟨b, o, none⟩ = some u :=
  hg.cell hc (by
    intro e
    have := hl b e.symm
    omega)
theorem keptG {w w' : World} {v v' : Value} {lo hi lo' hi' base : Nat} {e : TypeId} {size n : Nat} {xs : List Value} (hg : w.grownBy w' v.ownBlock) (hl : Lies v lo hi) (h : w.ownsRow base e size v' n xs) (hl' : Lies v' lo' hi') (hd : hi ≤ lo' ∨ hi' ≤ lo) : w'.ownsRow base e size v' n xs :=
  h.kept hg (by
    cases hv : v'.ownBlock with
    | none => exact .inl rfl
    | some k =>
      refine .inr fun e => ?_
      have h1 := hl' k hv
      have h2 := hl k e.symm
      omega)
theorem belowG {a w w' : World} {v : Value} {lo hi B : Nat} (h : Below B a w) (hg : w.grownBy w' v.ownBlock) (hl : Lies v lo hi) (hB : B ≤ w.heap.size) (hlo : B ≤ lo) : Below B a w' :=
  h.grown hg hB fun k hk => by have := hl k hk; omega

/-! ## The worlds above one -/
def Ext (B : Nat) (W : World) := { w : World // Below B W w }
instance Ext.here (B : Nat) (W : World) : Nonempty (Ext B W) := ⟨⟨W, Below.refl B W⟩⟩
theorem Ext.below {B : Nat} {W : World} (x : Ext B W) : Below B W x.val := x.property
theorem wp_region_ext {P : Program} (B : Nat) {id : Nat} {Q : Exit → Act → World → Prop} {a : Act} {W : World} {l : List Oper} (hm : P.follows .mixedOrders = true) (hB : Region.lexB .any l.toArray = true)
    (h : wpQuiet P l.toArray (fun w' => ∃ x : Ext B W, w' = x.val) (fun a' => ∀ w', (∃ x : Ext B W, w' = x.val) → Q .normal a' w') l a) : (Code.region id l.toArray true).wp P Q a W :=
  wp_region_quiet (C := fun w' => ∃ x : Ext B W, w' = x.val) hm hB ⟨⟨W.drew, (Below.refl B W).drew⟩, rfl⟩ (by simpa using h)
/-- A callee's contract, met in a world above. -/
theorem Calls.ext_of {P : Program} {f : FuncId} {args : Array Value} {B : Nat} {W : World} {x : Ext B W} {v : Value}
    (h : Calls P f args x.val fun e w' => e = .returned v ∧ Below B x.val w') : Calls P f args x.val fun e w'' => e = .returned v ∧ ∃ y : Ext B W, w'' = y.val :=
  h.mono fun _ w' ⟨he, hb⟩ => ⟨he, ⟨w', x.below.trans hb⟩, rfl⟩
theorem Ext.cell {B : Nat} {W : World} (x : Ext B W) {b o : Nat} {v : Value} (h : W.cell? ⟨b, o, none⟩ = some v) (hb : b < B) : x.val.cell? ⟨b, o, none⟩ = some v := (x.below.cell (p := ⟨b, o, none⟩) hb).trans h
theorem Ext.size {B : Nat} {W : World} (x : Ext B W) : W.heap.size ≤ x.val.heap.size := x.below.size
theorem Ext.size' {B : Nat} {W : World} (hB : B ≤ W.heap.size) (x : Ext B W) : B ≤ x.val.heap.size := Nat.le_trans hB x.below.size
end Go.Proofs.YtefkcfkicmfhlaaDoor
/-
  PARTIES AS PLAIN LISTS: what a party is, how many pairs it can have. Nothing here speaks of the program.
-/
namespace Go.Proofs.YtefkcfkicmfhlaaDoor

def pairLess (a b : Int × Int) : Bool := decide (a.1 < b.1 ∨ a.1 = b.1 ∧ a.2 < b.2)
def goodAt (p : Int) (l : PL) (i : Nat) : Bool :=
  match l[i]? with
  | none => true
  | some (x, y) => decide (0 ≤ x ∧ x < y ∧ y < p) && (i == 0 || match l[i - 1]? with | none => true | some q => pairLess q (x, y))
def isP (p : Int) (l : PL) : Bool := decide (0 ≤ p ∧ p ≤ 12) && (List.range l.length).all (goodAt p l)

theorem isP_of (p : Int) (l : PL) (h0 : 0 ≤ p) (h1 : p ≤ 12) (h : ∀ i, i < l.length → goodAt p l i = true) : isP p l = true := by
  simp only [isP, Bool.and_eq_true, decide_eq_true_eq, List.all_eq_true, List.mem_range]
  exact ⟨⟨h0, h1⟩, h⟩
theorem isP_no (p : Int) (l : PL) {i : Nat} (hi : i < l.length) (h : goodAt p l i = false) : isP p l = false := by
  cases he : isP p l with
  | false => rfl
  | true =>
    simp only [isP, Bool.and_eq_true, decide_eq_true_eq, List.all_eq_true, List.mem_range] at he
    rw [he.2 i hi] at h
    cases h
theorem isP_out (p : Int) (l : PL) (h : p < 0 ∨ 12 < p) : isP p l = false := by
  simp only [isP, Bool.and_eq_false_iff, decide_eq_false_iff_not]
  left
  omega
theorem isP_range {p : Int} {l : PL} (h : isP p l = true) : 0 ≤ p ∧ p ≤ 12 := by
  simp only [isP, Bool.and_eq_true, decide_eq_true_eq] at h
  exact h.1
theorem isP_good {p : Int} {l : PL} (h : isP p l = true) {i : Nat} (hi : i < l.length) : goodAt p l i = true := by
  simp only [isP, Bool.and_eq_true, decide_eq_true_eq, List.all_eq_true, List.mem_range] at h
  exact h.2 i hi
theorem goodAt_pair {p : Int} {l : PL} {i : Nat} {x y : Int} (h : goodAt p l i = true) (hx : l[i]? = some (x, y)) : 0 ≤ x ∧ x < y ∧ y < p := by
  simp only [goodAt, hx, Bool.and_eq_true, decide_eq_true_eq] at h
  exact h.1
theorem goodAt_less {p : Int} {l : PL} {i : Nat} {x y x' y' : Int} (h : goodAt p l (i + 1) = true) (hx : l[i]? = some (x, y)) (hx' : l[i + 1]? = some (x', y')) : x < x' ∨ x = x' ∧ y < y' := by
  simp only [goodAt, hx', Nat.add_sub_cancel, hx, Bool.and_eq_true, Bool.or_eq_true, pairLess, decide_eq_true_eq] at h
  rcases h.2 with h | h
  · simp at h
  · exact h
theorem goodAt_first {p : Int} {l : PL} {x y : Int} (hx : l[0]? = some (x, y)) (h : 0 ≤ x ∧ x < y ∧ y < p) : goodAt p l 0 = true := by
  simp [goodAt, hx, h.1, h.2.1, h.2.2]
theorem goodAt_next {p : Int} {l : PL} {i : Nat} {x y x' y' : Int} (hx : l[i]? = some (x, y)) (hx' : l[i + 1]? = some (x', y')) (h : 0 ≤ x' ∧ x' < y' ∧ y' < p) (hl : x < x' ∨ x = x' ∧ y < y') : goodAt p l (i + 1) = true := by
  simp only [goodAt, hx', Nat.add_sub_cancel, hx, Bool.and_eq_true, Bool.or_eq_true, pairLess, decide_eq_true_eq]
  exact ⟨h, .inr hl⟩
theorem goodAt_bad {p : Int} {l : PL} {i : Nat} {x y : Int} (hx : l[i]? = some (x, y)) (h : ¬ (0 ≤ x ∧ x < y ∧ y < p)) : goodAt p l i = false := by
  simp only [goodAt, hx, Bool.and_eq_false_iff, decide_eq_false_iff_not]
  exact .inl h
theorem goodAt_stale {p : Int} {l : PL} {i : Nat} {x y x' y' : Int} (hx : l[i]? = some (x, y)) (hx' : l[i + 1]? = some (x', y')) (hl : ¬ (x < x' ∨ x = x' ∧ y < y')) : goodAt p l (i + 1) = false := by
  cases h : goodAt p l (i + 1) with
  | false => rfl
  | true => exact absurd (goodAt_less h hx hx') hl

theorem goodAt_zero {p : Int} {l : PL} {k : Nat} {x y : Int} (hk : k = 0) (hx : l[k]? = some (x, y)) (h : 0 ≤ x ∧ x < y ∧ y < p) : goodAt p l k = true := by subst hk; exact goodAt_first hx h
theorem goodAt_later {p : Int} {l : PL} {k : Nat} {x y x' y' : Int} (hk : 0 < k) (hx : l[k - 1]? = some (x, y)) (hx' : l[k]? = some (x', y')) (h : 0 ≤ x' ∧ x' < y' ∧ y' < p) (hl : x < x' ∨ x = x' ∧ y < y') : goodAt p l k = true := by
  obtain ⟨j, rfl⟩ : ∃ j, k = j + 1 := ⟨k - 1, by omega⟩
  exact goodAt_next hx hx' h hl
theorem goodAt_stale' {p : Int} {l : PL} {k : Nat} {x y x' y' : Int} (hk : 0 < k) (hx : l[k - 1]? = some (x, y)) (hx' : l[k]? = some (x', y')) (hl : ¬ (x < x' ∨ x = x' ∧ y < y')) : goodAt p l k = false := by
  obtain ⟨j, rfl⟩ : ∃ j, k = j + 1 := ⟨k - 1, by omega⟩
  exact goodAt_stale hx hx' hl

/-- Twice the number of pairs that come before a pair. -/
def rank2 (p x y : Int) : Int := 2 * (x * p) + 2 * y - x * x - 3 * x - 2
theorem small_cases {x : Int} (h0 : 0 ≤ x) (h1 : x ≤ 11) : x = 0 ∨ x = 1 ∨ x = 2 ∨ x = 3 ∨ x = 4 ∨ x = 5 ∨ x = 6 ∨ x = 7 ∨ x = 8 ∨ x = 9 ∨ x = 10 ∨ x = 11 := by omega
theorem rank2_step {p x y x' y' : Int} (hp : p ≤ 12) (h : 0 ≤ x ∧ x < y ∧ y < p) (h' : 0 ≤ x' ∧ x' < y' ∧ y' < p) (hl : x < x' ∨ x = x' ∧ y < y') : rank2 p x y + 2 ≤ rank2 p x' y' := by
  unfold rank2
  rcases small_cases h.1 (by omega) with rfl | rfl | rfl | rfl | rfl | rfl | rfl | rfl | rfl | rfl | rfl | rfl <;>
  rcases small_cases h'.1 (by omega) with rfl | rfl | rfl | rfl | rfl | rfl | rfl | rfl | rfl | rfl | rfl | rfl <;> omega
theorem rank2_lo {p x y : Int} (hp : p ≤ 12) (h : 0 ≤ x ∧ x < y ∧ y < p) : 0 ≤ rank2 p x y := by
  unfold rank2
  rcases small_cases h.1 (by omega) with rfl | rfl | rfl | rfl | rfl | rfl | rfl | rfl | rfl | rfl | rfl | rfl <;> omega
theorem people_cases {p : Int} (h0 : 0 ≤ p) (h1 : p ≤ 12) : p = 0 ∨ p = 1 ∨ p = 2 ∨ p = 3 ∨ p = 4 ∨ p = 5 ∨ p = 6 ∨ p = 7 ∨ p = 8 ∨ p = 9 ∨ p = 10 ∨ p = 11 ∨ p = 12 := by omega
theorem rank2_hi {p x y : Int} (hp : p ≤ 12) (h : 0 ≤ x ∧ x < y ∧ y < p) : rank2 p x y + 2 ≤ p * (p - 1) := by
  have h0 : 0 ≤ p := by omega
  unfold rank2
  rcases people_cases h0 hp with rfl | rfl | rfl | rfl | rfl | rfl | rfl | rfl | rfl | rfl | rfl | rfl | rfl <;>
  rcases small_cases h.1 (by omega) with rfl | rfl | rfl | rfl | rfl | rfl | rfl | rfl | rfl | rfl | rfl | rfl <;> omega
theorem people_sq {p : Int} (h0 : 0 ≤ p) (h1 : p ≤ 12) : 0 ≤ p * (p - 1) ∧ p * (p - 1) ≤ 132 := by
  rcases people_cases h0 h1 with rfl | rfl | rfl | rfl | rfl | rfl | rfl | rfl | rfl | rfl | rfl | rfl | rfl <;> omega
theorem isP_rank {p : Int} {l : PL} (h : isP p l = true) : ∀ (i : Nat) (x y : Int), l[i]? = some (x, y) → 2 * (i : Int) ≤ rank2 p x y := by
  intro i
  induction i with
  | zero =>
    intro x y hx
    have hl : 0 < l.length := (List.getElem?_eq_some_iff.1 hx).1
    have := rank2_lo (isP_range h).2 (goodAt_pair (isP_good h hl) hx)
    omega
  | succ i ih =>
    intro x y hx
    have hl : i + 1 < l.length := (List.getElem?_eq_some_iff.1 hx).1
    obtain ⟨⟨x', y'⟩, hx'⟩ := getSome l i (by omega)
    have h1 := ih _ _ hx'
    have h2 := rank2_step (isP_range h).2 (goodAt_pair (isP_good h (by omega)) hx') (goodAt_pair (isP_good h hl) hx) (goodAt_less (isP_good h hl) hx' hx)
    omega
/-- A party has no more pairs than there are. -/
theorem isP_length {p : Int} {l : PL} (h : isP p l = true) : 2 * (l.length : Int) ≤ p * (p - 1) := by
  have hr := isP_range h
  by_cases hl : l.length = 0
  · have := people_sq hr.1 hr.2
    omega
  · obtain ⟨⟨x, y⟩, hx⟩ := getSome l (l.length - 1) (by omega)
    have h1 := isP_rank h _ _ _ hx
    have h2 := rank2_hi hr.2 (goodAt_pair (isP_good h (by omega)) hx)
    omega
theorem isP_many {p : Int} {l : PL} (h : p * (p - 1) < 2 * (l.length : Int)) : isP p l = false := by
  cases he : isP p l with
  | false => rfl
  | true => have := isP_length he; omega
end Go.Proofs.YtefkcfkicmfhlaaDoor
/-
  ALL PAIRS IN THEIR ORDER; a party's pairs are those of all that it has, in that order. Nothing here speaks of the program.
-/
namespace Go.Proofs.YtefkcfkicmfhlaaDoor

def plt (a b : Int × Int) : Prop := a.1 < b.1 ∨ a.1 = b.1 ∧ a.2 < b.2
theorem plt_trans {a b c : Int × Int} (h : plt a b) (k : plt b c) : plt a c := by unfold plt at *; omega
theorem plt_irrefl (a : Int × Int) : ¬ plt a a := by unfold plt; omega
theorem plt_asymm {a b : Int × Int} (h : plt a b) : ¬ plt b a := by unfold plt at *; omega

theorem sorted_ext : ∀ {l m : PL}, l.Pairwise plt → m.Pairwise plt → (∀ q, q ∈ l ↔ q ∈ m) → l = m
  | [], [], _, _, _ => rfl
  | [], b :: m, _, _, h => by have := (h b).2 (List.mem_cons_self ..); cases this
  | a :: l, [], _, _, h => by have := (h a).1 (List.mem_cons_self ..); cases this
  | a :: l, b :: m, hl, hm, h => by
    rw [List.pairwise_cons] at hl hm
    have hab : a = b := by
      rcases List.mem_cons.1 ((h a).1 (List.mem_cons_self ..)) with e | e
      · exact e
      · rcases List.mem_cons.1 ((h b).2 (List.mem_cons_self ..)) with e' | e'
        · exact e'.symm
        · exact absurd (hm.1 a e) (plt_asymm (hl.1 b e'))
    subst hab
    rw [sorted_ext hl.2 hm.2 fun q => ?_]
    constructor
    · intro hq
      rcases List.mem_cons.1 ((h q).1 (List.mem_cons_of_mem _ hq)) with e | e
      · subst e; exact absurd (hl.1 q hq) (plt_irrefl q)
      · exact e
    · intro hq
      rcases List.mem_cons.1 ((h q).2 (List.mem_cons_of_mem _ hq)) with e | e
      · subst e; exact absurd (hm.1 q hq) (plt_irrefl q)
      · exact e

/-- what a party is, said of its list -/
def IsList (p : Int) (l : PL) : Prop := 0 ≤ p ∧ p ≤ 12 ∧ (∀ q ∈ l, 0 ≤ q.1 ∧ q.1 < q.2 ∧ q.2 < p) ∧ l.Pairwise plt
theorem isP_list {p : Int} {l : PL} (h : isP p l = true) : IsList p l := by
  have hr := isP_range h
  refine ⟨hr.1, hr.2, ?_, ?_⟩
  · intro q hq
    obtain ⟨i, hi, rfl⟩ := List.getElem_of_mem hq
    exact goodAt_pair (isP_good h hi) (List.getElem?_eq_getElem hi)
  · rw [List.pairwise_iff_getElem]
    have step : ∀ (d i : Nat) (hi : i < l.length) (hj : i + d + 1 < l.length), plt l[i] l[i + d + 1] := by
      intro d
      induction d with
      | zero => intro i hi hj; exact goodAt_less (isP_good h hj) (List.getElem?_eq_getElem (by omega)) (List.getElem?_eq_getElem hj)
      | succ d ih =>
        intro i hi hj
        exact plt_trans (ih i hi (by omega)) (goodAt_less (p := p) (l := l) (i := i + d + 1) (isP_good h (by omega)) (List.getElem?_eq_getElem (by omega)) (List.getElem?_eq_getElem (by omega)))
    intro i j hi hj hij
    have e : j = i + (j - i - 1) + 1 := by omega
    have := step (j - i - 1) i hi (by omega)
    simpa only [← e] using this
theorem isP_of_list {p : Int} {l : PL} (h : IsList p l) : isP p l = true := by
  obtain ⟨h0, h1, hm, hs⟩ := h
  refine isP_of p l h0 h1 fun i hi => ?_
  have hx : l[i]? = some (l[i].1, l[i].2) := List.getElem?_eq_getElem hi
  have hg := hm l[i] (List.getElem_mem hi)
  rcases i with _ | i
  · exact goodAt_first hx hg
  · have hx' : l[i]? = some (l[i].1, l[i].2) := List.getElem?_eq_getElem (by omega)
    exact goodAt_next hx' hx hg ((List.pairwise_iff_getElem.1 hs) i (i + 1) (by omega) hi (by omega))

def rowP (a n : Nat) : PL := (List.range' (a + 1) (n - (a + 1))).map fun b : Nat => ((a : Int), (b : Int))
def allP (n : Nat) : PL := (List.range n).flatMap fun a => rowP a n
theorem mem_rowP {a n : Nat} {q : Int × Int} : q ∈ rowP a n ↔ q.1 = a ∧ q.1 < q.2 ∧ q.2 < n := by
  obtain ⟨x, y⟩ := q
  simp only [rowP, List.mem_map, List.mem_range'_1, Prod.mk.injEq]
  constructor
  · rintro ⟨b, hb, rfl, rfl⟩; omega
  · rintro ⟨rfl, h1, h2⟩; exact ⟨y.toNat, by omega, rfl, by omega⟩
theorem mem_allP {n : Nat} {q : Int × Int} : q ∈ allP n ↔ 0 ≤ q.1 ∧ q.1 < q.2 ∧ q.2 < n := by
  simp only [allP, List.mem_flatMap, List.mem_range, mem_rowP]
  constructor
  · rintro ⟨a, ha, h1, h2, h3⟩; omega
  · rintro ⟨h0, h1, h2⟩; exact ⟨q.1.toNat, by omega, by omega, h1, h2⟩
theorem sorted_rowP (a n : Nat) : (rowP a n).Pairwise plt := by
  unfold rowP
  rw [List.pairwise_map]
  exact List.Pairwise.imp (fun {b c} h => Or.inr ⟨rfl, by omega⟩) List.pairwise_lt_range'
theorem sorted_allP (n : Nat) : (allP n).Pairwise plt := by
  unfold allP
  rw [List.pairwise_flatMap]
  refine ⟨fun a _ => sorted_rowP a n, ?_⟩
  refine List.Pairwise.imp (fun {a b} h x hx y hy => ?_) (List.pairwise_lt_range (n := n))
  have h1 := mem_rowP.1 hx
  have h2 := mem_rowP.1 hy
  exact .inl (by omega)
theorem filter_list {n : Nat} (hn : n ≤ 12) (f : Int × Int → Bool) : IsList n ((allP n).filter f) := by
  refine ⟨by omega, by omega, fun q hq => ?_, (sorted_allP n).filter _⟩
  exact mem_allP.1 (List.mem_filter.1 hq).1
theorem filter_isP {n : Nat} (hn : n ≤ 12) (f : Int × Int → Bool) : isP n ((allP n).filter f) = true := isP_of_list (filter_list hn f)
/-- A party's pairs are those of all that it has. -/
theorem isP_filter {n : Nat} {l : PL} (h : isP n l = true) : (allP n).filter (fun q => l.contains q) = l := by
  obtain ⟨_, _, hm, hs⟩ := isP_list h
  refine sorted_ext ((sorted_allP n).filter _) hs fun q => ?_
  rw [List.mem_filter, List.contains_iff_mem]
  exact ⟨fun hq => hq.2, fun hq => ⟨mem_allP.2 (hm q hq), hq⟩⟩
theorem allP_length_le {n : Nat} (hn : n ≤ 12) : (allP n).length ≤ 66 := by
  have h := isP_length (filter_isP hn fun _ => true)
  have h2 := people_sq (p := (n : Int)) (by omega) (by omega)
  rw [List.filter_eq_self.2 (by simp)] at h
  omega
theorem filter_length_le {n : Nat} (hn : n ≤ 12) (f : Int × Int → Bool) : ((allP n).filter f).length ≤ 66 := Nat.le_trans (List.length_filter_le _ _) (allP_length_le hn)
/-- The pairs before the pair (a, b) in the order. -/
def upTo (n a b : Nat) : PL := ((List.range a).flatMap fun a => rowP a n) ++ (List.range' (a + 1) (b - (a + 1))).map fun b : Nat => ((a : Int), (b : Int))
theorem upTo_start (n : Nat) : upTo n 0 1 = [] := rfl
theorem upTo_next {n a b : Nat} (h : a < b) : upTo n a (b + 1) = upTo n a b ++ [((a : Int), (b : Int))] := by
  unfold upTo
  rw [List.append_assoc, show b + 1 - (a + 1) = (b - (a + 1)) + 1 from by omega, List.range'_concat]
  simp
  omega
theorem upTo_row (n a : Nat) : upTo n a n = upTo n (a + 1) (a + 1 + 1) := by
  unfold upTo
  rw [List.range_succ, List.flatMap_append]
  simp [rowP]
theorem upTo_begin (n a : Nat) : upTo n a (a + 1) = (List.range a).flatMap fun a => rowP a n := by simp [upTo]
theorem upTo_all (n : Nat) : upTo n n (n + 1) = allP n := by rw [upTo_begin]; rfl
end Go.Proofs.YtefkcfkicmfhlaaDoor
/-
  'PartyText': the text of a party, pure; the numbers' texts, the model's and the library's, by their contracts.
-/
namespace Go.Proofs.YtefkcfkicmfhlaaDoor
open Go.RowKit

/-- a number's text -/
def dgs (x : Int) : ByteArray := ⟨(Lib.decDigits x.toNat).toArray⟩
/-- a digit's byte -/
def dgb (x : Int) : UInt8 := UInt8.ofNat (48 + x.toNat)
theorem dgs_one {x : Int} (h0 : 0 ≤ x) (h1 : x ≤ 9) : dgs x = ⟨#[dgb x]⟩ := by
  have all : ∀ i : Fin 10, (Lib.decDigits i.val).toArray = #[UInt8.ofNat (48 + i.val)] := by decide +kernel
  unfold dgs
  rw [all ⟨x.toNat, by omega⟩]
  rfl
theorem dgs_byte {x : Int} (h0 : 0 ≤ x) (h1 : x ≤ 9) : ((dgb x).toNat : Int) = 48 + x := by
  have all : ∀ i : Fin 10, ((UInt8.ofNat (48 + (i.val : Int).toNat)).toNat : Int) = 48 + (i.val : Int) := by decide +kernel
  have := all ⟨x.toNat, by omega⟩
  rwa [show ((x.toNat : Nat) : Int) = x from by omega] at this
theorem dgs_two {y : Int} (h0 : 0 ≤ y) (h1 : y ≤ 9) : dgs (10 + y) = dgs 1 ++ ⟨#[dgb y]⟩ := by
  have all : ∀ i : Fin 10, (Lib.decDigits (10 + i.val)) = [49, UInt8.ofNat (48 + i.val)] := by decide +kernel
  have a1 : Lib.decDigits 1 = [49] := by decide +kernel
  unfold dgs
  rw [show (10 + y).toNat = 10 + y.toNat by omega, all ⟨y.toNat, by omega⟩, show (1 : Int).toNat = 1 from rfl, a1]
  rfl
theorem dgs_size {x : Int} (h0 : 0 ≤ x) (h1 : x ≤ 19) : (dgs x).size ≤ 2 := by
  have all : ∀ i : Fin 20, (Lib.decDigits i.val).length ≤ 2 := by decide +kernel
  have := all ⟨x.toNat, by omega⟩
  exact this

def pieceT (q : Int × Int) : ByteArray := (dgs q.1 ++ ⟨#[45]⟩) ++ dgs q.2
def joinT (l : PL) : ByteArray := ⟨(Lib.join (l.map fun q => (pieceT q).data.toList) [44]).toArray⟩
def headP (p : Int) : ByteArray := dgs p ++ ⟨#[58]⟩
def textP (p : Int) (l : PL) : ByteArray := headP p ++ joinT l
/-- the text of a party -/
def resPartyText (p : Int) (l : PL) : ByteArray × Bool := if isP p l then (textP p l, true) else (⟨#[]⟩, false)
theorem textP_nil (p : Int) : textP p [] = headP p := by
  unfold textP joinT
  rw [List.map_nil, Lib.join_nil]
  apply ByteArray.ext
  simp
theorem textP_one (p : Int) (q : Int × Int) : textP p [q] = headP p ++ pieceT q := by
  unfold textP joinT
  rw [List.map_cons, List.map_nil, Lib.join_one]
theorem textP_more (p : Int) (r : Int × Int) (l : PL) (q : Int × Int) : textP p (r :: l ++ [q]) = (textP p (r :: l) ++ ⟨#[44]⟩) ++ pieceT q := by
  unfold textP joinT
  rw [List.cons_append, List.map_cons, List.map_append, List.map_cons, List.map_nil, Lib.join_cons, List.map_cons, Lib.join_cons]
  apply ByteArray.ext
  apply Array.ext'
  simp [Lib.joinTail]
theorem textP_first (p : Int) {l : PL} {q : Int × Int} (h : l[0]? = some q) : textP p (l.take 1) = textP p (l.take 0) ++ pieceT q := by
  cases l with
  | nil => simp at h
  | cons r l =>
    rw [show r = q by simpa using h, List.take_zero, textP_nil, ← textP_one]
    rfl
theorem textP_next (p : Int) {l : PL} {j : Nat} {q : Int × Int} (hj : 0 < j) (h : l[j]? = some q) : textP p (l.take (j + 1)) = (textP p (l.take j) ++ ⟨#[44]⟩) ++ pieceT q := by
  obtain ⟨i, rfl⟩ : ∃ i, j = i + 1 := ⟨j - 1, by omega⟩
  cases l with
  | nil => simp at h
  | cons r l =>
    rw [List.take_add_one, h, List.take_succ_cons, Option.toList_some, textP_more]
theorem piece_size {p : Int} {l : PL} (hp : isP p l = true) : ∀ q ∈ l, (pieceT q).size ≤ 5 := by
  intro q hq
  have h := isP_list hp
  have hr := h.2.2.1 q hq
  have h12 := h.2.1
  have e1 := dgs_size (x := q.1) (by omega) (by omega)
  have e2 := dgs_size (x := q.2) (by omega) (by omega)
  unfold pieceT
  rw [ByteArray.size_append, ByteArray.size_append]
  have : (ByteArray.mk #[45]).size = 1 := rfl
  omega
theorem lens_le (l : PL) (h : ∀ q ∈ l, (pieceT q).size ≤ 5) : Lib.lens (l.map fun q => (pieceT q).data.toList) ≤ 5 * l.length := by
  induction l with
  | nil => simp [Lib.lens]
  | cons q l ih =>
    have h1 := ih fun x hx => h x (List.mem_cons_of_mem _ hx)
    have h2 : (pieceT q).data.toList.length ≤ 5 := h q (List.mem_cons_self ..)
    simp only [Lib.lens, List.map_cons, List.sum_cons, List.length_cons] at h1 ⊢
    omega
theorem join_size (l : PL) (h : ∀ q ∈ l, (pieceT q).size ≤ 5) : (Lib.join (l.map fun q => (pieceT q).data.toList) [44]).length ≤ 6 * l.length := by
  cases l with
  | nil => simp [Lib.join_nil]
  | cons q l =>
    have h1 := lens_le l fun x hx => h x (List.mem_cons_of_mem _ hx)
    have h2 : (pieceT q).data.toList.length ≤ 5 := h q (List.mem_cons_self ..)
    rw [List.map_cons, Lib.join_cons, List.length_append, Lib.joinTail_length]
    simp only [List.length_map, List.length_cons, List.length_nil]
    omega
theorem textP_size (p : Int) (h0 : 0 ≤ p) (h1 : p ≤ 12) (l : PL) (h : ∀ q ∈ l, (pieceT q).size ≤ 5) : (textP p l).size ≤ 3 + 6 * l.length := by
  have h2 := join_size l h
  have e : (joinT l).size = (Lib.join (l.map fun q => (pieceT q).data.toList) [44]).length := rfl
  have h3 := dgs_size (x := p) h0 (by omega)
  have : (ByteArray.mk #[58]).size = 1 := rfl
  unfold textP headP
  rw [ByteArray.size_append, ByteArray.size_append]
  omega
set_option maxHeartbeats 2000000 in
set_option maxRecDepth 100000 in
theorem num_one (x : Int) (h0 : 0 ≤ x) (h1 : x ≤ 9) (w : World) : Calls Tryd.prog 130 #[.int .i64 x] w fun e w' => e = .returned (.string (dgs x)) ∧ Below w.heap.size w w' := by
  rw [dgs_one h0 h1]
  have hb := dgs_byte h0 h1
  have hlt : x < 10 := by omega
  have hcv : ∀ X : World, X.cell? ⟨w.heap.size, 0, none⟩ = some (.int .u8 (48 + x)) → (convert 145 9 (.slice (some ⟨w.heap.size, 0, none⟩) 1 1)).run Tryd.prog X = .ok (.string ⟨#[dgb x]⟩) X := fun X hX =>
    run_convert_bytes_back X 145 9 5 ⟨w.heap.size, 0, none⟩ 1 [dgb x] Tryd.underlying145 Tryd.underlying5 Tryd.underlying9 (fun j hj => by
      have hj0 : j = 0 := by simp at hj; omega
      subst hj0
      rw [Addr.add_lit]
      simp only [List.getElem_cons_zero, Nat.zero_add]
      rw [hb]
      exact hX)
  have hc2 := hcv (w.alloc (Obj.cells #[.int .u8 (48 + x)] 5)) (by simp)
  clear hcv hb
  go_enter Tryd.func130, Tryd.ntmps130
  go_wp2
  go_ret
  exact ⟨rfl, by go_grown⟩
set_option maxHeartbeats 4000000 in
set_option maxRecDepth 100000 in
theorem num_two (y : Int) (h0 : 0 ≤ y) (h1 : y ≤ 9) (w : World) : Calls Tryd.prog 130 #[.int .i64 (10 + y)] w fun e w' => e = .returned (.string (dgs (10 + y))) ∧ Below w.heap.size w w' := by
  rw [dgs_two h0 h1]
  have hb := dgs_byte h0 h1
  have wV : IntKind.u8.wrap (IntKind.i64.wrap (48 + y)) = 48 + y := by
    rw [IntKind.wrap_i64, IntKind.wrap_u8]; omega
  have hq : (10 + y).tdiv 10 = 1 := by rw [Int.tdiv_eq_ediv_of_nonneg (by omega)]; omega
  have hr : (10 + y).tmod 10 = y := by rw [Int.tmod_eq_emod_of_nonneg (by omega)]; omega
  have hge : ¬ (10 + y < 10) := by omega
  have hcv : ∀ (b : Nat) (X : World), X.cell? ⟨b, 0, none⟩ = some (.int .u8 (IntKind.u8.wrap (IntKind.i64.wrap (48 + y)))) → (convert 145 9 (.slice (some ⟨b, 0, none⟩) 1 1)).run Tryd.prog X = .ok (.string ⟨#[dgb y]⟩) X := fun b X hX =>
    run_convert_bytes_back X 145 9 5 ⟨b, 0, none⟩ 1 [dgb y] Tryd.underlying145 Tryd.underlying5 Tryd.underlying9 (fun j hj => by
      have hj0 : j = 0 := by simp at hj; omega
      subst hj0
      rw [Addr.add_lit]
      simp only [List.getElem_cons_zero, Nat.zero_add]
      rw [hb]
      rw [wV] at hX
      exact hX)
  have call := fun X => num_one 1 (by omega) (by omega) X
  have hsz : (dgs 1).size + (ByteArray.mk #[dgb y]).size ≤ 9223372036854775807 := by
    have h1 := dgs_size (x := 1) (by omega) (by omega)
    have h2 : (ByteArray.mk #[dgb y]).size = 1 := rfl
    omega
  have hadd := fun X => run_string_add_sum (P := Tryd.prog) X (dgs 1) ⟨#[dgb y]⟩ hsz
  have ca0 : (w.alloc (Obj.cells #[.int .u8 (IntKind.u8.wrap (IntKind.i64.wrap (48 + y)))] 5)).cell? ⟨w.heap.size, 0, none⟩ = some (.int .u8 (IntKind.u8.wrap (IntKind.i64.wrap (48 + y)))) := by simp
  have ca1 : (w.alloc (Obj.cells #[.int .u8 (IntKind.u8.wrap (IntKind.i64.wrap (48 + y)))] 5)).drew.cell? ⟨w.heap.size, 0, none⟩ = some (.int .u8 (IntKind.u8.wrap (IntKind.i64.wrap (48 + y)))) := ca0
  have kO : Below w.heap.size w (w.alloc (Obj.cells #[.int .u8 (IntKind.u8.wrap (IntKind.i64.wrap (48 + y)))] 5)) := by go_grown
  have kD : Below w.heap.size w (w.alloc (Obj.cells #[.int .u8 (IntKind.u8.wrap (IntKind.i64.wrap (48 + y)))] 5)).drew := kO.drew
  have sa0 : w.heap.size < (w.alloc (Obj.cells #[.int .u8 (IntKind.u8.wrap (IntKind.i64.wrap (48 + y)))] 5)).heap.size := by simp
  have sa1 : w.heap.size < (w.alloc (Obj.cells #[.int .u8 (IntKind.u8.wrap (IntKind.i64.wrap (48 + y)))] 5)).drew.heap.size := sa0
  have hc0 := hcv w.heap.size (w.alloc (Obj.cells #[.int .u8 (IntKind.u8.wrap (IntKind.i64.wrap (48 + y)))] 5)) ca0
  have hc1 := hcv w.heap.size (w.alloc (Obj.cells #[.int .u8 (IntKind.u8.wrap (IntKind.i64.wrap (48 + y)))] 5)).drew ca1
  have Hcv := Lib.hid hcv
  have Call := Lib.hid call
  clear hb wV hcv call hsz
  go_enter Tryd.func130, Tryd.ntmps130
  go_wp2_with fail
  go_region_law (first
    | (go_simp; go_at_call 130; refine (Call.out _).mono ?_; rintro e w2 ⟨rfl, hb2⟩; have k2 : Below w.heap.size w w2 := (by first | exact hb2 | exact (Below.refl _ _).drew.trans hb2 | exact kO.trans (hb2.mono kO.size) | exact kD.trans (hb2.mono kD.size)); have hc2 := Hcv.out w2.heap.size (w2.alloc (Obj.cells #[.int .u8 (IntKind.u8.wrap (IntKind.i64.wrap (48 + y)))] 5)) (by simp); first | (have hc3 := Hcv.out w.heap.size w2 (carry hb2 ca0 sa0)) | (have hc3 := Hcv.out w.heap.size w2 (carry hb2 ca1 sa1)) | skip)
    | fail)
  all_goals
    clear Hcv Call hadd
    go_wp2
    go_ret
    exact ⟨rfl, by first | exact k2 | exact k2.alloc k2.size _⟩
/-- a number of few digits, by the model -/
theorem num_any (x : Int) (h0 : 0 ≤ x) (h1 : x ≤ 19) (w : World) : Calls Tryd.prog 130 #[.int .i64 x] w fun e w' => e = .returned (.string (dgs x)) ∧ Below w.heap.size w w' := by
  by_cases h : x ≤ 9
  · exact num_one x h0 h w
  · have := num_two (x - 10) (by omega) (by omega) w
    rwa [show 10 + (x - 10) = x by omega] at this
theorem dec_any (x : Int) (h0 : 0 ≤ x) (h1 : x ≤ 19) (w : World) : Calls Tryd.prog 103 #[.int .i64 x] w fun e w' => e = .returned (.string (dgs x)) ∧ w' = w := by
  have h := Any.strconv_Itoa_small Tryd.itoa x.toNat (by omega) w
  rw [show ((x.toNat : Nat) : Int) = x from by omega] at h
  exact h
theorem Tryd.joinExtra : Builder.Extra Tryd.prog Tryd.join_ren where
  sizeBuilder := by kernel_rfl
  liesBuilder := by kernel_rfl
  t5 := Tryd.itoa.t5
  a5 := Tryd.itoa.a5
  z5 := Tryd.itoa.z5
  v5 := Tryd.itoa.v5
  infoByte := by kernel_rfl
  cellsByte := by kernel_rfl
  sizeByte := by kernel_rfl
  neB5 := by decide
theorem join_any (l : PL) (b c : Nat) (w : World) (hl : l.length ≤ 1048576) (hq : ∀ q ∈ l, (pieceT q).size ≤ 5) (hcells : ∀ (j : Nat) q, l[j]? = some q → w.cell? ⟨b, j, none⟩ = some (.string (pieceT q))) (hb : b < w.heap.size) (hc : l.length ≤ c) :
    Calls Tryd.prog 104 #[.slice (some ⟨b, 0, none⟩) l.length c, .string ⟨#[44]⟩] w fun e w' => e = .returned (.string (joinT l)) ∧ Below w.heap.size w w' := by
  have hs := join_size l hq
  have e : (l.map pieceT).map (fun x => x.data.toList) = l.map fun q => (pieceT q).data.toList := by rw [List.map_map]; rfl
  have h := Any.strings_Join Tryd.join Tryd.joinExtra b 0 c (l.map pieceT) ⟨#[44]⟩ w (fun j x hx => by
    rw [List.getElem?_map] at hx
    obtain ⟨q, hq', rfl⟩ := Option.map_eq_some_iff.1 hx
    rw [Nat.zero_add]
    exact hcells j q hq') hb (by rw [List.length_map]; omega) (by rw [List.length_map]; exact hc) (by rw [e]; show (Lib.join _ [44]).length ≤ _; omega)
  rw [e, List.length_map] at h
  exact h
end Go.Proofs.YtefkcfkicmfhlaaDoor
/-
  THE LAWS' OWN SMALL FUNCTIONS, BY THEIR CONTRACTS: sizes, copies, comparisons, marks.
-/
namespace Go.Proofs.YtefkcfkicmfhlaaDoor
open Go.RowKit

def szI (left : Int) (n : Nat) : Int := if left - n < 0 then -1 else left - n
theorem szI_lo (left : Int) (n : Nat) : -1 ≤ szI left n := by unfold szI; split <;> omega
theorem szI_hi (left : Int) (n : Nat) (h : 0 ≤ left) : szI left n ≤ left := by unfold szI; split <;> omega
theorem szI_len (left : Int) (n : Nat) (h : ¬ szI left n < 0) : (n : Int) ≤ left := by unfold szI at h; split at h <;> omega

set_option maxHeartbeats 400000 in
theorem szPairS_any (ad : Option Addr) (n cap : Nat) (left : Int) (hn : n ≤ maxLen) (h0 : 0 ≤ left) (h1 : left ≤ 1048576) (w : World) :
    Calls Tryd.prog 62 #[.slice ad n cap, .int .i64 left] w fun e w' => e = .returned (.int .i64 (szI left n)) ∧ w = w' := by
  unfold maxLen at hn
  by_cases h : left - n < 0
  · have e : szI left n = -1 := if_pos h
    rw [e]
    go_enter Tryd.func62, Tryd.ntmps62
    go_wp2
    go_ret
    exact ⟨rfl, rfl⟩
  · have e : szI left n = left - n := if_neg h
    rw [e]
    go_enter Tryd.func62, Tryd.ntmps62
    go_wp2
    go_ret
    exact ⟨rfl, rfl⟩

set_option maxHeartbeats 400000 in
theorem szParty_any (p : Int) (ad : Option Addr) (n cap : Nat) (left : Int) (hn : n ≤ maxLen) (h0 : 0 ≤ left) (h1 : left ≤ 1048576) (w : World) :
    Calls Tryd.prog 16 #[.agg #[.int .i64 p, .slice ad n cap], .int .i64 left] w fun e w' => e = .returned (.int .i64 (szI left n)) ∧ Below w.heap.size w w' := by
  by_cases h : szI left n < 0
  · have hneg : szI left n = -1 := by unfold szI at h ⊢; split <;> simp_all
    have Hn := Lib.hid hneg
    clear hneg
    go_enter Tryd.func16, Tryd.ntmps16
    go_wp2_with (go_at_call 62; refine (szPairS_any _ _ _ _ hn h0 h1 _).mono ?_; rintro e w' ⟨rfl, rfl⟩)
    go_ret
    exact ⟨by rw [Hn.out]; rfl, by go_grown⟩
  · go_enter Tryd.func16, Tryd.ntmps16
    go_wp2_with (go_at_call 62; refine (szPairS_any _ _ _ _ hn h0 h1 _).mono ?_; rintro e w' ⟨rfl, rfl⟩)
    go_ret
    exact ⟨rfl, by go_grown⟩

set_option maxHeartbeats 400000 in
theorem toPair_any (a b : Int) (w : World) :
    Calls Tryd.prog 109 #[.agg #[.int .i64 a, .int .i64 b]] w fun e w' => e = .returned (.agg #[.int .i64 a, .int .i64 b]) ∧ Below w.heap.size w w' := by
  go_enter Tryd.func109, Tryd.ntmps109
  go_wp2
  go_returns
  exact ⟨rfl, by go_grown⟩

def eqPairB (a b c d : Int) : Bool := decide (a = c ∧ b = d)
set_option maxHeartbeats 400000 in
theorem eqPair_any (a b c d : Int) (w : World) :
    Calls Tryd.prog 83 #[.agg #[.int .i64 a, .int .i64 b], .agg #[.int .i64 c, .int .i64 d]] w fun e w' =>
      e = .returned (.bool (eqPairB a b c d)) ∧ Below w.heap.size w w' := by
  by_cases h1 : a = c
  · by_cases h2 : b = d
    · subst h1 h2
      go_enter Tryd.func83, Tryd.ntmps83
      go_wp2
      go_ret
      exact ⟨by simp [eqPairB], by go_grown⟩
    · subst h1
      go_enter Tryd.func83, Tryd.ntmps83
      go_wp2
      go_ret
      exact ⟨by simp [eqPairB, h2], by go_grown⟩
  · go_enter Tryd.func83, Tryd.ntmps83
    go_wp2
    go_ret
    exact ⟨by simp [eqPairB, h1], by go_grown⟩

set_option maxHeartbeats 1000000 in
theorem eqPairS_any (l m : PL) (A B : Option Addr) (c d : Nat) (w : World) (hl : l.length ≤ maxLen) (hm : m.length ≤ maxLen)
    (hA : CRead w w.heap.size A (pcells l)) (hB : CRead w w.heap.size B (pcells m)) :
    Calls Tryd.prog 39 #[.slice A l.length c, .slice B m.length d] w fun e w' =>
      e = .returned (.bool (decide (l = m))) ∧ Below w.heap.size w w' := by
  unfold maxLen at hl hm
  by_cases hlen : l.length = m.length
  · generalize hn : l.length = n at *
    have Hn := Lib.hid hn
    have Hm := Lib.hid hlen
    clear hn
    rw [← hlen]
    clear hlen
    go_enter Tryd.func39, Tryd.ntmps39
    go_wp2
    go_loopw [5] (fun i wr => ∃ k : Nat, k ≤ n ∧ i = .int .i64 k ∧ l.take k = m.take k ∧ Below w.heap.size w wr) (fun i _ => n - (intOf i).toNat)
    case atStart => exact ⟨0, Nat.zero_le _, rfl, rfl, Below.refl _ _⟩
    case round =>
      obtain ⟨k, hk, rfl, htk, hb⟩ := hrel
      have Htk := Lib.hid htk
      clear htk
      have hs := hb.size
      by_cases hlt : k < n
      · obtain ⟨⟨x, y⟩, hx⟩ := getSome l k (by rw [Hn.out]; exact hlt)
        obtain ⟨⟨x', y'⟩, hx'⟩ := getSome m k (by rw [← Hm.out]; exact hlt)
        obtain ⟨b, off, rfl, hbb, c0, c1⟩ := (hA.below hb (Nat.le_refl _)).pair hx
        obtain ⟨b', off', rfl, hbb', c0', c1'⟩ := (hB.below hb (Nat.le_refl _)).pair hx'
        have q0 : ∀ z : Ext wr.heap.size wr, z.val.cell? ⟨b, off + k * 2, none⟩ = some (.int .i64 x) := fun z => z.cell c0 (by omega)
        have q1 : ∀ z : Ext wr.heap.size wr, z.val.cell? ⟨b, off + k * 2 + 1, none⟩ = some (.int .i64 y) := fun z => z.cell c1 (by omega)
        have q0' : ∀ z : Ext wr.heap.size wr, z.val.cell? ⟨b', off' + k * 2, none⟩ = some (.int .i64 x') := fun z => z.cell c0' (by omega)
        have q1' : ∀ z : Ext wr.heap.size wr, z.val.cell? ⟨b', off' + k * 2 + 1, none⟩ = some (.int .i64 y') := fun z => z.cell c1' (by omega)
        clear c0 c1 c0' c1'
        have hki : (k : Int) < (n : Int) := by omega
        have Hx := Lib.hid hx
        have Hx' := Lib.hid hx'
        clear hx hx'
        go_wp2
        refine wp_region_ext wr.heap.size (by kernel_rfl) (by kernel_rfl) ?_
        repeat (go_big_quiet_step ((go_at_call 83; exact Calls.ext_of ((eqPair_any _ _ _ _ _).mono fun _ _ h => ⟨h.1, h.2.mono (Ext.size _)⟩))))
        refine wpQuiet_nil ?_
        rintro _ ⟨⟨w1, hb1⟩, rfl⟩
        clear q0 q1 q0' q1'
        have hs1 := hb1.size
        cases hq : eqPairB x y x' y'
        · go_wp2
          go_ret
          refine ⟨?_, hb.trans (hb1.mono hs)⟩
          have e : ¬ (x = x' ∧ y = y') := of_decide_eq_false hq
          have : l ≠ m := by rintro rfl; have h := Hx.out; rw [Hx'.out] at h; simp at h; exact e ⟨h.1.symm, h.2.symm⟩
          simp [this]
        · go_wp2
          go_roundw
          case rel =>
            refine ⟨k + 1, by omega, by go_num, ?_, hb.trans (hb1.mono hs)⟩
            obtain ⟨rfl, rfl⟩ := of_decide_eq_true hq
            rw [List.take_add_one, List.take_add_one, Htk.out, Hx.out, Hx'.out]
          case measure => simp [intOf]; omega
      · have hkl : k = n := by omega
        go_wp2
        go_ret
        refine ⟨?_, hb⟩
        have e := Htk.out
        rw [hkl, List.take_of_length_le (by rw [Hn.out]; exact Nat.le_refl _), List.take_of_length_le (by rw [← Hm.out]; exact Nat.le_refl _)] at e
        simp [e]
  · have hne : l ≠ m := by rintro rfl; exact hlen rfl
    have e : decide (l = m) = false := by simp [hne]
    rw [e]
    clear e
    go_enter Tryd.func39, Tryd.ntmps39
    go_wp2
    go_ret
    exact ⟨rfl, Below.refl _ _⟩
theorem Tryd.infoPair : (Tryd.prog.info? 98).map (fun i => (i.zero, i.size, i.bytes)) = some (some (.agg #[.int .i64 0, .int .i64 0]), 2, 16) := by kernel_rfl
theorem Tryd.infoInt : (Tryd.prog.info? 3).map (fun i => (i.zero, i.size, i.bytes)) = some (some (.int .i64 0), 1, 8) := by kernel_rfl
theorem Tryd.infoBool : (Tryd.prog.info? 4).map (fun i => (i.zero, i.size, i.bytes)) = some (some (.bool false), 1, 1) := by kernel_rfl

theorem take_set_replicate {α : Type} (l : List α) (z : α) (n k : Nat) (x : α) (hn : l.length = n) (hx : l[k]? = some x) :
    (l.take k ++ List.replicate (n - k) z).set k x = l.take (k + 1) ++ List.replicate (n - (k + 1)) z := by
  have hk : k < l.length := (List.getElem?_eq_some_iff.1 hx).1
  have e : n - k = (n - (k + 1)) + 1 := by omega
  rw [List.set_append_right _ _ (by simp; omega), e, List.replicate_succ, List.take_add_one, hx]
  simp [Nat.min_eq_left (Nat.le_of_lt hk)]

set_option maxHeartbeats 1000000 in
theorem toPairS_any (l : PL) (A : Option Addr) (c : Nat) (w : World) (hl : l.length ≤ 1048576) (hA : CRead w w.heap.size A (pcells l)) :
    Calls Tryd.prog 67 #[.slice A l.length c] w fun e w' =>
      e = .returned (.slice (some ⟨w.heap.size, 0, none⟩) l.length l.length) ∧ w'.ownsRow w.heap.size 98 2 (.slice (some ⟨w.heap.size, 0, none⟩) l.length l.length) l.length (pcells l) ∧ Below w.heap.size w w' := by
  obtain ⟨i0, hi, hz0, hz1, hz2⟩ := info_parts Tryd.infoPair
  generalize hn : l.length = n at *
  have Hn := Lib.hid hn
  clear hn
  generalize hg : w.heap.size = g at *
  have Hg := Lib.hid hg
  clear hg
  go_enter Tryd.func67, Tryd.ntmps67
  go_wp2_with (at_make; refine wpList_make_full _ rfl _ _ 32 rfl g 98 i0 _ 2 Tryd.underlying32 hi hz0 hz1 _ _ _ _ n rfl rfl (by omega) (by omega) (by rw [hz2]; omega) (by unfold maxLen; omega) (by rw [Hg.out]; exact Nat.le_refl _) ?_; rw [Hg.out]; intro w1 hown1 hgr1)
  have hs1 : g < w1.heap.size := (own_lt hown1).2
  have hb1 : Below g w w1 := (Below.refl _ _).grown hgr1 (by rw [Hg.out]; exact Nat.le_refl _) (by simp)
  rw [show Value.cells (.agg #[.int .i64 0, .int .i64 0]) = #[.int .i64 0, .int .i64 0] from rfl, made_pairs] at hown1
  have hge : w.heap.size ≤ g := by rw [Hg.out]; exact Nat.le_refl _
  go_loopw [4] (fun i wr => ∃ k : Nat, k ≤ n ∧ i = .int .i64 k ∧ wr.ownsRow g 98 2 (.slice (some ⟨g, 0, none⟩) n n) n (pcells (l.take k ++ List.replicate (n - k) (0, 0))) ∧ Below g w wr) (fun i _ => n - (intOf i).toNat)
  case atStart => exact ⟨0, Nat.zero_le _, rfl, by simpa using hown1, hb1⟩
  case round =>
    obtain ⟨k, hk, rfl, hown, hb⟩ := hrel
    have hs := own_lt hown
    have hki : (k : Int) ≤ n := by omega
    by_cases hlt : k < n
    · obtain ⟨⟨x, y⟩, hx⟩ := getSome l k (by rw [Hn.out]; exact hlt)
      obtain ⟨b, off, rfl, hbb, c0, c1⟩ := (hA.below hb (Nat.le_refl _)).pair hx
      have hlt' : (k : Int) < n := by omega
      have hz : (l.take k ++ List.replicate (n - k) (0, 0))[k]? = some (0, 0) := by
        rw [List.getElem?_append_right (by simp; omega)]
        have h1 : min k l.length = k := Nat.min_eq_left (by rw [Hn.out]; exact hk)
        simp only [List.length_take, h1, Nat.sub_self]
        rw [List.getElem?_replicate, if_pos (by omega)]
      have Hx := Lib.hid hx
      clear hx
      have Hz := Lib.hid hz
      clear hz
      go_wp2_with (go_at_call 109; refine (toPair_any _ _ _).mono ?_; rintro e w2 ⟨rfl, hb2⟩; have hown2 := own_below hown hb2 (Nat.le_refl _); have ⟨d0, d1⟩ := own_pairAt hown2 Hz.out; have f0 := hown2.frozenAt (k * 2); have f1 := hown2.frozenAt (k * 2 + 1))
      go_roundw
      case rel =>
        refine ⟨k + 1, by omega, by go_num, ?_, ?_⟩
        · have h2 := own_setPair hown2 k x y
          rwa [take_set_replicate l (0, 0) n k (x, y) Hn.out Hx.out] at h2
        · exact below_set2 (hb.trans (hb2.mono (by omega))) (Nat.le_refl _) _ _ _ _
      case measure => simp [intOf]; omega
    · have hkl : k = n := by omega
      subst hkl
      have hge : ¬ ((k : Int) < k) := by omega
      go_wp2
      go_ret
      refine ⟨rfl, ?_, hb⟩
      rwa [Nat.sub_self, List.replicate_zero, List.append_nil, List.take_of_length_le (by rw [Hn.out]; exact Nat.le_refl _)] at hown
end Go.Proofs.YtefkcfkicmfhlaaDoor
/-
  THE LAWS' OWN SMALL FUNCTIONS THAT MARK A RESULT'S MEMORY AND LOOK WHETHER THE MARKS STAND; copies of parties and of lists of numbers; their comparison.
-/
namespace Go.Proofs.YtefkcfkicmfhlaaDoor
open Go.RowKit

set_option maxHeartbeats 1000000 in
theorem markPairS_any (l : PL) (A : Option Addr) (n c : Nat) (k0 : Int) (base : Nat) (w : World) (hn : l.length = n) (hl : n ≤ 1048576) (hk0 : 0 ≤ k0 ∧ k0 ≤ 16777216) (hown0 : w.ownsRow base 98 2 (.slice A n c) n (pcells l)) :
    Calls Tryd.prog 40 #[.slice A n c, .int .i64 k0] w fun e w' =>
      e = .returned (.int .i64 (k0 + 2 * n)) ∧ w'.ownsRow base 98 2 (.slice A n c) n (pcells (marks k0 n)) ∧ w.grownBy w' (Value.ownBlock (.slice A n c)) := by
  have Hn := Lib.hid hn
  obtain ⟨hk00, hk01⟩ := hk0
  clear hn
  go_enter Tryd.func40, Tryd.ntmps40
  go_wp2
  go_loopw [1, 5] (fun q i wr => ∃ k : Nat, k ≤ n ∧ i = .int .i64 k ∧ q = .int .i64 (k0 + 2 * k) ∧ wr.ownsRow base 98 2 (.slice A n c) n (pcells ((marks k0 n).take k ++ l.drop k)) ∧ w.grownBy wr (Value.ownBlock (.slice A n c))) (fun _ i _ => n - (intOf i).toNat)
  case atStart => exact ⟨0, Nat.zero_le _, rfl, by simp, by simpa using hown0, World.grownBy.refl _ _⟩
  case round =>
    obtain ⟨k, hk, rfl, rfl, hown, hb⟩ := hrel
    by_cases hlt : k < n
    · obtain ⟨g, rfl⟩ := own_form hown (by omega)
      obtain ⟨⟨x, y⟩, hz, hx⟩ := take_drop_at (marks k0 n) l n k (marks_length _ _) Hn.out hlt
      have hlt' : (k : Int) < n := by omega
      obtain ⟨d0, d1⟩ := own_pairAt hown hz
      have f0 := hown.frozenAt (k * 2)
      have f1 := hown.frozenAt (k * 2 + 1)
      have Hz := Lib.hid hz
      clear hz hx
      go_wp2
      go_roundw
      case rel =>
        refine ⟨k + 1, by omega, by go_num, by go_num, ?_, ?_⟩
        · have h2 := own_setPair hown k (k0 + 2 * k) (k0 + 2 * k + 1)
          rwa [take_set_drop (marks k0 n) l n k _ (marks_length _ _) Hn.out (marks_at hlt)] at h2
        · exact gb_trans (gb_trans hb (hown.stored (k * 2) _).2) ((hown.stored (k * 2) _).1.stored (k * 2 + 1) _).2
      case measure => simp [intOf]; omega
    · have hkl : k = n := by omega
      subst hkl
      have hge : ¬ ((k : Int) < k) := by omega
      go_wp2
      go_ret
      refine ⟨rfl, ?_, hb⟩
      rwa [List.take_of_length_le (by rw [marks_length]; exact Nat.le_refl _), List.drop_of_length_le (by rw [Hn.out]; exact Nat.le_refl _), List.append_nil] at hown

set_option maxHeartbeats 1000000 in
theorem heldPairS_any (A : Option Addr) (n c : Nat) (k0 : Int) (w : World) (hl : n ≤ 1048576) (hk0 : 0 ≤ k0 ∧ k0 ≤ 16777216) (hA : CRead w w.heap.size A (pcells (marks k0 n))) :
    Calls Tryd.prog 41 #[.slice A n c, .int .i64 k0] w fun e w' => e = .returned (.int .i64 (k0 + 2 * n)) ∧ w = w' := by
  obtain ⟨hk00, hk01⟩ := hk0
  go_enter Tryd.func41, Tryd.ntmps41
  go_wp2
  go_loop [1, 5] (fun q i => ∃ k : Nat, k ≤ n ∧ i = .int .i64 k ∧ q = .int .i64 (k0 + 2 * k)) (fun _ i => n - (intOf i).toNat)
  case atStart => exact ⟨0, Nat.zero_le _, rfl, by simp⟩
  case round =>
    obtain ⟨k, hk, rfl, rfl⟩ := hrel
    by_cases hlt : k < n
    · obtain ⟨b, off, rfl, hbb, c0, c1⟩ := hA.pair (marks_at hlt)
      have hlt' : (k : Int) < n := by omega
      go_wp2
      go_round
      case rel => exact ⟨k + 1, by omega, by go_num, by go_num⟩
      case measure => simp [intOf]; omega
    · have hkl : k = n := by omega
      subst hkl
      have hge : ¬ ((k : Int) < k) := by omega
      go_wp2
      go_ret
      exact ⟨rfl, rfl⟩

/-! ## Parties -/
/-- A call came back with a party whose pairs lie in memory of its own. -/
def GotParty (w : World) (p : Int) (l : PL) (e : Ending) (w' : World) : Prop :=
  ∃ A c, e = .returned (.agg #[.int .i64 p, .slice A l.length c]) ∧ w'.ownsRow w.heap.size 98 2 (.slice A l.length c) l.length (pcells l) ∧ Below w.heap.size w w'

set_option maxHeartbeats 1000000 in
theorem toParty_any (p : Int) (l : PL) (A : Option Addr) (c : Nat) (w : World) (hl : l.length ≤ 1048576) (hA : CRead w w.heap.size A (pcells l)) :
    Calls Tryd.prog 19 #[.agg #[.int .i64 p, .slice A l.length c]] w (GotParty w p l) := by
  generalize hn : l.length = n at *
  have Hn := Lib.hid hn
  go_enter Tryd.func19, Tryd.ntmps19
  go_wp2_with (go_at_call 67; rw [← Hn.out]; refine (toPairS_any l _ _ _ (by rw [Hn.out]; exact hl) (hA.below (B' := w.heap.size) (by go_grown) (Nat.le_refl _) |>.more (by go_size))).mono ?_; rw [Hn.out]; rintro e w2 ⟨rfl, hown2, hb2⟩; have ⟨hc, hf⟩ := old_cells hb2; have hz := hb2.size; simp only [World.size_alloc] at hc hf hz)
  refine bodyPost_ret (v := .agg #[.int .i64 p, .slice (some ⟨w.heap.size + 1 + 1 + 1, 0, none⟩) n n]) (by simp [results, Tryd.results19, go_sem, hc]) rfl ?_
  simp only [World.size_alloc] at hown2 hb2
  have hb3 : Below w.heap.size w w2 := Below.trans (b := _) (by go_grown) (hb2.mono (by omega))
  refine ⟨some ⟨w.heap.size + 1 + 1 + 1, 0, none⟩, n, by rw [hn], ?_, ?_⟩
  · rw [hn]
    exact own_far (own_far (own_far (own_lower hown2 (by omega)) (p := ⟨w.heap.size + 1 + 1, 1, none⟩) (by simp) _) (p := ⟨w.heap.size + 1, 0, none⟩) (by simp) _) (p := ⟨w.heap.size + 1, 1, none⟩) (by simp) _
  · exact ((hb3.setCell (p := ⟨w.heap.size + 1 + 1, 1, none⟩) (by simp; omega) _).setCell (p := ⟨w.heap.size + 1, 0, none⟩) (by simp) _).setCell (p := ⟨w.heap.size + 1, 1, none⟩) (by simp) _

set_option maxHeartbeats 1000000 in
theorem eqParty_any (p q : Int) (l m : PL) (A B : Option Addr) (c d : Nat) (w : World) (hl : l.length ≤ maxLen) (hm : m.length ≤ maxLen)
    (hA : CRead w w.heap.size A (pcells l)) (hB : CRead w w.heap.size B (pcells m)) :
    Calls Tryd.prog 21 #[.agg #[.int .i64 p, .slice A l.length c], .agg #[.int .i64 q, .slice B m.length d]] w fun e w' =>
      e = .returned (.bool (decide (p = q ∧ l = m))) ∧ Below w.heap.size w w' := by
  by_cases hpq : p = q
  · subst hpq
    by_cases hlm : l = m
    · have e : decide (p = p ∧ l = m) = true := by simp [hlm]
      rw [e]
      clear e
      have Hlm := Lib.hid hlm
      clear hlm
      go_enter Tryd.func21, Tryd.ntmps21
      go_wp2_with (go_at_call 39; refine (eqPairS_any l m _ _ _ _ _ hl hm ((hA.below (B' := w.heap.size) (by go_grown) (Nat.le_refl _)).more (by go_size)) ((hB.below (B' := w.heap.size) (by go_grown) (Nat.le_refl _)).more (by go_size))).mono ?_; rw [decide_eq_true Hlm.out]; rintro e w2 ⟨rfl, hb2⟩; simp only [World.size_alloc] at hb2)
      go_ret
      exact ⟨rfl, Below.trans (b := _) (by go_grown) (hb2.mono (by omega))⟩
    · have e : decide (p = p ∧ l = m) = false := by simp [hlm]
      rw [e]
      clear e
      have Hlm := Lib.hid hlm
      clear hlm
      go_enter Tryd.func21, Tryd.ntmps21
      go_wp2_with (go_at_call 39; refine (eqPairS_any l m _ _ _ _ _ hl hm ((hA.below (B' := w.heap.size) (by go_grown) (Nat.le_refl _)).more (by go_size)) ((hB.below (B' := w.heap.size) (by go_grown) (Nat.le_refl _)).more (by go_size))).mono ?_; rw [decide_eq_false Hlm.out]; rintro e w2 ⟨rfl, hb2⟩; simp only [World.size_alloc] at hb2)
      go_ret
      exact ⟨rfl, Below.trans (b := _) (by go_grown) (hb2.mono (by omega))⟩
  · have e : decide (p = q ∧ l = m) = false := by simp [hpq]
    rw [e]
    clear e
    go_enter Tryd.func21, Tryd.ntmps21
    go_wp2
    go_ret
    exact ⟨rfl, by go_grown⟩

set_option maxHeartbeats 1000000 in
theorem markParty_any (p : Int) (l : PL) (A : Option Addr) (n c : Nat) (k0 : Int) (base : Nat) (w : World) (hn : l.length = n) (hl : n ≤ 1048576) (hk0 : 0 ≤ k0 ∧ k0 ≤ 16777216) (hown0 : w.ownsRow base 98 2 (.slice A n c) n (pcells l)) :
    Calls Tryd.prog 35 #[.agg #[.int .i64 p, .slice A n c], .int .i64 k0] w fun e w' =>
      e = .returned (.int .i64 (k0 + 2 * n)) ∧ w'.ownsRow base 98 2 (.slice A n c) n (pcells (marks k0 n)) ∧ w.grownBy w' (Value.ownBlock (.slice A n c)) := by
  have Hn := Lib.hid hn
  clear hn
  have hk1 : 0 ≤ k0 + 2 * (n : Int) := by omega
  go_enter Tryd.func35, Tryd.ntmps35
  go_wp2_with (go_at_call 40; refine (markPairS_any l _ _ _ _ _ _ Hn.out hl hk0 (hown0.alloc _)).mono ?_; rintro e w2 ⟨rfl, hown2, hb2⟩)
  go_ret
  exact ⟨rfl, hown2, below_gb (B := w.heap.size) (by go_grown) hb2 (Nat.le_refl _)⟩

set_option maxHeartbeats 1000000 in
theorem heldParty_any (p : Int) (A : Option Addr) (n c : Nat) (k0 : Int) (w : World) (hl : n ≤ 1048576) (hk0 : 0 ≤ k0 ∧ k0 ≤ 16777216) (hA : CRead w w.heap.size A (pcells (marks k0 n))) :
    Calls Tryd.prog 36 #[.agg #[.int .i64 p, .slice A n c], .int .i64 k0] w fun e w' => e = .returned (.int .i64 (k0 + 2 * n)) ∧ Below w.heap.size w w' := by
  have hk1 : 0 ≤ k0 + 2 * (n : Int) := by omega
  go_enter Tryd.func36, Tryd.ntmps36
  go_wp2_with (go_at_call 41; refine (heldPairS_any _ _ _ _ _ hl hk0 ((hA.below (B' := w.heap.size) (by go_grown) (Nat.le_refl _)).more (by go_size))).mono ?_; rintro e w2 ⟨rfl, rfl⟩)
  go_ret
  exact ⟨rfl, by go_grown⟩

/-! ## Lists of numbers -/
set_option maxHeartbeats 1000000 in
theorem eqIntS_any (l m : List Int) (A B : Option Addr) (c d : Nat) (w : World) (hl : l.length ≤ maxLen) (hm : m.length ≤ maxLen)
    (hA : CRead w w.heap.size A (icells l)) (hB : CRead w w.heap.size B (icells m)) :
    Calls Tryd.prog 48 #[.slice A l.length c, .slice B m.length d] w fun e w' =>
      e = .returned (.bool (decide (l = m))) ∧ Below w.heap.size w w' := by
  unfold maxLen at hl hm
  by_cases hlen : l.length = m.length
  · generalize hn : l.length = n at *
    have Hn := Lib.hid hn
    have Hm := Lib.hid hlen
    clear hn
    rw [← hlen]
    clear hlen
    go_enter Tryd.func48, Tryd.ntmps48
    go_wp2
    go_loopw [5] (fun i wr => ∃ k : Nat, k ≤ n ∧ i = .int .i64 k ∧ l.take k = m.take k ∧ Below w.heap.size w wr) (fun i _ => n - (intOf i).toNat)
    case atStart => exact ⟨0, Nat.zero_le _, rfl, rfl, Below.refl _ _⟩
    case round =>
      obtain ⟨k, hk, rfl, htk, hb⟩ := hrel
      have Htk := Lib.hid htk
      clear htk
      have hs := hb.size
      by_cases hlt : k < n
      · obtain ⟨x, hx⟩ := getSome l k (by rw [Hn.out]; exact hlt)
        obtain ⟨x', hx'⟩ := getSome m k (by rw [← Hm.out]; exact hlt)
        obtain ⟨b, off, rfl, hbb, c0⟩ := (hA.below hb (Nat.le_refl _)).int hx
        obtain ⟨b', off', rfl, hbb', c0'⟩ := (hB.below hb (Nat.le_refl _)).int hx'
        have hki : (k : Int) < (n : Int) := by omega
        have Hx := Lib.hid hx
        have Hx' := Lib.hid hx'
        clear hx hx'
        go_wp2
        go_quiet (fail)
        by_cases hq : x = x'
        · subst hq
          go_wp2
          go_roundw
          case rel =>
            refine ⟨k + 1, by omega, by go_num, ?_, hb.trans ⟨rfl, rfl, rfl, Nat.le_refl _, fun _ _ => rfl⟩⟩
            rw [List.take_add_one, List.take_add_one, Htk.out, Hx.out, Hx'.out]
          case measure => simp [intOf]; omega
        · go_wp2
          go_ret
          refine ⟨?_, hb.trans ⟨rfl, rfl, rfl, Nat.le_refl _, fun _ _ => rfl⟩⟩
          have : l ≠ m := by rintro rfl; have h := Hx.out; rw [Hx'.out] at h; exact hq (by simpa using h.symm)
          simp [this]
      · have hkl : k = n := by omega
        go_wp2
        go_ret
        refine ⟨?_, hb⟩
        have e := Htk.out
        rw [hkl, List.take_of_length_le (by rw [Hn.out]; exact Nat.le_refl _), List.take_of_length_le (by rw [← Hm.out]; exact Nat.le_refl _)] at e
        simp [e]
  · have hne : l ≠ m := by rintro rfl; exact hlen rfl
    have e : decide (l = m) = false := by simp [hne]
    rw [e]
    clear e
    go_enter Tryd.func48, Tryd.ntmps48
    go_wp2
    go_ret
    exact ⟨rfl, Below.refl _ _⟩

set_option maxHeartbeats 1000000 in
theorem markIntS_any (l : List Int) (A : Option Addr) (n c : Nat) (k0 : Int) (base : Nat) (w : World) (hn : l.length = n) (hl : n ≤ 1048576) (hk0 : 0 ≤ k0 ∧ k0 ≤ 16777216) (hown0 : w.ownsRow base 3 1 (.slice A n c) n (icells l)) :
    Calls Tryd.prog 49 #[.slice A n c, .int .i64 k0] w fun e w' =>
      e = .returned (.int .i64 (k0 + n)) ∧ w'.ownsRow base 3 1 (.slice A n c) n (icells (imarks k0 n)) ∧ w.grownBy w' (Value.ownBlock (.slice A n c)) := by
  have Hn := Lib.hid hn
  obtain ⟨hk00, hk01⟩ := hk0
  clear hn
  go_enter Tryd.func49, Tryd.ntmps49
  go_wp2
  go_loopw [1, 5] (fun q i wr => ∃ k : Nat, k ≤ n ∧ i = .int .i64 k ∧ q = .int .i64 (k0 + k) ∧ wr.ownsRow base 3 1 (.slice A n c) n (icells ((imarks k0 n).take k ++ l.drop k)) ∧ w.grownBy wr (Value.ownBlock (.slice A n c))) (fun _ i _ => n - (intOf i).toNat)
  case atStart => exact ⟨0, Nat.zero_le _, rfl, by simp, by simpa using hown0, World.grownBy.refl _ _⟩
  case round =>
    obtain ⟨k, hk, rfl, rfl, hown, hb⟩ := hrel
    by_cases hlt : k < n
    · obtain ⟨g, rfl⟩ := own_form hown (by omega)
      obtain ⟨x, hz, hx⟩ := take_drop_at (imarks k0 n) l n k (imarks_length _ _) Hn.out hlt
      have hlt' : (k : Int) < n := by omega
      have d0 := own_intAt hown hz
      have f0 := hown.frozenAt k
      have Hz := Lib.hid hz
      clear hz hx
      go_wp2
      go_roundw
      case rel =>
        refine ⟨k + 1, by omega, by go_num, by go_num, ?_, ?_⟩
        · have h2 := own_setInt hown k (k0 + k)
          rwa [take_set_drop (imarks k0 n) l n k _ (imarks_length _ _) Hn.out (imarks_at hlt)] at h2
        · exact gb_trans hb (hown.stored k _).2
      case measure => simp [intOf]; omega
    · have hkl : k = n := by omega
      subst hkl
      have hge : ¬ ((k : Int) < k) := by omega
      go_wp2
      go_ret
      refine ⟨rfl, ?_, hb⟩
      rwa [List.take_of_length_le (by rw [imarks_length]; exact Nat.le_refl _), List.drop_of_length_le (by rw [Hn.out]; exact Nat.le_refl _), List.append_nil] at hown

set_option maxHeartbeats 1000000 in
theorem heldIntS_any (A : Option Addr) (n c : Nat) (k0 : Int) (w : World) (hl : n ≤ 1048576) (hk0 : 0 ≤ k0 ∧ k0 ≤ 16777216) (hA : CRead w w.heap.size A (icells (imarks k0 n))) :
    Calls Tryd.prog 50 #[.slice A n c, .int .i64 k0] w fun e w' => e = .returned (.int .i64 (k0 + n)) ∧ w = w' := by
  obtain ⟨hk00, hk01⟩ := hk0
  go_enter Tryd.func50, Tryd.ntmps50
  go_wp2
  go_loop [1, 5] (fun q i => ∃ k : Nat, k ≤ n ∧ i = .int .i64 k ∧ q = .int .i64 (k0 + k)) (fun _ i => n - (intOf i).toNat)
  case atStart => exact ⟨0, Nat.zero_le _, rfl, by simp⟩
  case round =>
    obtain ⟨k, hk, rfl, rfl⟩ := hrel
    by_cases hlt : k < n
    · obtain ⟨b, off, rfl, hbb, c0⟩ := hA.int (imarks_at hlt)
      have hlt' : (k : Int) < n := by omega
      go_wp2
      go_round
      case rel => exact ⟨k + 1, by omega, by go_num, by go_num⟩
      case measure => simp [intOf]; omega
    · have hkl : k = n := by omega
      subst hkl
      have hge : ¬ ((k : Int) < k) := by omega
      go_wp2
      go_ret
      exact ⟨rfl, rfl⟩
end Go.Proofs.YtefkcfkicmfhlaaDoor
