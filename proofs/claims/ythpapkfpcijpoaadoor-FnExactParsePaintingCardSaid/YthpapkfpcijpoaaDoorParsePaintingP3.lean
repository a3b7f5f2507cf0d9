/-
  Texts put together for the claim of 'ParsePainting' (pack 3): ParsP, PBox, Has, Own, TiedP, LRows, OwnRow, PaintS, ParsS, ParsF, ParsM, ShelfC, ParsR, ParsA, ParsI, ParsN.
-/
import Derived.Test.YthpapkfpcijpoaaDoorParsePaintingP2
import Derived.ArgAppend
import Derived.Laws.BitsAllLaws
import Derived.Lib.TrailingZeros
import Derived.Laws.AppendOwnNone
import Derived.Deep.RegionHeld3
import Derived.BigRegion
import Derived.Laws.BitsLemmas
import Derived.Deep.Cut
import Derived.Deep.AppendLies
import Derived.Shelf.Strings.Cut
import Derived.Shelf.Strconv.AtoiAll
import Derived.Shelf.SlGeneric
import Derived.Shelf.Lays
import Derived.Ground.NamesProg
import Derived.Test.YthpapkfpcijpoaaDoorProg
import Derived.Lib.IndexMore
import Derived.Lib.AtoiAll
import Derived.Lib.AtoiErrMem
/-
  'ParsePainting', pure: the painting that a text tells, if there is one.
-/
namespace Go.Proofs.YthpapkfpcijpoaaDoor

/-- a byte's digit -/
def undg (b : UInt8) : Int := (b.toNat : Int) - 48
theorem undg_dg {x : Int} (h0 : 0 ≤ x) (h1 : x ≤ 9) : undg (dg x) = x := by
  unfold undg
  rw [dg_nat h0 h1]
  omega
theorem dg_undg {b : UInt8} (h0 : 48 ≤ b.toNat) (h1 : b.toNat ≤ 57) : dg (undg b) = b := by
  unfold dg undg
  have e : 48 + ((b.toNat : Int) - 48).toNat = b.toNat := by omega
  rw [e]
  exact UInt8.ofNat_toNat
theorem textT_list (p k : Int) (l : List Int) : (textT p k l).data.toList = dg p :: 58 :: dg k :: 58 :: l.map dg := by
  unfold textT headT
  simp
def pOf (s : List UInt8) : Int := undg (s.getD 0 0)
def kOf (s : List UInt8) : Int := undg (s.getD 2 0)
def lOf (s : List UInt8) : List Int := (s.drop 4).map undg
/-- there is a painting with the text -/
def isText (s : ByteArray) : Bool := isX (pOf s.data.toList) (kOf s.data.toList) (lOf s.data.toList) && decide (textT (pOf s.data.toList) (kOf s.data.toList) (lOf s.data.toList) = s)
def resParsePainting (s : ByteArray) : Int × Int × List Int × Bool :=
  if isText s then (pOf s.data.toList, kOf s.data.toList, lOf s.data.toList, true) else (0, 0, [], false)
theorem resParsePainting_len (s : ByteArray) : (resParsePainting s).2.2.1.length ≤ 1048576 := by
  unfold resParsePainting
  split
  · rename_i h
    simp only [isText, Bool.and_eq_true] at h
    have := isX_small h.1
    show (lOf s.data.toList).length ≤ 1048576
    omega
  · simp
theorem lOf_text {p k : Int} {l : List Int} (h : isX p k l = true) : pOf (textT p k l).data.toList = p ∧ kOf (textT p k l).data.toList = k ∧ lOf (textT p k l).data.toList = l := by
  obtain ⟨⟨hp0, hp1⟩, ⟨hk0, hk1⟩, _⟩ := isX_parts h
  rw [textT_list]
  refine ⟨undg_dg hp0 (by omega), undg_dg (by omega) (by omega), ?_⟩
  unfold lOf
  show ((l.map dg).map undg) = l
  rw [List.map_map]
  conv => rhs; rw [← List.map_id l]
  apply List.map_congr_left
  intro x hx
  obtain ⟨i, hi⟩ := List.mem_iff_getElem?.1 hx
  have := isX_at h hi
  exact undg_dg this.1 (by omega)
/-- the text of a painting tells that painting -/
theorem isText_text {p k : Int} {l : List Int} (h : isX p k l = true) : isText (textT p k l) = true := by
  obtain ⟨e1, e2, e3⟩ := lOf_text h
  simp [isText, e1, e2, e3, h]
/-- the program's answer: a painting was read, and its text is the text -/
theorem res_of_text {p k : Int} {l : List Int} {s : ByteArray} (h : isX p k l = true) (e : textT p k l = s) : resParsePainting s = (p, k, l, true) := by
  subst e
  obtain ⟨e1, e2, e3⟩ := lOf_text h
  simp [resParsePainting, isText_text h, e1, e2, e3]
/-- what has the form of a text is the text of what it tells -/
theorem text_of_form {s : ByteArray} {a b : UInt8} {t : List UInt8} (e : s.data.toList = a :: 58 :: b :: 58 :: t) (ha : 48 ≤ a.toNat ∧ a.toNat ≤ 57) (hb : 48 ≤ b.toNat ∧ b.toNat ≤ 57)
    (ht : ∀ x ∈ t, 48 ≤ x.toNat ∧ x.toNat ≤ 57) : textT (pOf s.data.toList) (kOf s.data.toList) (lOf s.data.toList) = s := by
  apply ByteArray.ext
  apply Array.toList_inj.1
  rw [textT_list, e]
  have e1 : dg (pOf (a :: 58 :: b :: 58 :: t)) = a := dg_undg ha.1 ha.2
  have e2 : dg (kOf (a :: 58 :: b :: 58 :: t)) = b := dg_undg hb.1 hb.2
  have e3 : (lOf (a :: 58 :: b :: 58 :: t)).map dg = t := by
    show (t.map undg).map dg = t
    rw [List.map_map]
    conv => rhs; rw [← List.map_id t]
    apply List.map_congr_left
    intro x hx
    exact dg_undg (ht x hx).1 (ht x hx).2
  rw [e1, e2, e3]
/-- where there is a painting with the text, the text has the form -/
theorem form_of_text {s : ByteArray} (h : isText s = true) : ∃ (a b : UInt8) (t : List UInt8), s.data.toList = a :: 58 :: b :: 58 :: t ∧ (48 ≤ a.toNat ∧ a.toNat ≤ 57) ∧ (48 ≤ b.toNat ∧ b.toNat ≤ 57) ∧ (∀ x ∈ t, 48 ≤ x.toNat ∧ x.toNat ≤ 57) ∧ t.length ≤ 28 := by
  simp only [isText, Bool.and_eq_true, decide_eq_true_eq] at h
  obtain ⟨hx, e⟩ := h
  obtain ⟨⟨hp0, hp1⟩, ⟨hk0, hk1⟩, _⟩ := isX_parts hx
  have d1 := dg_nat hp0 (by omega)
  have d2 := dg_nat (x := kOf s.data.toList) (by omega) (by omega)
  have hl : s.data.toList = dg (pOf s.data.toList) :: 58 :: dg (kOf s.data.toList) :: 58 :: (lOf s.data.toList).map dg := by
    have h1 := textT_list (pOf s.data.toList) (kOf s.data.toList) (lOf s.data.toList)
    rwa [e] at h1
  refine ⟨dg (pOf s.data.toList), dg (kOf s.data.toList), (lOf s.data.toList).map dg, hl, ⟨by omega, by omega⟩, ⟨by omega, by omega⟩, ?_, by rw [List.length_map]; exact isX_small hx⟩
  intro x hm
  obtain ⟨y, hy, rfl⟩ := List.mem_map.1 hm
  obtain ⟨i, hi⟩ := List.mem_iff_getElem?.1 hy
  have h1 := isX_at hx hi
  have d3 := dg_nat h1.1 (by omega)
  exact ⟨by omega, by omega⟩
end Go.Proofs.YthpapkfpcijpoaaDoor
/-
  A PAINTING IN A BOX OF THE CALL's OWN, whose colours are appended one by one.
-/
namespace Go.Proofs.YthpapkfpcijpoaaDoor
open Go.RowKit

/-- The worlds above w0: a box at g holds a painting of n people and k colours, whose colours so far, L, lie in a row of the call's own. -/
structure PBox (B : Nat) (w0 wr : World) (n k : Int) (g : Nat) (v : Value) (L : List Int) : Prop where
  below : Below B w0 wr
  gB : B ≤ g
  box : wr.heap[g]? = some (.cells #[.int .i64 n, .int .i64 k, v] 47 (0, 0))
  own : wr.ownsRow B 3 1 v L.length (icells L)
section
variable {B g : Nat} {w0 wr W1 w1 : World} {n k : Int} {v v' : Value} {L : List Int}
theorem PBox.lt (h : PBox B w0 wr n k g v L) : g < wr.heap.size := lt_of_heap h.box
theorem ne_of_pbox (h : wr.heap[g]? = some (.cells #[.int .i64 n, .int .i64 k, v] 47 (0, 0))) {m : Nat} {xs : List Value} (ho : wr.ownsRow B 3 1 v' m xs) : v'.ownBlock ≠ some g := by
  rcases ho.2 with ⟨rfl, _⟩ | ⟨g', cap, cur, rfl, _, hh, _⟩
  · simp [Value.ownBlock]
  · intro e
    have hgb : g' = g := by simpa [Value.ownBlock] using e
    subst hgb
    rw [hh] at h
    injection h with h
    injection h with _ ht
    exact absurd ht (by decide)
theorem PBox.ne (h : PBox B w0 wr n k g v L) : v.ownBlock ≠ some g := ne_of_pbox h.box h.own
theorem PBox.cells (h : PBox B w0 wr n k g v L) : wr.cell? ⟨g, 0, none⟩ = some (.int .i64 n) ∧ wr.cell? ⟨g, 1, none⟩ = some (.int .i64 k) ∧ wr.cell? ⟨g, 2, none⟩ = some v ∧ ∀ j, wr.frozen? ⟨g, j, none⟩ = false :=
  ⟨by rw [cell_of_row _ _ _ _ _ _ h.box]; rfl, by rw [cell_of_row _ _ _ _ _ _ h.box]; rfl, by rw [cell_of_row _ _ _ _ _ _ h.box]; rfl, fun j => frozen_of_row _ _ j _ _ h.box⟩
theorem PBox.kept (h : PBox B w0 wr n k g v L) (hW : Below wr.heap.size wr W1) (hB : B ≤ wr.heap.size) : PBox B w0 W1 n k g v L :=
  ⟨h.below.trans (hW.mono hB), h.gB, (hW.block _ h.lt).trans h.box, own_below h.own hW (Nat.le_refl _)⟩
theorem PBox.le (h : PBox B w0 wr n k g v L) : B ≤ wr.heap.size := Nat.le_trans h.gB (Nat.le_of_lt h.lt)
/-- what stands behind an append -/
theorem PBox.grown (h : PBox B w0 wr n k g v L) (hW : Below wr.heap.size wr W1) (hg : W1.grownBy w1 v.ownBlock) :
    w1.heap[g]? = some (.cells #[.int .i64 n, .int .i64 k, v] 47 (0, 0)) ∧ w1.cell? ⟨g, 0, none⟩ = some (.int .i64 n) ∧ w1.cell? ⟨g, 1, none⟩ = some (.int .i64 k) ∧ w1.cell? ⟨g, 2, none⟩ = some v ∧ (∀ j, w1.frozen? ⟨g, j, none⟩ = false) ∧ Below B w0 w1 ∧ wr.heap.size ≤ w1.heap.size := by
  have hlt := h.lt
  have e : w1.heap[g]? = some (.cells #[.int .i64 n, .int .i64 k, v] 47 (0, 0)) := by
    rw [hg.block g (Nat.lt_of_lt_of_le hlt hW.size) (fun e => h.ne e.symm), hW.block g hlt]
    exact h.box
  refine ⟨e, by rw [cell_of_row _ _ _ _ _ _ e]; rfl, by rw [cell_of_row _ _ _ _ _ _ e]; rfl, by rw [cell_of_row _ _ _ _ _ _ e]; rfl, fun j => frozen_of_row _ _ j _ _ e, ?_, Nat.le_trans hW.size hg.size⟩
  exact (h.below.trans (hW.mono h.le)).grown hg (Nat.le_trans h.le hW.size) (fun k hk => (h.own.lt k hk).1)
/-- one colour more -/
theorem PBox.push {x : Int} (h : PBox B w0 wr n k g v L) (hW : Below wr.heap.size wr W1) (hg : W1.grownBy w1 v.ownBlock) (hown : w1.ownsRow B 3 1 v' (L.length + 1) (icells L ++ [.int .i64 x])) :
    PBox B w0 (w1.setCell ⟨g, 2, none⟩ v') n k g v' (L ++ [x]) := by
  obtain ⟨e, _, _, _, _, hb, _⟩ := h.grown hW hg
  have hne := ne_of_pbox e hown
  refine ⟨hb.setCell (p := ⟨g, 2, none⟩) h.gB _, h.gB, heap_setCell_same w1 g 2 _ _ v' e, ?_⟩
  have el : (L ++ [x]).length = L.length + 1 := by simp
  have ec : icells (L ++ [x]) = icells L ++ [.int .i64 x] := by simp [icells]
  rw [el, ec]
  exact hown.kept (row := some g) ⟨rfl, rfl, rfl, by simp, fun k _ hk => heap_setCell_other _ _ _ _ (fun e => hk (by rw [e]))⟩ (.inr hne)
/-- a colour is set -/
theorem PBox.set {g' m cap : Nat} (h : PBox B w0 wr n k g (.slice (some ⟨g', 0, none⟩) m cap) L) (hm : m = L.length) (j : Nat) (x : Int) :
    PBox B w0 (wr.setCell ⟨g', j, none⟩ (.int .i64 x)) n k g (.slice (some ⟨g', 0, none⟩) m cap) (L.set j x) := by
  subst hm
  have hne : g' ≠ g := fun e => h.ne (by rw [e]; rfl)
  have hlt := (h.own.lt g' rfl).1
  refine ⟨h.below.setCell (p := ⟨g', j, none⟩) hlt _, h.gB, (heap_setCell_other _ _ _ _ (fun e => hne e.symm)).trans h.box, ?_⟩
  rw [List.length_set]
  exact own_setInt h.own j x
end
end Go.Proofs.YthpapkfpcijpoaaDoor
/-
  WHETHER A NUMBER IS IN A LIST: the model's look; a list's front.
-/
namespace Go.Proofs.YthpapkfpcijpoaaDoor
open Go.RowKit

theorem icells_getD {l : List Int} {j : Nat} (h : j < l.length) : (icells l)[j]? = some (.int .i64 (l.getD j 0)) := by
  simp [icells, List.getD_eq_getElem?_getD, List.getElem?_eq_getElem h]
theorem CRead.ints {w : World} {B : Nat} {A : Option Addr} {q : List Int} (h : CRead w B A (icells q)) (hq : 0 < q.length) : ∃ b off, A = some ⟨b, off, none⟩ ∧ b < B ∧ ∀ j, j < q.length → w.cell? ⟨b, off + j, none⟩ = some (.int .i64 (q.getD j 0)) := by
  obtain ⟨b, off, rfl, hb, _⟩ := h 0 _ (icells_getD hq)
  refine ⟨b, off, rfl, hb, fun j hj => ?_⟩
  obtain ⟨b', off', e, _, hc⟩ := h j _ (icells_getD hj)
  simp only [Option.some.injEq, Addr.mk.injEq, and_true] at e
  obtain ⟨rfl, rfl⟩ := e
  exact hc

theorem CRead.front {w : World} {B : Nat} {A : Option Addr} {q : List Int} (h : CRead w B A (icells q)) (k : Nat) : CRead w B A (icells (q.take k)) := fun j u hu => by
  refine h j u ?_
  unfold icells at hu ⊢
  rw [List.map_take, List.getElem?_take] at hu
  split at hu
  · exact hu
  · cases hu


/-- whether a number is in a list -/
def hasI (q : List Int) (x : Int) : Bool := q.contains x
theorem hasI_mem {q : List Int} {x : Int} : hasI q x = true ↔ x ∈ q := List.contains_iff_mem
end Go.Proofs.YthpapkfpcijpoaaDoor
/-
  'spec.l1Own': a copy of a list of numbers, by its contract.
-/
namespace Go.Proofs.YthpapkfpcijpoaaDoor
open Go.RowKit

end Go.Proofs.YthpapkfpcijpoaaDoor
/-
  LISTS OF PEOPLE WHO ARE TIED, TWO AND TWO, as plain lists; sets of people as numbers of sixteen bits. Nothing here speaks of the program.
-/
namespace Go.Proofs.YthpapkfpcijpoaaDoor
open Go.RowKit

/-- the lists of so many more of the candidates behind those told, in order; every candidate is tied to all told -/
def listsC (t : Nat → Nat → Bool) : Nat → List Int → List Nat → List (List Int)
  | 0, told, _ => [told]
  | _ + 1, _, [] => []
  | k + 1, told, a :: cs => listsC t k (told ++ [(a : Int)]) (cs.filter (t a)) ++ listsC t (k + 1) told cs
termination_by k _ cs => (k, cs.length)
theorem listsC_zero (t : Nat → Nat → Bool) (told : List Int) (cs : List Nat) : listsC t 0 told cs = [told] := by cases cs <;> simp [listsC]
theorem listsC_nil (t : Nat → Nat → Bool) (k : Nat) (told : List Int) : listsC t (k + 1) told [] = [] := by simp [listsC]
theorem listsC_cons (t : Nat → Nat → Bool) (k : Nat) (told : List Int) (a : Nat) (cs : List Nat) :
    listsC t (k + 1) told (a :: cs) = listsC t k (told ++ [(a : Int)]) (cs.filter (t a)) ++ listsC t (k + 1) told cs := by rw [listsC]

/-- a number's bits are those of a rising list -/
structure IsSet (J : Nat) (cs : List Nat) : Prop where
  up : cs.Pairwise (· < ·)
  lt : ∀ b ∈ cs, b < 16
  mem : ∀ b, J.testBit b = true ↔ b ∈ cs
theorem IsSet.small {J : Nat} {cs : List Nat} (h : IsSet J cs) : J < 65536 := by
  refine Nat.lt_pow_two_of_testBit (n := 16) J fun i hi => ?_
  cases e : J.testBit i with
  | false => rfl
  | true => have := h.lt i ((h.mem i).1 e); omega
theorem IsSet.zero {J : Nat} (h : IsSet J []) : J = 0 := by
  refine Nat.eq_of_testBit_eq fun i => ?_
  rw [Nat.zero_testBit]
  cases e : J.testBit i with
  | false => rfl
  | true => have := (h.mem i).1 e; simp at this
theorem IsSet.pos {J a : Nat} {cs : List Nat} (h : IsSet J (a :: cs)) : J ≠ 0 := by
  intro e
  have := (h.mem a).2 List.mem_cons_self
  rw [e, Nat.zero_testBit] at this
  cases this
theorem IsSet.least {J a : Nat} {cs : List Nat} (h : IsSet J (a :: cs)) : Lib.ctz 16 J = a := by
  have hp := h.pos
  have hs := h.small
  obtain ⟨m, hm, hk⟩ := Lib.ctzFrom_spec 16 J (by omega) hs
  have e : Lib.ctz 16 J = Lib.ctzFrom 16 J := by simp [Lib.ctz, hp]
  rw [e]
  generalize Lib.ctzFrom 16 J = c at *
  have hb : ∀ b, J.testBit b = (decide (c ≤ b) && (2 * m + 1).testBit (b - c)) := fun b => by rw [hm, Nat.testBit_two_pow_mul]
  have h1 : J.testBit c = true := by rw [hb]; simp
  have h2 := (h.mem c).1 h1
  have h3 := (h.mem a).2 List.mem_cons_self
  rw [hb] at h3
  have h4 : c ≤ a := by simp only [Bool.and_eq_true, decide_eq_true_eq] at h3; exact h3.1
  rcases List.mem_cons.1 h2 with h5 | h5
  · exact h5
  · have := (List.pairwise_cons.1 h.up).1 c h5
    omega
theorem bit_off : ∀ a : Fin 16, ∀ b : Fin 16, (65535 - 2 ^ a.val).testBit b.val = decide (b.val ≠ a.val) := by decide
theorem IsSet.tail {J a : Nat} {cs : List Nat} (h : IsSet J (a :: cs)) : IsSet (J &&& (65535 - 2 ^ a)) cs := by
  have ha := h.lt a List.mem_cons_self
  have hp := List.pairwise_cons.1 h.up
  refine ⟨hp.2, fun b hb => h.lt b (List.mem_cons_of_mem _ hb), fun b => ?_⟩
  rw [Nat.testBit_and, Bool.and_eq_true, h.mem, List.mem_cons]
  constructor
  · rintro ⟨h1, h2⟩
    rcases h1 with rfl | h1
    · have := bit_off ⟨b, ha⟩ ⟨b, ha⟩
      simp only [ne_eq, not_true_eq_false, decide_false] at this
      rw [this] at h2
      cases h2
    · exact h1
  · intro hb
    have hb16 := h.lt b (List.mem_cons_of_mem _ hb)
    have := hp.1 b hb
    refine ⟨.inr hb, ?_⟩
    rw [bit_off ⟨a, ha⟩ ⟨b, hb16⟩]
    simp only [ne_eq, decide_eq_true_eq]
    omega
theorem IsSet.inter {J T : Nat} {cs : List Nat} {f : Nat → Bool} (h : IsSet J cs) (hT : ∀ b, b < 16 → T.testBit b = f b) : IsSet (J &&& T) (cs.filter f) := by
  refine ⟨h.up.filter _, fun b hb => h.lt b (List.mem_filter.1 hb).1, fun b => ?_⟩
  rw [Nat.testBit_and, Bool.and_eq_true, h.mem, List.mem_filter]
  constructor
  · rintro ⟨h1, h2⟩
    rw [hT b (h.lt b h1)] at h2
    exact ⟨h1, h2⟩
  · rintro ⟨h1, h2⟩
    exact ⟨h1, by rw [hT b (h.lt b h1)]; exact h2⟩
theorem IsSet.people {n : Nat} (hn : n ≤ 16) : IsSet (2 ^ n - 1) (List.range n) := by
  refine ⟨List.pairwise_lt_range, fun b hb => by have := List.mem_range.1 hb; omega, fun b => ?_⟩
  rw [Nat.testBit_two_pow_sub_one, decide_eq_true_eq, List.mem_range]
end Go.Proofs.YthpapkfpcijpoaaDoor
/-
  LISTS OF NUMBERS UNDER ONE SLICE, each row in a block of the call's own; 'spec.l1Own' of any list; 'spec.trGroups' as a plain list.
-/
namespace Go.Proofs.YthpapkfpcijpoaaDoor
open Go.RowKit

structure LRows (w : World) (B : Nat) (v : Value) (LL : List (List Int)) (hs : List Value) : Prop where
  own : w.ownsRow B 26 1 v LL.length hs
  row : ∀ (i : Nat) (l : List Int), LL[i]? = some l → ∃ A c, hs[i]? = some (Value.slice A l.length c) ∧ w.ownsRow B 3 1 (Value.slice A l.length c) l.length (icells l)
  nil : LL = [] → v = Value.slice none 0 0
section
variable {w w' : World} {B B' : Nat} {v v' v2 : Value} {LL L2 : List (List Int)} {hs hs2 : List Value}
theorem LRows.none (w : World) (B : Nat) : LRows w B (Value.slice Option.none 0 0) [] [] := ⟨World.ownsRow_nil _ _ _ _, fun i l h => by simp at h, fun _ => rfl⟩
theorem LRows.below (h : LRows w B v LL hs) (hb : Below w.heap.size w w') : LRows w' B v LL hs :=
  ⟨own_below h.own hb (Nat.le_refl _), fun i l hi => by obtain ⟨A, c, e, o⟩ := h.row i l hi; exact ⟨A, c, e, own_below o hb (Nat.le_refl _)⟩, h.nil⟩
theorem LRows.lower (h : LRows w B v LL hs) (hB : B' ≤ B) : LRows w B' v LL hs :=
  ⟨own_lower h.own hB, fun i l hi => by obtain ⟨A, c, e, o⟩ := h.row i l hi; exact ⟨A, c, e, own_lower o hB⟩, h.nil⟩
theorem LRows.length (h : LRows w B v LL hs) : hs.length = LL.length := by have := h.own.1; omega
theorem LRows.one (h : LRows w B v LL hs) : ∀ u ∈ hs, u.oneCell' = true := by
  intro u hu
  obtain ⟨i, hi, rfl⟩ := List.getElem_of_mem hu
  have hl := h.length
  obtain ⟨A, c, e, _⟩ := h.row i LL[i] (List.getElem?_eq_getElem (by omega))
  rw [List.getElem?_eq_getElem hi] at e
  simp only [Option.some.injEq] at e
  rw [e]
  rfl
theorem blocks_apart {e e' : TypeId} {size size' n m : Nat} {xs ys : List Value} (h : w.ownsRow B e size v n xs) (h' : w.ownsRow B' e' size' v' m ys) (hne : e ≠ e') : v'.ownBlock = .none ∨ v'.ownBlock ≠ v.ownBlock := by
  rcases h'.2 with ⟨rfl, _⟩ | ⟨g, cap, cur, rfl, _, hg, _⟩
  · exact .inl rfl
  · refine .inr fun e => ?_
    rcases h.2 with ⟨rfl, _⟩ | ⟨g2, cap2, cur2, rfl, _, hg2, _⟩
    · simp [Value.ownBlock] at e
    · have : g = g2 := by simpa [Value.ownBlock] using e
      subst this
      rw [hg] at hg2
      simp only [Option.some.injEq, Obj.cells.injEq] at hg2
      exact hne hg2.2.1.symm
/-- rows appended to rows -/
theorem LRows.append (h : LRows w B v LL hs) (h2 : LRows w B v2 L2 hs2) (hown : w'.ownsRow B 26 1 v' (LL.length + L2.length) (hs ++ hs2)) (hg : w.grownBy w' v.ownBlock) (hn : L2 ≠ []) : LRows w' B v' (LL ++ L2) (hs ++ hs2) := by
  have keep : ∀ A c l, w.ownsRow B 3 1 (.slice A l.length c) l.length (icells l) → w'.ownsRow B 3 1 (.slice A l.length c) l.length (icells l) := fun A c l o => o.kept hg (blocks_apart h.own o (show (26 : TypeId) ≠ 3 by decide))
  refine ⟨by rw [List.length_append]; exact hown, fun i l hi => ?_, fun e => ?_⟩
  · have hl := h.length
    by_cases hlt : i < LL.length
    · rw [List.getElem?_append_left hlt] at hi
      obtain ⟨A, c, e, o⟩ := h.row i l hi
      exact ⟨A, c, by rw [List.getElem?_append_left (by omega)]; exact e, keep A c l o⟩
    · rw [List.getElem?_append_right (by omega)] at hi
      obtain ⟨A, c, e, o⟩ := h2.row _ l hi
      exact ⟨A, c, by rw [List.getElem?_append_right (by omega), hl]; exact e, keep A c l o⟩
  · simp at e
    exact absurd e.2 hn
end
/-- A call came back with lists of numbers. -/
def GotLL (w : World) (LL : List (List Int)) (e : Ending) (w' : World) : Prop := ∃ A c hs, e = .returned (.slice A LL.length c) ∧ LRows w' w.heap.size (.slice A LL.length c) LL hs ∧ Below w.heap.size w w'


/-! ## The model's candidates -/
def fromQ (q : List Int) : Nat := match q.getLast? with | none => 0 | some x => x.toNat + 1
def candR (t : Nat → Nat → Bool) (n : Nat) (q : List Int) (a : Nat) : List Nat := (List.range' a (n - a)).filter fun b => q.all fun y => t b y.toNat
theorem candR_end (t : Nat → Nat → Bool) (n : Nat) (q : List Int) {a : Nat} (h : n ≤ a) : candR t n q a = [] := by unfold candR; rw [Nat.sub_eq_zero_of_le h]; rfl
theorem candR_no {t : Nat → Nat → Bool} {n : Nat} {q : List Int} {a : Nat} (h : a < n) (hk : (q.all fun y => t a y.toNat) = false) : candR t n q a = candR t n q (a + 1) := by
  unfold candR
  rw [show n - a = (n - (a + 1)) + 1 from by omega, List.range'_succ, List.filter_cons_of_neg (by simp [hk])]
theorem candR_yes {t : Nat → Nat → Bool} {n : Nat} {q : List Int} {a : Nat} (h : a < n) (hk : (q.all fun y => t a y.toNat) = true) : candR t n q a = a :: candR t n q (a + 1) := by
  unfold candR
  rw [show n - a = (n - (a + 1)) + 1 from by omega, List.range'_succ, List.filter_cons_of_pos (by simpa using hk)]
theorem candR_tied {t : Nat → Nat → Bool} (hs : ∀ i j, t i j = t j i) (n : Nat) (q : List Int) (a : Nat) : (candR t n q (a + 1)).filter (t a) = candR t n (q ++ [(a : Int)]) (fromQ (q ++ [(a : Int)])) := by
  unfold candR fromQ
  simp only [List.getLast?_append, List.getLast?_singleton, Option.some_or, Int.toNat_natCast]
  rw [List.filter_filter]
  refine List.filter_congr fun b _ => ?_
  rw [List.all_append]
  simp [hs a b, Bool.and_comm]
end Go.Proofs.YthpapkfpcijpoaaDoor
/-
  A COPY OF A LIST of any length, and what an own row's slice looks like.
-/
namespace Go.Proofs.YthpapkfpcijpoaaDoor
open Go.RowKit

theorem own_none {w : World} {B : Nat} {e : TypeId} {m c : Nat} {A : Option Addr} {xs : List Value} (h : w.ownsRow B e 1 (.slice A m c) m xs) : (A = none ∧ m = 0 ∧ c = 0) ∨ ∃ g, A = some ⟨g, 0, none⟩ := by
  rcases h.2 with ⟨h1, h2⟩ | ⟨g, cap, cur, hv, _⟩
  · simp only [Value.slice.injEq] at h1
    exact .inl ⟨h1.1, h2, h1.2.2⟩
  · simp only [Value.slice.injEq] at hv
    exact .inr ⟨g, hv.1⟩

theorem own_zero {w : World} {B : Nat} {e : TypeId} {m c : Nat} {A : Option Addr} {xs : List Value} (h : w.ownsRow B e 1 (.slice A m c) m xs) : A = none → c = 0 := by
  intro hA
  rcases own_none h with ⟨_, _, h3⟩ | ⟨g, h1⟩
  · exact h3
  · rw [hA] at h1; cases h1
end Go.Proofs.YthpapkfpcijpoaaDoor
/-
  PAINTINGS, THE MODEL's own small functions: two people, the place of a pair, its colour, a copy; by their contracts.
-/
namespace Go.Proofs.YthpapkfpcijpoaaDoor
open Go.RowKit

/-- a painting and two different people of it -/
def twoX (p k : Int) (l : List Int) (a b : Int) : Bool := isX p k l && (decide (0 ≤ a ∧ a ≤ p - 1) && (decide (0 ≤ b ∧ b ≤ p - 1) && decide (a ≠ b)))
theorem twoX_parts {p k a b : Int} {l : List Int} (h : twoX p k l a b = true) : isX p k l = true ∧ (0 ≤ a ∧ a ≤ p - 1) ∧ (0 ≤ b ∧ b ≤ p - 1) ∧ a ≠ b := by
  simp only [twoX, Bool.and_eq_true, decide_eq_true_eq] at h
  exact ⟨h.1, h.2.1, h.2.2.1, h.2.2.2⟩
/-- the place, in the model's own words -/
theorem ptAt_num : ∀ n : Fin 9, ∀ a : Fin 8, ∀ b : Fin 8, a.val < b.val → b.val < n.val →
    ((a.val : Int) * (2 * (n.val : Int) - a.val - 1)).tdiv 2 + b.val - a.val - 1 = (atP n.val a.val b.val : Int) ∧ (0 ≤ (a.val : Int) * (2 * (n.val : Int) - a.val - 1) ∧ (a.val : Int) * (2 * (n.val : Int) - a.val - 1) ≤ 1000) ∧ (0 ≤ ((a.val : Int) * (2 * (n.val : Int) - a.val - 1)).tdiv 2 ∧ ((a.val : Int) * (2 * (n.val : Int) - a.val - 1)).tdiv 2 ≤ 1000) := by decide +kernel
theorem colIn_any (k x : Int) (w : World) : Calls Tryd.prog 50 #[.int .i64 x, .int .i64 0, .int .i64 (k - 1)] w fun e w' => e = .returned (.bool (isColB k x)) ∧ Below w.heap.size w w' :=
  (l1In_any x 0 (k - 1) w).mono fun _ _ h => by
    have e : l1InB x 0 (k - 1) = isColB k x := by
      unfold l1InB isColB
      by_cases h0 : 0 ≤ x <;> by_cases h1 : x < k <;> simp [h0, h1] <;> omega
    rw [e] at h
    exact ⟨h.1, h.2 ▸ Below.refl _ _⟩
end Go.Proofs.YthpapkfpcijpoaaDoor
/-
  'ParsePainting': the model's, by its contract.
-/
namespace Go.Proofs.YthpapkfpcijpoaaDoor
open Go.RowKit

/-- a byte of a text -/
theorem str_index (s : ByteArray) (i : Nat) (b : UInt8) (w : World) (h : s.data.toList[i]? = some b) : (Instr.index 9 (.string s) (.int .i64 i)).run Tryd.prog w = .ok (.int .u8 b.toNat) w := by
  rw [run_index_string w 9 s .i64 i Tryd.underlying9]
  obtain ⟨hi, e⟩ := List.getElem?_eq_some_iff.1 h
  have hs : i < s.size := by simpa using hi
  rw [dif_pos ⟨by omega, by omega⟩]
  have e2 : s[((i : Int)).toNat]'(by omega) = b := by
    simp only [Int.toNat_natCast]
    rw [← e]
    rfl
  rw [e2]
/-- a text whose length is none of a painting's -/
theorem ptParse_long (s : ByteArray) (w : World) (h : ¬ (4 ≤ (s.size : Int) ∧ (s.size : Int) ≤ 40)) :
    Calls Tryd.prog 63 #[.string s] w fun e w' => e = .returned (.tuple #[.agg #[.int .i64 0, .int .i64 0, .slice none 0 0], .bool false]) ∧ Below w.heap.size w w' := by
  have hf : l1InB (s.size : Int) 4 40 = false := decide_eq_false h
  clear h
  go_enter Tryd.func63, Tryd.ntmps63
  go_wp2_with (go_at_call 50; refine (l1In_any _ _ _ _).mono ?_; rw [hf]; rintro e w' ⟨rfl, rfl⟩)
  refine bodyPost_ret (v := .tuple #[.agg #[.int .i64 0, .int .i64 0, .slice none 0 0], .bool false]) (by simp [results, Tryd.results63, go_sem]) rfl ?_
  exact ⟨rfl, by go_grown⟩
theorem ptParse_one (s : ByteArray) (w : World) (a c b d : UInt8) (t : List UInt8) (e : s.data.toList = a :: c :: b :: d :: t) (h : 4 ≤ (s.size : Int) ∧ (s.size : Int) ≤ 40) (hc : c ≠ 58) :
    Calls Tryd.prog 63 #[.string s] w fun e w' => e = .returned (.tuple #[.agg #[.int .i64 0, .int .i64 0, .slice none 0 0], .bool false]) ∧ Below w.heap.size w w' := by
  have hf : l1InB (s.size : Int) 4 40 = true := decide_eq_true h
  have i1 : ∀ X : World, (Instr.index 9 (.string s) (.int .i64 1)).run Tryd.prog X = .ok (.int .u8 c.toNat) X := fun X => str_index s 1 c X (by rw [e]; rfl)
  have hc' : ¬ ((c.toNat : Int) = 58) := fun hh => hc (UInt8.toNat_inj.1 (by show c.toNat = 58; omega))
  clear h e hc
  go_enter Tryd.func63, Tryd.ntmps63
  go_wp2_with (go_at_call 50; refine (l1In_any _ _ _ _).mono ?_; rw [hf]; rintro e w' ⟨rfl, rfl⟩)
  refine bodyPost_ret (v := .tuple #[.agg #[.int .i64 0, .int .i64 0, .slice none 0 0], .bool false]) (by simp [results, Tryd.results63, go_sem]) rfl ?_
  exact ⟨rfl, by go_grown⟩
theorem ptParse_three (s : ByteArray) (w : World) (a c b d : UInt8) (t : List UInt8) (e : s.data.toList = a :: c :: b :: d :: t) (h : 4 ≤ (s.size : Int) ∧ (s.size : Int) ≤ 40) (hc : c = 58) (hd : d ≠ 58) :
    Calls Tryd.prog 63 #[.string s] w fun e w' => e = .returned (.tuple #[.agg #[.int .i64 0, .int .i64 0, .slice none 0 0], .bool false]) ∧ Below w.heap.size w w' := by
  have hf : l1InB (s.size : Int) 4 40 = true := decide_eq_true h
  have i1 : ∀ X : World, (Instr.index 9 (.string s) (.int .i64 1)).run Tryd.prog X = .ok (.int .u8 c.toNat) X := fun X => str_index s 1 c X (by rw [e]; rfl)
  have i3 : ∀ X : World, (Instr.index 9 (.string s) (.int .i64 3)).run Tryd.prog X = .ok (.int .u8 d.toNat) X := fun X => str_index s 3 d X (by rw [e]; rfl)
  have hc' : (c.toNat : Int) = 58 := by rw [hc]; rfl
  have hd' : ¬ ((d.toNat : Int) = 58) := fun hh => hd (UInt8.toNat_inj.1 (by show d.toNat = 58; omega))
  clear h e hc hd
  go_enter Tryd.func63, Tryd.ntmps63
  go_wp2_with (go_at_call 50; refine (l1In_any _ _ _ _).mono ?_; rw [hf]; rintro e w' ⟨rfl, rfl⟩)
  refine bodyPost_ret (v := .tuple #[.agg #[.int .i64 0, .int .i64 0, .slice none 0 0], .bool false]) (by simp [results, Tryd.results63, go_sem]) rfl ?_
  exact ⟨rfl, by go_grown⟩
theorem ptParse_a0 (s : ByteArray) (w : World) (a c b d : UInt8) (t : List UInt8) (e : s.data.toList = a :: c :: b :: d :: t) (h : 4 ≤ (s.size : Int) ∧ (s.size : Int) ≤ 40) (hc : c = 58) (hd : d = 58) (ha : a.toNat < 48) :
    Calls Tryd.prog 63 #[.string s] w fun e w' => e = .returned (.tuple #[.agg #[.int .i64 0, .int .i64 0, .slice none 0 0], .bool false]) ∧ Below w.heap.size w w' := by
  have hf : l1InB (s.size : Int) 4 40 = true := decide_eq_true h
  have i1 : ∀ X : World, (Instr.index 9 (.string s) (.int .i64 1)).run Tryd.prog X = .ok (.int .u8 c.toNat) X := fun X => str_index s 1 c X (by rw [e]; rfl)
  have i3 : ∀ X : World, (Instr.index 9 (.string s) (.int .i64 3)).run Tryd.prog X = .ok (.int .u8 d.toNat) X := fun X => str_index s 3 d X (by rw [e]; rfl)
  have i0 : ∀ X : World, (Instr.index 9 (.string s) (.int .i64 0)).run Tryd.prog X = .ok (.int .u8 a.toNat) X := fun X => str_index s 0 a X (by rw [e]; rfl)
  have hc' : (c.toNat : Int) = 58 := by rw [hc]; rfl
  have hd' : (d.toNat : Int) = 58 := by rw [hd]; rfl
  have la : (a.toNat : Int) < 48 := by omega
  clear h e hc hd ha
  go_enter Tryd.func63, Tryd.ntmps63
  go_wp2_with (go_at_call 50; refine (l1In_any _ _ _ _).mono ?_; rw [hf]; rintro e w' ⟨rfl, rfl⟩)
  refine bodyPost_ret (v := .tuple #[.agg #[.int .i64 0, .int .i64 0, .slice none 0 0], .bool false]) (by simp [results, Tryd.results63, go_sem]) rfl ?_
  exact ⟨rfl, by go_grown⟩
theorem ptParse_a1 (s : ByteArray) (w : World) (a c b d : UInt8) (t : List UInt8) (e : s.data.toList = a :: c :: b :: d :: t) (h : 4 ≤ (s.size : Int) ∧ (s.size : Int) ≤ 40) (hc : c = 58) (hd : d = 58) (ha : 57 < a.toNat) :
    Calls Tryd.prog 63 #[.string s] w fun e w' => e = .returned (.tuple #[.agg #[.int .i64 0, .int .i64 0, .slice none 0 0], .bool false]) ∧ Below w.heap.size w w' := by
  have hf : l1InB (s.size : Int) 4 40 = true := decide_eq_true h
  have i1 : ∀ X : World, (Instr.index 9 (.string s) (.int .i64 1)).run Tryd.prog X = .ok (.int .u8 c.toNat) X := fun X => str_index s 1 c X (by rw [e]; rfl)
  have i3 : ∀ X : World, (Instr.index 9 (.string s) (.int .i64 3)).run Tryd.prog X = .ok (.int .u8 d.toNat) X := fun X => str_index s 3 d X (by rw [e]; rfl)
  have i0 : ∀ X : World, (Instr.index 9 (.string s) (.int .i64 0)).run Tryd.prog X = .ok (.int .u8 a.toNat) X := fun X => str_index s 0 a X (by rw [e]; rfl)
  have hc' : (c.toNat : Int) = 58 := by rw [hc]; rfl
  have hd' : (d.toNat : Int) = 58 := by rw [hd]; rfl
  have la : ¬ ((a.toNat : Int) < 48) := by omega
  have ga : (57 : Int) < a.toNat := by omega
  clear h e hc hd ha
  go_enter Tryd.func63, Tryd.ntmps63
  go_wp2_with (go_at_call 50; refine (l1In_any _ _ _ _).mono ?_; rw [hf]; rintro e w' ⟨rfl, rfl⟩)
  refine bodyPost_ret (v := .tuple #[.agg #[.int .i64 0, .int .i64 0, .slice none 0 0], .bool false]) (by simp [results, Tryd.results63, go_sem]) rfl ?_
  exact ⟨rfl, by go_grown⟩
theorem ptParse_b0 (s : ByteArray) (w : World) (a c b d : UInt8) (t : List UInt8) (e : s.data.toList = a :: c :: b :: d :: t) (h : 4 ≤ (s.size : Int) ∧ (s.size : Int) ≤ 40) (hc : c = 58) (hd : d = 58) (ha : 48 ≤ a.toNat ∧ a.toNat ≤ 57) (hb : b.toNat < 48) :
    Calls Tryd.prog 63 #[.string s] w fun e w' => e = .returned (.tuple #[.agg #[.int .i64 0, .int .i64 0, .slice none 0 0], .bool false]) ∧ Below w.heap.size w w' := by
  have hf : l1InB (s.size : Int) 4 40 = true := decide_eq_true h
  have i1 : ∀ X : World, (Instr.index 9 (.string s) (.int .i64 1)).run Tryd.prog X = .ok (.int .u8 c.toNat) X := fun X => str_index s 1 c X (by rw [e]; rfl)
  have i3 : ∀ X : World, (Instr.index 9 (.string s) (.int .i64 3)).run Tryd.prog X = .ok (.int .u8 d.toNat) X := fun X => str_index s 3 d X (by rw [e]; rfl)
  have i0 : ∀ X : World, (Instr.index 9 (.string s) (.int .i64 0)).run Tryd.prog X = .ok (.int .u8 a.toNat) X := fun X => str_index s 0 a X (by rw [e]; rfl)
  have hc' : (c.toNat : Int) = 58 := by rw [hc]; rfl
  have hd' : (d.toNat : Int) = 58 := by rw [hd]; rfl
  have i2 : ∀ X : World, (Instr.index 9 (.string s) (.int .i64 2)).run Tryd.prog X = .ok (.int .u8 b.toNat) X := fun X => str_index s 2 b X (by rw [e]; rfl)
  have la : ¬ ((a.toNat : Int) < 48) := by omega
  have ga : ¬ ((57 : Int) < a.toNat) := by omega
  have lb : (b.toNat : Int) < 48 := by omega
  clear h e hc hd ha hb
  go_enter Tryd.func63, Tryd.ntmps63
  go_wp2_with (go_at_call 50; refine (l1In_any _ _ _ _).mono ?_; rw [hf]; rintro e w' ⟨rfl, rfl⟩)
  refine bodyPost_ret (v := .tuple #[.agg #[.int .i64 0, .int .i64 0, .slice none 0 0], .bool false]) (by simp [results, Tryd.results63, go_sem]) rfl ?_
  exact ⟨rfl, by go_grown⟩
theorem ptParse_b1 (s : ByteArray) (w : World) (a c b d : UInt8) (t : List UInt8) (e : s.data.toList = a :: c :: b :: d :: t) (h : 4 ≤ (s.size : Int) ∧ (s.size : Int) ≤ 40) (hc : c = 58) (hd : d = 58) (ha : 48 ≤ a.toNat ∧ a.toNat ≤ 57) (hb : 57 < b.toNat) :
    Calls Tryd.prog 63 #[.string s] w fun e w' => e = .returned (.tuple #[.agg #[.int .i64 0, .int .i64 0, .slice none 0 0], .bool false]) ∧ Below w.heap.size w w' := by
  have hf : l1InB (s.size : Int) 4 40 = true := decide_eq_true h
  have i1 : ∀ X : World, (Instr.index 9 (.string s) (.int .i64 1)).run Tryd.prog X = .ok (.int .u8 c.toNat) X := fun X => str_index s 1 c X (by rw [e]; rfl)
  have i3 : ∀ X : World, (Instr.index 9 (.string s) (.int .i64 3)).run Tryd.prog X = .ok (.int .u8 d.toNat) X := fun X => str_index s 3 d X (by rw [e]; rfl)
  have i0 : ∀ X : World, (Instr.index 9 (.string s) (.int .i64 0)).run Tryd.prog X = .ok (.int .u8 a.toNat) X := fun X => str_index s 0 a X (by rw [e]; rfl)
  have hc' : (c.toNat : Int) = 58 := by rw [hc]; rfl
  have hd' : (d.toNat : Int) = 58 := by rw [hd]; rfl
  have i2 : ∀ X : World, (Instr.index 9 (.string s) (.int .i64 2)).run Tryd.prog X = .ok (.int .u8 b.toNat) X := fun X => str_index s 2 b X (by rw [e]; rfl)
  have la : ¬ ((a.toNat : Int) < 48) := by omega
  have ga : ¬ ((57 : Int) < a.toNat) := by omega
  have lb : ¬ ((b.toNat : Int) < 48) := by omega
  have gb : (57 : Int) < b.toNat := by omega
  clear h e hc hd ha hb
  go_enter Tryd.func63, Tryd.ntmps63
  go_wp2_with (go_at_call 50; refine (l1In_any _ _ _ _).mono ?_; rw [hf]; rintro e w' ⟨rfl, rfl⟩)
  refine bodyPost_ret (v := .tuple #[.agg #[.int .i64 0, .int .i64 0, .slice none 0 0], .bool false]) (by simp [results, Tryd.results63, go_sem]) rfl ?_
  exact ⟨rfl, by go_grown⟩
end Go.Proofs.YthpapkfpcijpoaaDoor
/-
  'ParsePainting': the model's, where the head of the text is right.
-/
namespace Go.Proofs.YthpapkfpcijpoaaDoor
open Go.RowKit

theorem wrap_dg {y : UInt8} (h0 : 48 ≤ y.toNat) (h1 : y.toNat ≤ 57) : IntKind.i64.wrap (IntKind.u8.wrap ((y.toNat : Int) - 48)) = undg y := by
  unfold undg
  rw [IntKind.wrap_u8, IntKind.wrap_i64]
  omega
def isDg (x : UInt8) : Prop := 48 ≤ x.toNat ∧ x.toNat ≤ 57
set_option maxHeartbeats 4000000 in
set_option maxRecDepth 100000 in
theorem ptParse_form (s : ByteArray) (w : World) (a c b d : UInt8) (t : List UInt8) (e : s.data.toList = a :: c :: b :: d :: t) (h : 4 ≤ (s.size : Int) ∧ (s.size : Int) ≤ 40) (hc : c = 58) (hd : d = 58)
    (ha : 48 ≤ a.toNat ∧ a.toNat ≤ 57) (hb : 48 ≤ b.toNat ∧ b.toNat ≤ 57) :
    Calls Tryd.prog 63 #[.string s] w fun e w' => ((∀ x ∈ t, isDg x) ∧ GotPaintOk w (undg a) (undg b) (t.map undg) (isX (undg a) (undg b) (t.map undg)) e w') ∨
      ((∃ x ∈ t, ¬ isDg x) ∧ e = .returned (.tuple #[.agg #[.int .i64 0, .int .i64 0, .slice none 0 0], .bool false]) ∧ Below w.heap.size w w') := by
  obtain ⟨i0', hi, hz0, hz1, hz2⟩ := info_parts Tryd.infoInt
  have hf : l1InB (s.size : Int) 4 40 = true := decide_eq_true h
  have hn : s.size = 4 + t.length := by
    have h1 : s.data.toList.length = s.size := Array.length_toList
    rw [← h1, e]
    simp only [List.length_cons]
    omega
  have ht36 : t.length ≤ 36 := by omega
  have Hn := Lib.hid hn
  have Hidx := Lib.hid (show ∀ (j : Nat) (y : UInt8), t[j]? = some y → ∀ X : World, (Instr.index 9 (.string s) (.int .i64 (4 + (j : Int)))).run Tryd.prog X = .ok (.int .u8 y.toNat) X from
    fun j y hy X => by
      have h1 := str_index s (4 + j) y X (by rw [e, Nat.add_comm]; exact hy)
      rwa [show ((4 + j : Nat) : Int) = 4 + (j : Int) from by omega] at h1)
  have i1 : ∀ X : World, (Instr.index 9 (.string s) (.int .i64 1)).run Tryd.prog X = .ok (.int .u8 c.toNat) X := fun X => str_index s 1 c X (by rw [e]; rfl)
  have i3 : ∀ X : World, (Instr.index 9 (.string s) (.int .i64 3)).run Tryd.prog X = .ok (.int .u8 d.toNat) X := fun X => str_index s 3 d X (by rw [e]; rfl)
  have i0 : ∀ X : World, (Instr.index 9 (.string s) (.int .i64 0)).run Tryd.prog X = .ok (.int .u8 a.toNat) X := fun X => str_index s 0 a X (by rw [e]; rfl)
  have i2 : ∀ X : World, (Instr.index 9 (.string s) (.int .i64 2)).run Tryd.prog X = .ok (.int .u8 b.toNat) X := fun X => str_index s 2 b X (by rw [e]; rfl)
  have hc' : (c.toNat : Int) = 58 := by rw [hc]; rfl
  have hd' : (d.toNat : Int) = 58 := by rw [hd]; rfl
  have la : ¬ ((a.toNat : Int) < 48) := by omega
  have ga : ¬ ((57 : Int) < a.toNat) := by omega
  have lb : ¬ ((b.toNat : Int) < 48) := by omega
  have gb : ¬ ((57 : Int) < b.toNat) := by omega
  obtain ⟨P, hP⟩ : ∃ P, (a.toNat : Int) - 48 = P := ⟨_, rfl⟩
  obtain ⟨K, hK⟩ : ∃ K, (b.toNat : Int) - 48 = K := ⟨_, rfl⟩
  have eP : undg a = P := hP
  have eK : undg b = K := hK
  rw [eP, eK]
  obtain ⟨M, hM⟩ : ∃ M, t.map undg = M := ⟨_, rfl⟩
  rw [hM]
  have HM := Lib.hid hM
  have hMl : M.length = t.length := by rw [← hM, List.length_map]
  have HMl := Lib.hid hMl
  have HP := Lib.hid hP
  have HK := Lib.hid hK
  clear h e hc hd hn hP hK eP eK hM hMl
  go_enter Tryd.func63, Tryd.ntmps63
  go_wp2_with (go_at_call 50; refine (l1In_any _ _ _ _).mono ?_; rw [hf]; rintro e w' ⟨rfl, rfl⟩)
  go_region
  obtain ⟨w1, hw1⟩ : ∃ w1, ((w.alloc (Obj.cells #[.int .i64 0, .int .i64 0, .slice none 0 0] 47)).alloc (Obj.cells #[.int .i64 P, .int .i64 K, .slice none 0 0] 47)).drew = w1 := ⟨_, rfl⟩
  simp only [HP.out, HK.out]
  rw [hw1]
  have x0 : w1.cell? ⟨w.heap.size, 0, none⟩ = some (.int .i64 0) := by rw [← hw1]; simp
  have x1 : w1.cell? ⟨w.heap.size, 1, none⟩ = some (.int .i64 0) := by rw [← hw1]; simp
  have x2 : w1.cell? ⟨w.heap.size, 2, none⟩ = some (.slice none 0 0) := by rw [← hw1]; simp
  have z0 : w1.frozen? ⟨w.heap.size, 0, none⟩ = false := by rw [← hw1]; simp
  have z1 : w1.frozen? ⟨w.heap.size, 1, none⟩ = false := by rw [← hw1]; simp
  have z2 : w1.frozen? ⟨w.heap.size, 2, none⟩ = false := by rw [← hw1]; simp
  have k1 : Below w.heap.size w w1 := by rw [← hw1]; exact (((Below.refl _ _).alloc (Nat.le_refl _) _).alloc (by simp) _).drew
  have s1 : w1.heap.size = w.heap.size + 1 + 1 := by rw [← hw1]; show (World.alloc _ _).heap.size = _; simp
  have rel0 : PBox (w.heap.size + 1) w1 w1 P K (w.heap.size + 1) (.slice none 0 0) ((t.take 0).map undg) := by
    refine ⟨Below.refl _ _, Nat.le_refl _, ?_, World.ownsRow_nil _ _ _ _⟩
    rw [← hw1]
    show (World.alloc _ _).heap[w.heap.size + 1]? = _
    have h2 := heap_alloc_new (w.alloc (Obj.cells #[.int .i64 0, .int .i64 0, .slice none 0 0] 47)) (Obj.cells #[.int .i64 P, .int .i64 K, .slice none 0 0] 47)
    rwa [World.size_alloc] at h2
  clear hw1 i0 i1 i2 i3 hc' hd' la ga lb gb ha hb hf
  go_wp2_with fail
  go_loopw [5] (fun i wr => ∃ (j : Nat) (v : Value), j ≤ t.length ∧ i = .int .i64 (4 + (j : Int)) ∧ (∀ x ∈ t.take j, isDg x) ∧ PBox (w.heap.size + 1) w1 wr P K (w.heap.size + 1) v ((t.take j).map undg)) (fun i _ => 4 + t.length - (intOf i).toNat)
  case atStart => exact ⟨0, _, Nat.zero_le _, rfl, fun x hx => by simp at hx, rel0⟩
  case round =>
    clear rel0
    obtain ⟨j, v, hj, rfl, hall, rel⟩ := hrel
    have gX := rel.below
    have kX : Below w.heap.size w wr := k1.trans (gX.mono (by omega))
    have hlen : ((t.take j).map undg).length ≤ 36 := by rw [List.length_map, List.length_take]; omega
    obtain ⟨L, hL⟩ : ∃ L, (t.take j).map undg = L := ⟨_, rfl⟩
    rw [hL] at rel hlen
    have HL := Lib.hid hL
    have Hall := Lib.hid hall
    clear hL hall
    have hGr := rel.lt
    obtain ⟨b0, b1, b2, bf⟩ := rel.cells
    have bf2 := bf 2
    have u0 := carry gX x0 (by omega)
    have u1 := carry gX x1 (by omega)
    have u2 := carry gX x2 (by omega)
    have v0 := (gX.frozen (p := ⟨w.heap.size, 0, none⟩) (by simp)).trans z0
    have v1 := (gX.frozen (p := ⟨w.heap.size, 1, none⟩) (by simp)).trans z1
    have v2 := (gX.frozen (p := ⟨w.heap.size, 2, none⟩) (by simp)).trans z2
    by_cases hlt : j < t.length
    · obtain ⟨y, hy⟩ := getSome t j hlt
      have hji : 4 + (j : Int) < (s.size : Int) := by rw [Hn.out]; omega
      have hix := Hidx.out j y hy
      have Hy := Lib.hid hy
      clear hy
      by_cases hdg : 48 ≤ y.toNat ∧ y.toNat ≤ 57
      · have ks : (wr.alloc (Obj.cells #[.int .i64 (IntKind.i64.wrap (IntKind.u8.wrap ((y.toNat : Int) - 48)))] 3)).drew.heap.size = wr.heap.size + 1 := by
          show (wr.alloc (Obj.cells #[.int .i64 (IntKind.i64.wrap (IntKind.u8.wrap ((y.toNat : Int) - 48)))] 3)).heap.size = wr.heap.size + 1
          simp
        have kb : Below wr.heap.size wr (wr.alloc (Obj.cells #[.int .i64 (IntKind.i64.wrap (IntKind.u8.wrap ((y.toNat : Int) - 48)))] 3)).drew := ((Below.refl _ _).alloc (Nat.le_refl _) _).drew
        have ownX := own_below rel.own kb (Nat.le_refl _)
        have kc : ∀ (j : Nat) (u : Value), ([.int .i64 (IntKind.i64.wrap (IntKind.u8.wrap ((y.toNat : Int) - 48)))] : List Value)[j]? = some u → (wr.alloc (Obj.cells #[.int .i64 (IntKind.i64.wrap (IntKind.u8.wrap ((y.toNat : Int) - 48)))] 3)).drew.cell? ((⟨wr.heap.size, 0, none⟩ : Addr).add j) = some u := by
          refine one_cell ?_
          show (wr.alloc (Obj.cells #[.int .i64 (IntKind.i64.wrap (IntKind.u8.wrap ((y.toNat : Int) - 48)))] 3)).cell? ⟨wr.heap.size, 0, none⟩ = _
          simp
        have kq : w.heap.size + 1 ≤ (wr.alloc (Obj.cells #[.int .i64 (IntKind.i64.wrap (IntKind.u8.wrap ((y.toNat : Int) - 48)))] 3)).drew.heap.size := by rw [ks]; omega
        have k63 : L.length + 1 ≤ maxLen := by unfold maxLen; omega
        have kby : (L.length + 1) * 8 ≤ 140737488355328 := by omega
        have kq1 : ∀ o : Obj, (wr.alloc o).cell? ⟨w.heap.size + 1, 2, none⟩ = some v := fun o => (World.cell?_alloc_lt wr _ _ hGr).trans b2
        have Hwr := Lib.hid (show IntKind.i64.wrap (IntKind.u8.wrap ((y.toNat : Int) - 48)) = undg y from wrap_dg hdg.1 hdg.2)
        have Rel := Lib.hid rel
        have Hdg := Lib.hid hdg
        have d0 : ¬ ((y.toNat : Int) < 48) := by omega
        have d1 : ¬ ((57 : Int) < y.toNat) := by omega
        have d2 : (48 : Int) ≤ y.toNat := by omega
        have d3 : (y.toNat : Int) ≤ 57 := by omega
        clear rel u0 u1 u2 v0 v1 v2 hdg b0 b1
        go_upto_region 9 with fail
        all_goals (try (exfalso; omega))
        go_region_law (first
          | (refine step_append_lies _ (by rfl) _ _ _ (by rfl) (w.heap.size + 1) 3 i0' _ 1 8 Tryd.underlying26 hi hz0 hz1 hz2 (by rfl) (by decide) v L.length (icells L) (by rfl) ownX ⟨wr.heap.size, 0, none⟩ 1 1 [.int .i64 (IntKind.i64.wrap (IntKind.u8.wrap ((y.toNat : Int) - 48)))] (by rfl) rfl kc (one_one rfl) (by decide) k63 kby kq (wr.heap.size + 1) ks ?_; intro g3 c3 w3 own3 gr3 hat3 hlt3; obtain ⟨mid, _, _⟩ := Rel.out.grown kb gr3; have q1 : w3.cell? ⟨w.heap.size + 1, 2, none⟩ = some v := (by rw [cell_of_row _ _ _ _ _ _ mid]; rfl); have q2 : w3.frozen? ⟨w.heap.size + 1, 2, none⟩ = false := frozen_of_row _ _ 2 _ _ mid; have rel3 := Rel.out.push kb gr3 own3; clear mid)
          | fail)
        all_goals (go_wp2_with fail)
        all_goals (go_roundw)
        all_goals first
          | exact ⟨j + 1, _, by omega, by go_num, fun x hx => by
              rw [List.take_add_one, Hy.out, Option.toList_some, List.mem_append, List.mem_singleton] at hx
              rcases hx with hx | rfl
              · exact Hall.out x hx
              · exact Hdg.out, by rw [List.take_add_one, Hy.out, Option.toList_some, List.map_append, List.map_singleton, HL.out, ← Hwr.out]; exact rel3⟩
          | (simp [intOf]; omega)
      · have Hdg := Lib.hid (show ∃ x ∈ t, ¬ isDg x from ⟨y, List.mem_of_getElem? Hy.out, hdg⟩)
        clear bf
        go_wp2_with fail
        all_goals first
          | (exfalso; omega)
          | (refine bodyPost_ret (v := .tuple #[.agg #[.int .i64 0, .int .i64 0, .slice none 0 0], .bool false]) (by simp [results, Tryd.results63, go_sem, u0, u1, u2]) rfl ?_
             exact .inr ⟨Hdg.out, rfl, ((kX.setCell (p := ⟨w.heap.size, 0, none⟩) (by simp) _).setCell (p := ⟨w.heap.size, 1, none⟩) (by simp) _).setCell (p := ⟨w.heap.size, 2, none⟩) (by simp) _⟩)
    · have hjl : j = t.length := by omega
      subst hjl
      have hge : ¬ (4 + (t.length : Int) < (s.size : Int)) := by rw [Hn.out]; omega
      have hLL := HL.out
      rw [List.take_length, HM.out] at hLL
      have hall := Hall.out
      rw [List.take_length] at hall
      subst hLL
      obtain ⟨A', c', rfl, _⟩ := own_shape rel.own
      have hl5 : M.length ≤ 1048576 := by rw [HMl.out]; omega
      have kD : Below wr.heap.size wr wr.drew := (Below.refl _ _).drew
      have rdX : CRead wr.drew wr.drew.heap.size A' (icells (M)) := CRead.of_own (own_below rel.own kD (Nat.le_refl _))
      have Rel := Lib.hid rel
      have Hall2 := Lib.hid hall
      have Call := Lib.hid (fun (X : World) (hR : CRead X X.heap.size A' (icells (M))) => ptGood_any P K (M) A' c' X hl5 hR)
      clear rel hall bf
      go_upto_region 10 with fail
      go_region_law (first
        | (go_simp; go_at_call 84; refine (Call.out _ rdX).mono ?_; rintro e w5 ⟨rfl, hb5⟩; have g5 : Below wr.heap.size wr w5 := kD.trans hb5; have e0 := carry g5 b0 hGr; have e1 := carry g5 b1 hGr; have e2 := carry g5 b2 hGr; have u5 := carry g5 u0 (by omega); have u6 := carry g5 u1 (by omega); have u7 := carry g5 u2 (by omega); have f5 := (g5.frozen (p := ⟨w.heap.size, 0, none⟩) (by simp; omega)).trans v0; have f6 := (g5.frozen (p := ⟨w.heap.size, 1, none⟩) (by simp; omega)).trans v1; have f7 := (g5.frozen (p := ⟨w.heap.size, 2, none⟩) (by simp; omega)).trans v2)
        | fail)
      all_goals (go_wp2_with fail)
      all_goals (refine bodyPost_ret (v := .tuple #[.agg #[.int .i64 P, .int .i64 K, .slice A' M.length c'], .bool (isX P K (M))]) (by simp [results, Tryd.results63, go_sem, u5, u6, u7]) rfl ?_)
      all_goals exact .inl ⟨Hall2.out, A', c', rfl, own_lower (ownsRow_setCell_below (ownsRow_setCell_below (ownsRow_setCell_below (own_below Rel.out.own g5 (Nat.le_refl _)) (a := ⟨w.heap.size, 0, none⟩) (by simp) _) (a := ⟨w.heap.size, 1, none⟩) (by simp) _) (a := ⟨w.heap.size, 2, none⟩) (by simp) _) (by omega),
        (((kX.trans (g5.mono kX.size)).setCell (p := ⟨w.heap.size, 0, none⟩) (by simp) _).setCell (p := ⟨w.heap.size, 1, none⟩) (by simp) _).setCell (p := ⟨w.heap.size, 2, none⟩) (by simp) _⟩
end Go.Proofs.YthpapkfpcijpoaaDoor
/-
  'ParsePainting': the model's, for every text.
-/
namespace Go.Proofs.YthpapkfpcijpoaaDoor
open Go.RowKit

/-- the model's reading of a text: the painting with its text, or false -/
theorem ptParse_any (s : ByteArray) (w : World) : Calls Tryd.prog 63 #[.string s] w fun e w' =>
    (isText s = true ∧ GotPaintOk w (pOf s.data.toList) (kOf s.data.toList) (lOf s.data.toList) true e w') ∨
    (isText s = false ∧ ∃ p k A n c, e = .returned (.tuple #[.agg #[.int .i64 p, .int .i64 k, .slice A n c], .bool false]) ∧ Below w.heap.size w w') := by
  have no : ∀ {Q : Ending → World → Prop}, isText s = false → (Q = fun e w' => e = .returned (.tuple #[.agg #[.int .i64 0, .int .i64 0, .slice none 0 0], .bool false]) ∧ Below w.heap.size w w') → Calls Tryd.prog 63 #[.string s] w Q → Calls Tryd.prog 63 #[.string s] w fun e w' =>
    (isText s = true ∧ GotPaintOk w (pOf s.data.toList) (kOf s.data.toList) (lOf s.data.toList) true e w') ∨
    (isText s = false ∧ ∃ p k A n c, e = .returned (.tuple #[.agg #[.int .i64 p, .int .i64 k, .slice A n c], .bool false]) ∧ Below w.heap.size w w') := by
    intro Q hf hQ h
    subst hQ
    exact h.mono fun e w' hh => .inr ⟨hf, 0, 0, none, 0, 0, hh.1, hh.2⟩
  have hsz : s.data.toList.length = s.size := Array.length_toList
  by_cases hlen : 4 ≤ (s.size : Int) ∧ (s.size : Int) ≤ 40
  rotate_left
  · refine no ?_ rfl (ptParse_long s w hlen)
    cases hi : isText s with
    | false => rfl
    | true =>
      obtain ⟨a, b, t, e, _, _, _, ht⟩ := form_of_text hi
      rw [e] at hsz
      simp only [List.length_cons] at hsz
      omega
  obtain ⟨a, c, b, d, t, e⟩ : ∃ a c b d t, s.data.toList = a :: c :: b :: d :: t := by
    match hl : s.data.toList with
    | a :: c :: b :: d :: t => exact ⟨a, c, b, d, t, rfl⟩
    | [] | [_] | [_, _] | [_, _, _] => rw [hl] at hsz; simp at hsz; omega
  have form : isText s = true → (c = 58 ∧ d = 58) ∧ isDg a ∧ isDg b ∧ ∀ x ∈ t, isDg x := fun hi => by
    obtain ⟨a', b', t', e', ha, hb, ht, _⟩ := form_of_text hi
    rw [e] at e'
    injection e' with q1 e'
    injection e' with q2 e'
    injection e' with q3 e'
    injection e' with q4 e'
    subst q1 q3 e'
    exact ⟨⟨q2, q4⟩, ha, hb, ht⟩
  have neg : ∀ {p : Prop}, (isText s = true → p) → ¬ p → isText s = false := fun h hn => by
    cases hi : isText s with
    | false => rfl
    | true => exact absurd (h hi) hn
  by_cases hc : c = 58
  rotate_left
  · exact no (neg (fun h => (form h).1.1) hc) rfl (ptParse_one s w a c b d t e hlen hc)
  by_cases hd : d = 58
  rotate_left
  · exact no (neg (fun h => (form h).1.2) hd) rfl (ptParse_three s w a c b d t e hlen hc hd)
  by_cases ha0 : a.toNat < 48
  · exact no (neg (fun h => (form h).2.1.1) (by omega)) rfl (ptParse_a0 s w a c b d t e hlen hc hd ha0)
  by_cases ha1 : 57 < a.toNat
  · exact no (neg (fun h => (form h).2.1.2) (by omega)) rfl (ptParse_a1 s w a c b d t e hlen hc hd ha1)
  have ha : 48 ≤ a.toNat ∧ a.toNat ≤ 57 := by omega
  by_cases hb0 : b.toNat < 48
  · exact no (neg (fun h => (form h).2.2.1.1) (by omega)) rfl (ptParse_b0 s w a c b d t e hlen hc hd ha hb0)
  by_cases hb1 : 57 < b.toNat
  · exact no (neg (fun h => (form h).2.2.1.2) (by omega)) rfl (ptParse_b1 s w a c b d t e hlen hc hd ha hb1)
  have hb : 48 ≤ b.toNat ∧ b.toNat ≤ 57 := by omega
  have e1 : pOf s.data.toList = undg a := by rw [e]; rfl
  have e2 : kOf s.data.toList = undg b := by rw [e]; rfl
  have e3 : lOf s.data.toList = t.map undg := by rw [e]; rfl
  refine (ptParse_form s w a c b d t e hlen hc hd ha hb).mono ?_
  rintro en w' (⟨hall, got⟩ | ⟨hbad, rfl, hb⟩)
  · subst hc hd
    have ht := text_of_form e ha hb hall
    have hi : isText s = isX (undg a) (undg b) (t.map undg) := by
      unfold isText
      rw [decide_eq_true ht, Bool.and_true, e1, e2, e3]
    cases hx : isX (undg a) (undg b) (t.map undg) with
    | true =>
      rw [hx] at got hi
      rw [e1, e2, e3]
      exact .inl ⟨hi, got⟩
    | false =>
      rw [hx] at got hi
      obtain ⟨A, c', r1, _, r3⟩ := got
      exact .inr ⟨hi, _, _, A, _, c', r1, r3⟩
  · obtain ⟨x, hx, hn⟩ := hbad
    exact .inr ⟨neg (fun h => (form h).2.2.2 x hx) hn, 0, 0, none, 0, 0, rfl, hb⟩
set_option maxHeartbeats 2000000 in
set_option maxRecDepth 100000 in
theorem specParsePainting_any (s : ByteArray) (w : World) :
    Calls Tryd.prog 30 #[.string s] w (GotPaintOk w (resParsePainting s).1 (resParsePainting s).2.1 (resParsePainting s).2.2.1 (resParsePainting s).2.2.2) := by
  obtain ⟨W, hW⟩ : ∃ W, w.alloc (Obj.cells #[.int .i64 0, .int .i64 0, .slice none 0 0] 47) = W := ⟨_, rfl⟩
  have a0 : W.cell? ⟨w.heap.size, 0, none⟩ = some (.int .i64 0) := by rw [← hW]; simp
  have a1 : W.cell? ⟨w.heap.size, 1, none⟩ = some (.int .i64 0) := by rw [← hW]; simp
  have a2 : W.cell? ⟨w.heap.size, 2, none⟩ = some (.slice none 0 0) := by rw [← hW]; simp
  have z0 : W.frozen? ⟨w.heap.size, 0, none⟩ = false := by rw [← hW]; simp
  have z1 : W.frozen? ⟨w.heap.size, 1, none⟩ = false := by rw [← hW]; simp
  have z2 : W.frozen? ⟨w.heap.size, 2, none⟩ = false := by rw [← hW]; simp
  have k0 : Below w.heap.size w W := by rw [← hW]; go_grown
  have s0 : w.heap.size < W.heap.size := by rw [← hW]; simp
  have HW := Lib.hid hW
  clear hW
  go_enter Tryd.func30, Tryd.ntmps30
  go_wp2_with fail
  rw [HW.out]
  refine (ptParse_any s W).mono ?_
  rintro e w1 (⟨hi, A, c, rfl, own, hb⟩ | ⟨hi, p, k, A, n, c, rfl, hb⟩)
  all_goals
    have k1 := k0.trans (hb.mono k0.size)
    have s1 : w.heap.size < w1.heap.size := Nat.lt_of_lt_of_le s0 hb.size
    have b0 := carry hb a0 s0
    have b1 := carry hb a1 s0
    have b2 := carry hb a2 s0
    have y0 := (hb.frozen (p := ⟨w.heap.size, 0, none⟩) s0).trans z0
    have y1 := (hb.frozen (p := ⟨w.heap.size, 1, none⟩) s0).trans z1
    have y2 := (hb.frozen (p := ⟨w.heap.size, 2, none⟩) s0).trans z2
    clear a0 a1 a2 z0 z1 z2
  · have e : resParsePainting s = (pOf s.data.toList, kOf s.data.toList, lOf s.data.toList, true) := by simp [resParsePainting, hi]
    obtain ⟨p, hp⟩ : ∃ p, pOf s.data.toList = p := ⟨_, rfl⟩
    obtain ⟨k, hk⟩ : ∃ k, kOf s.data.toList = k := ⟨_, rfl⟩
    obtain ⟨l, hl⟩ : ∃ l, lOf s.data.toList = l := ⟨_, rfl⟩
    rw [hp, hk, hl] at e
    simp only [hp, hk, hl] at own ⊢
    have Own := Lib.hid own
    have He := Lib.hid e
    have hal : ∀ (X : World) (o : Obj) (j : Nat), X.heap.size = w1.heap.size → (X.alloc o).cell? ⟨w.heap.size, j, none⟩ = X.cell? ⟨w.heap.size, j, none⟩ := fun X o j hX => World.cell?_alloc_lt _ _ _ (by show w.heap.size < _; omega)
    have Hal := Lib.hid hal
    clear own hp hk hl e hi hb hal
    go_wp2
    rw [He.out]
    refine bodyPost_ret (v := .tuple #[.agg #[.int .i64 p, .int .i64 k, .slice A l.length c], .bool true]) (by simp [results, Tryd.results30, go_sem, Hal.out, b0, b1, b2]) rfl ?_
    exact ⟨A, c, rfl, own_lower ((ownsRow_setCell_below (ownsRow_setCell_below (ownsRow_setCell_below Own.out (a := ⟨w.heap.size, 0, none⟩) s0 _) (a := ⟨w.heap.size, 1, none⟩) s0 _) (a := ⟨w.heap.size, 2, none⟩) s0 _).alloc _) (Nat.le_of_lt s0),
      (((k1.setCell (p := ⟨w.heap.size, 0, none⟩) (by simp) _).setCell (p := ⟨w.heap.size, 1, none⟩) (by simp) _).setCell (p := ⟨w.heap.size, 2, none⟩) (by simp) _).alloc (by simp; omega) _⟩
  · have e : resParsePainting s = (0, 0, [], false) := by simp [resParsePainting, hi]
    have hal : ∀ (X : World) (o : Obj) (j : Nat), X.heap.size = w1.heap.size → (X.alloc o).cell? ⟨w.heap.size, j, none⟩ = X.cell? ⟨w.heap.size, j, none⟩ := fun X o j hX => World.cell?_alloc_lt _ _ _ (by show w.heap.size < _; omega)
    have Hal := Lib.hid hal
    have He := Lib.hid e
    clear hb e hi hal
    go_wp2
    rw [He.out]
    refine bodyPost_ret (v := .tuple #[.agg #[.int .i64 0, .int .i64 0, .slice none 0 0], .bool false]) (by simp [results, Tryd.results30, go_sem, Hal.out, b0, b1, b2]) rfl ?_
    exact ⟨none, 0, rfl, World.ownsRow_nil _ _ _ _, (((k1.setCell (p := ⟨w.heap.size, 0, none⟩) (by simp) _).setCell (p := ⟨w.heap.size, 1, none⟩) (by simp) _).setCell (p := ⟨w.heap.size, 2, none⟩) (by simp) _).alloc (by simp; omega) _⟩
end Go.Proofs.YthpapkfpcijpoaaDoor
/-
  DERIVED: THE SHELF's CONTRACTS AT THIS DUMP, IN PLAIN WORDS (tools/lay-plain.mjs out of 'YthpapkfpcijpoaaDoorShelfHomeC.lean', which tools/lay-shelf.mjs wrote): THE SAME DECLARATIONS UNDER THE SAME NAMES: 'import', 'namespace', 'open', 'def', 'theorem' AND NOTHING ELSE: no command of the shelf's: FOR A HAND-IN. Each laying: the table of numbers ('.._ren') and one theorem, a field a fact of the dump's own or the kernel's comparison; each contract: ONE APPLICATION.
-/
namespace Go.Proofs
open Go.Shelf
def Tryd.cutL_ren : Go.Shelf.Ren := ⟨fun | 145 => 85 | 220 => 98 | 219 => 109 | 217 => 122 | 225 => 123 | 224 => 124 | 267 => 125 | 266 => 134 | 314 => 135 | n => n, fun | 9 => 9 | 4 => 4 | 59 => 112 | 3 => 3 | 5 => 5 | 46 => 127 | 146 => 163 | 51 => 126 | n => n, fun | 1 => 1 | n => n⟩
theorem Tryd.cutL : Go.Proofs.Lays.n145 Tryd.prog Tryd.cutL_ren := {
  mixed := by kernel_rfl
  f145 := Tryd.func85.trans (congrArg some (by kernel_rfl))
  f217 := Tryd.func122.trans (congrArg some (by kernel_rfl))
  f219 := Tryd.func109.trans (congrArg some (by kernel_rfl))
  f220 := Tryd.func98.trans (congrArg some (by kernel_rfl))
  f224 := Tryd.func124.trans (congrArg some (by kernel_rfl))
  f225 := Tryd.func123.trans (congrArg some (by kernel_rfl))
  f266 := Tryd.func134.trans (congrArg some (by kernel_rfl))
  f267 := Tryd.func125.trans (congrArg some (by kernel_rfl))
  f314 := Tryd.func135.trans (congrArg some (by kernel_rfl))
  t3 := Tryd.underlying3
  a3 := Tryd.isAgg3
  z3 := Tryd.sizeOf3
  v3 := Tryd.zeroValue3
  t4 := Tryd.underlying4
  a4 := Tryd.isAgg4
  z4 := Tryd.sizeOf4
  v4 := Tryd.zeroValue4
  t5 := Tryd.underlying5
  a5 := Tryd.isAgg5
  z5 := Tryd.sizeOf5
  v5 := Tryd.zeroValue5
  t9 := Tryd.underlying9
  a9 := Tryd.isAgg9
  z9 := Tryd.sizeOf9
  v9 := Tryd.zeroValue9
  t46 := Tryd.underlying127
  a46 := Tryd.isAgg127
  z46 := Tryd.sizeOf127
  v46 := Tryd.zeroValue127
  t51 := Tryd.underlying126
  a51 := Tryd.isAgg126
  z51 := Tryd.sizeOf126
  v51 := Tryd.zeroValue126
  t59 := Tryd.underlying112
  a59 := Tryd.isAgg112
  z59 := Tryd.sizeOf112
  v59 := Tryd.zeroValue112
  t146 := Tryd.underlying163
  a146 := Tryd.isAgg163
  z146 := Tryd.sizeOf163
  v146 := Tryd.zeroValue163
  g1 := by kernel_rfl }
def Tryd.atoiL_ren : Go.Shelf.Ren := ⟨fun | 172 => 86 | 244 => 99 | 245 => 100 | 247 => 110 | 279 => 111 | 280 => 112 | 281 => 113 | 282 => 114 | 287 => 126 | 316 => 127 | 171 => 67 | 205 => 128 | 321 => 136 | 322 => 137 | 243 => 89 | 246 => 105 | 283 => 116 | 284 => 117 | 285 => 118 | 286 => 119 | 129 => 130 | 317 => 129 | 318 => 131 | 319 => 132 | 320 => 133 | 337 => 138 | 338 => 139 | n => n, fun | 9 => 9 | 3 => 3 | 75 => 115 | 76 => 116 | 4 => 4 | 5 => 5 | 167 => 135 | 37 => 118 | 0 => 0 | 85 => 136 | 2 => 2 | 168 => 138 | 53 => 143 | 175 => 153 | 46 => 127 | 210 => 157 | 127 => 133 | 145 => 168 | 143 => 166 | 21 => 21 | 171 => 142 | 173 => 146 | 212 => 160 | 51 => 126 | 20 => 20 | 213 => 161 | 232 => 125 | 233 => 170 | 80 => 123 | n => n, fun | 15 => 2 | 16 => 3 | 17 => 4 | 18 => 0 | 19 => 5 | n => n⟩
theorem Tryd.atoiL : Go.Proofs.LaysC.n172 Tryd.prog Tryd.atoiL_ren := {
  mixed := by kernel_rfl
  f129 := Tryd.func130.trans (congrArg some (by kernel_rfl))
  f171 := Tryd.func67.trans (congrArg some (by kernel_rfl))
  f172 := Tryd.func86.trans (congrArg some (by kernel_rfl))
  f205 := Tryd.func128.trans (congrArg some (by kernel_rfl))
  f243 := Tryd.func89.trans (congrArg some (by kernel_rfl))
  f244 := Tryd.func99.trans (congrArg some (by kernel_rfl))
  f245 := Tryd.func100.trans (congrArg some (by kernel_rfl))
  f246 := Tryd.func105.trans (congrArg some (by kernel_rfl))
  f247 := Tryd.func110.trans (congrArg some (by kernel_rfl))
  f279 := Tryd.func111.trans (congrArg some (by kernel_rfl))
  f280 := Tryd.func112.trans (congrArg some (by kernel_rfl))
  f281 := Tryd.func113.trans (congrArg some (by kernel_rfl))
  f282 := Tryd.func114.trans (congrArg some (by kernel_rfl))
  f283 := Tryd.func116.trans (congrArg some (by kernel_rfl))
  f284 := Tryd.func117.trans (congrArg some (by kernel_rfl))
  f285 := Tryd.func118.trans (congrArg some (by kernel_rfl))
  f286 := Tryd.func119.trans (congrArg some (by kernel_rfl))
  f287 := Tryd.func126.trans (congrArg some (by kernel_rfl))
  f316 := Tryd.func127.trans (congrArg some (by kernel_rfl))
  f317 := Tryd.func129.trans (congrArg some (by kernel_rfl))
  f318 := Tryd.func131.trans (congrArg some (by kernel_rfl))
  f319 := Tryd.func132.trans (congrArg some (by kernel_rfl))
  f320 := Tryd.func133.trans (congrArg some (by kernel_rfl))
  f321 := Tryd.func136.trans (congrArg some (by kernel_rfl))
  f322 := Tryd.func137.trans (congrArg some (by kernel_rfl))
  f337 := Tryd.func138.trans (congrArg some (by kernel_rfl))
  f338 := Tryd.func139.trans (congrArg some (by kernel_rfl))
  t0 := Tryd.underlying0
  a0 := Tryd.isAgg0
  z0 := Tryd.sizeOf0
  v0 := Tryd.zeroValue0
  t2 := Tryd.underlying2
  a2 := Tryd.isAgg2
  z2 := Tryd.sizeOf2
  v2 := Tryd.zeroValue2
  t3 := Tryd.underlying3
  a3 := Tryd.isAgg3
  z3 := Tryd.sizeOf3
  v3 := Tryd.zeroValue3
  t4 := Tryd.underlying4
  a4 := Tryd.isAgg4
  z4 := Tryd.sizeOf4
  v4 := Tryd.zeroValue4
  t5 := Tryd.underlying5
  a5 := Tryd.isAgg5
  z5 := Tryd.sizeOf5
  v5 := Tryd.zeroValue5
  t9 := Tryd.underlying9
  a9 := Tryd.isAgg9
  z9 := Tryd.sizeOf9
  v9 := Tryd.zeroValue9
  t20 := Tryd.underlying20
  a20 := Tryd.isAgg20
  z20 := Tryd.sizeOf20
  v20 := Tryd.zeroValue20
  t21 := Tryd.underlying21
  a21 := Tryd.isAgg21
  z21 := Tryd.sizeOf21
  v21 := Tryd.zeroValue21
  t37 := Tryd.underlying118
  a37 := Tryd.isAgg118
  z37 := Tryd.sizeOf118
  v37 := Tryd.zeroValue118
  t46 := Tryd.underlying127
  a46 := Tryd.isAgg127
  z46 := Tryd.sizeOf127
  v46 := Tryd.zeroValue127
  t51 := Tryd.underlying126
  a51 := Tryd.isAgg126
  z51 := Tryd.sizeOf126
  v51 := Tryd.zeroValue126
  t53 := Tryd.underlying143
  a53 := Tryd.isAgg143
  z53 := Tryd.sizeOf143
  v53 := Tryd.zeroValue143
  t75 := Tryd.underlying115
  a75 := Tryd.isAgg115
  z75 := Tryd.sizeOf115
  v75 := Tryd.zeroValue115
  t76 := Tryd.underlying116
  a76 := Tryd.isAgg116
  z76 := Tryd.sizeOf116
  v76 := Tryd.zeroValue116
  t85 := Tryd.underlying136
  a85 := Tryd.isAgg136
  z85 := Tryd.sizeOf136
  v85 := Tryd.zeroValue136
  t127 := Tryd.underlying133
  a127 := Tryd.isAgg133
  z127 := Tryd.sizeOf133
  v127 := Tryd.zeroValue133
  t143 := Tryd.underlying166
  a143 := Tryd.isAgg166
  z143 := Tryd.sizeOf166
  v143 := Tryd.zeroValue166
  t145 := Tryd.underlying168
  a145 := Tryd.isAgg168
  z145 := Tryd.sizeOf168
  v145 := Tryd.zeroValue168
  t167 := Tryd.underlying135
  a167 := Tryd.isAgg135
  z167 := Tryd.sizeOf135
  v167 := Tryd.zeroValue135
  t168 := Tryd.underlying138
  a168 := Tryd.isAgg138
  z168 := Tryd.sizeOf138
  v168 := Tryd.zeroValue138
  t171 := Tryd.underlying142
  a171 := Tryd.isAgg142
  z171 := Tryd.sizeOf142
  v171 := Tryd.zeroValue142
  t173 := Tryd.underlying146
  a173 := Tryd.isAgg146
  z173 := Tryd.sizeOf146
  v173 := Tryd.zeroValue146
  t175 := Tryd.underlying153
  a175 := Tryd.isAgg153
  z175 := Tryd.sizeOf153
  v175 := Tryd.zeroValue153
  t210 := Tryd.underlying157
  a210 := Tryd.isAgg157
  z210 := Tryd.sizeOf157
  v210 := Tryd.zeroValue157
  t212 := Tryd.underlying160
  a212 := Tryd.isAgg160
  z212 := Tryd.sizeOf160
  v212 := Tryd.zeroValue160
  t213 := Tryd.underlying161
  a213 := Tryd.isAgg161
  z213 := Tryd.sizeOf161
  t232 := Tryd.underlying125
  a232 := Tryd.isAgg125
  z232 := Tryd.sizeOf125
  v232 := Tryd.zeroValue125
  t233 := Tryd.underlying170
  a233 := Tryd.isAgg170
  z233 := Tryd.sizeOf170
  v233 := Tryd.zeroValue170
  g15 := by kernel_rfl
  g16 := by kernel_rfl
  g17 := by kernel_rfl
  g18 := by kernel_rfl
  g19 := by kernel_rfl
  t80 := Tryd.underlying123
  a80 := Tryd.isAgg123
  z80 := Tryd.sizeOf123
  v80 := Tryd.zeroValue123
  i0 := by kernel_rfl
  i2 := by kernel_rfl
  i3 := by kernel_rfl
  i4 := by kernel_rfl
  i5 := by kernel_rfl
  i9 := by kernel_rfl
  i20 := by kernel_rfl
  i21 := by kernel_rfl
  i37 := by kernel_rfl
  i46 := by kernel_rfl
  i51 := by kernel_rfl
  i53 := by kernel_rfl
  i75 := by kernel_rfl
  i76 := by kernel_rfl
  i80 := by kernel_rfl
  i85 := by kernel_rfl
  i127 := by kernel_rfl
  i143 := by kernel_rfl
  i145 := by kernel_rfl
  i167 := by kernel_rfl
  i168 := by kernel_rfl
  i171 := by kernel_rfl
  i173 := by kernel_rfl
  i175 := by kernel_rfl
  i210 := by kernel_rfl
  i212 := by kernel_rfl
  i232 := by kernel_rfl
  i233 := by kernel_rfl
  m15 := by kernel_rfl
  m16 := by kernel_rfl
  m17 := by kernel_rfl
  m18 := by kernel_rfl
  m19 := by kernel_rfl
  c0 := by kernel_rfl
  c2 := by kernel_rfl
  c3 := by kernel_rfl
  c4 := by kernel_rfl
  c5 := by kernel_rfl
  c9 := by kernel_rfl
  c20 := by kernel_rfl
  c21 := by kernel_rfl
  c37 := by kernel_rfl
  c46 := by kernel_rfl
  c51 := by kernel_rfl
  c53 := by kernel_rfl
  c75 := by kernel_rfl
  c76 := by kernel_rfl
  c80 := by kernel_rfl
  c85 := by kernel_rfl
  c127 := by kernel_rfl
  c143 := by kernel_rfl
  c145 := by kernel_rfl
  c167 := by kernel_rfl
  c168 := by kernel_rfl
  c171 := by kernel_rfl
  c173 := by kernel_rfl
  c175 := by kernel_rfl
  c210 := by kernel_rfl
  c212 := by kernel_rfl
  c213 := by kernel_rfl
  c232 := by kernel_rfl
  c233 := by kernel_rfl }
end Go.Proofs
/-
  'ParsePainting', the program's, pure: what Cut and Atoi make of a painting's text.
-/
namespace Go.Proofs.YthpapkfpcijpoaaDoor

theorem atoi_dg {x : Int} (h0 : 0 ≤ x) (h1 : x ≤ 9) : Lib.atoiAll [dg x] = .ok x := by
  have all : ∀ i : Nat, i ≤ 9 → Lib.atoiAll [dg (i : Int)] = .ok (i : Int) := fun i hi =>
    match i, hi with
    | 0, _ => rfl
    | 1, _ => rfl
    | 2, _ => rfl
    | 3, _ => rfl
    | 4, _ => rfl
    | 5, _ => rfl
    | 6, _ => rfl
    | 7, _ => rfl
    | 8, _ => rfl
    | 9, _ => rfl
  have := all x.toNat (by omega)
  rwa [show ((x.toNat : Nat) : Int) = x from by omega] at this
theorem dg_ne {x : Int} (h0 : 0 ≤ x) (h1 : x ≤ 9) : dg x ≠ 58 := fun h => by
  have h2 := dg_nat h0 h1
  rw [h] at h2
  have h3 : (58 : UInt8).toNat = 58 := rfl
  omega
theorem cut_dg {a : UInt8} (h : a ≠ 58) (t : List UInt8) : Lib.cut (a :: 58 :: t) [58] = ([a], t, true) := by
  have e : Lib.index (a :: 58 :: t) [58] = 1 := by simp [Lib.index, Ne.symm h]
  simp [Lib.cut, e]
/-- the three parts of a painting's text -/
theorem cut_text {p k : Int} {l : List Int} (h : isX p k l = true) : Lib.cut (textT p k l).data.toList [58] = ([dg p], dg k :: 58 :: l.map dg, true) ∧ Lib.cut (dg k :: 58 :: l.map dg) [58] = ([dg k], l.map dg, true) := by
  obtain ⟨⟨hp0, hp1⟩, ⟨hk0, hk1⟩, _⟩ := isX_parts h
  rw [textT_list]
  exact ⟨cut_dg (dg_ne hp0 (by omega)) _, cut_dg (dg_ne (by omega) (by omega)) _⟩
end Go.Proofs.YthpapkfpcijpoaaDoor
/-
  'ParsePainting', the program's: strings.Cut and strconv.Atoi at every string, by the shelf's contracts.
-/
namespace Go.Proofs.YthpapkfpcijpoaaDoor
open Go.RowKit

theorem below_drawnN {B : Nat} {a w : World} (h : Below B a w) (n : Nat) : Below B a (w.drewN n) := h.trans ⟨rfl, rfl, rfl, Nat.le_refl _, fun _ _ => rfl⟩
/-- what Cut and Atoi read of the library's variables -/
structure LibW (w : World) : Prop where
  m : ∃ m : Int, w.cell? ⟨Tryd.cutL_ren.g 1, 0, none⟩ = some (.int .i64 m)
  e0 : ∃ ev, w.cell? ⟨Tryd.atoiL_ren.g 15, 0, none⟩ = some ev ∧ (ev = .nilIface ∨ ∃ te pe, ev = .iface te pe)
  e1 : ∃ ev, w.cell? ⟨Tryd.atoiL_ren.g 16, 0, none⟩ = some ev ∧ (ev = .nilIface ∨ ∃ te pe, ev = .iface te pe)
  pos : 5 < w.heap.size
theorem LibW.below {w w' : World} (h : LibW w) (hb : Below w.heap.size w w') : LibW w' := by
  have hp := h.pos
  obtain ⟨⟨m, hm⟩, ⟨e0, h0, t0⟩, ⟨e1, h1, t1⟩, _⟩ := h
  exact ⟨⟨m, carry hb hm (Nat.lt_trans (by decide) hp)⟩, ⟨e0, carry hb h0 (Nat.lt_trans (by decide) hp), t0⟩, ⟨e1, carry hb h1 (Nat.lt_trans (by decide) hp), t1⟩, Nat.lt_of_lt_of_le hp hb.size⟩
theorem cut_any (s sep : ByteArray) (w : World) (hs : s.size ≤ 1048576) (hw : LibW w) : Calls Tryd.prog 85 #[.string s, .string sep] w fun e w' =>
    e = .returned (.tuple #[.string ⟨(Lib.cut s.data.toList sep.data.toList).1.toArray⟩, .string ⟨(Lib.cut s.data.toList sep.data.toList).2.1.toArray⟩, .bool (Lib.cut s.data.toList sep.data.toList).2.2]) ∧ Below w.heap.size w w' := by
  obtain ⟨m, hm⟩ := hw.m
  refine (Any.strings_Cut Tryd.cutL s sep m w (by omega) hm).mono ?_
  rintro e w' ⟨rfl, n, rfl⟩
  exact ⟨rfl, below_drawnN (Below.refl _ _) n⟩
theorem atoi_any (s : ByteArray) (w : World) (hs : s.size ≤ 1048576) (hw : LibW w) : Calls Tryd.prog 86 #[.string s] w fun e w' =>
    ∃ (v : Int) (x : Value), e = .returned (.tuple #[.int .i64 v, x]) ∧ (∀ u, Lib.atoiAll s.data.toList = .ok u → v = u) ∧ Below w.heap.size w w' := by
  cases h : Lib.atoiAll s.data.toList with
  | ok v =>
    refine (Any.strconv_Atoi_ok Tryd.atoiL s (by omega) v h w).mono ?_
    rintro e w' ⟨rfl, hw'⟩
    refine ⟨v, _, rfl, fun u hu => by injection hu, ?_⟩
    rcases hw' with rfl | ⟨t, rfl⟩
    · exact Below.refl _ _
    · exact Lib.bytesWorld_below _ _ _
  | «syntax» =>
    obtain ⟨ev, hv, ht⟩ := hw.e0
    refine (Any.strconv_Atoi_syntax Tryd.atoiL s (by omega) h ev w hv ht).mono ?_
    rintro e w' ⟨N, rfl, _, _, hb⟩
    exact ⟨_, _, rfl, (fun u hu => by cases hu), hb⟩
  | range =>
    obtain ⟨ev, hv, ht⟩ := hw.e1
    refine (Any.strconv_Atoi_range Tryd.atoiL s (by omega) h ev w hv ht).mono ?_
    rintro e w' ⟨N, rfl, _, _, hb⟩
    exact ⟨_, _, rfl, (fun u hu => by cases hu), hb⟩
end Go.Proofs.YthpapkfpcijpoaaDoor
/-
  'ParsePainting': the program's loose reading of a text.
-/
namespace Go.Proofs.YthpapkfpcijpoaaDoor
open Go.RowKit

theorem cut_size (l sep : List UInt8) : (Lib.cut l sep).1.length ≤ l.length ∧ (Lib.cut l sep).2.1.length ≤ l.length := by
  unfold Lib.cut
  split
  · exact ⟨by rw [List.length_take]; omega, by rw [List.length_drop]; omega⟩
  · exact ⟨Nat.le_refl _, Nat.zero_le _⟩
def restOf (s : ByteArray) : List UInt8 := (Lib.cut s.data.toList [58]).2.1
def digitsOf (s : ByteArray) : List UInt8 := (Lib.cut (restOf s) [58]).2.1
theorem digitsOf_len (s : ByteArray) : (digitsOf s).length ≤ s.size := by
  have h1 := (cut_size s.data.toList [58]).2
  have h2 := (cut_size (restOf s) [58]).2
  have h3 : s.data.toList.length = s.size := Array.length_toList
  unfold digitsOf restOf at *
  omega
theorem wrap_dg2 (y : UInt8) : IntKind.i64.wrap (IntKind.i64.wrap (y.toNat : Int) - 48) = undg y := by
  have h := y.toNat_lt
  unfold undg
  rw [IntKind.wrap_i64, IntKind.wrap_i64]
  omega
set_option maxHeartbeats 4000000 in
set_option maxRecDepth 100000 in
theorem readPainting_any (s : ByteArray) (w : World) (hs : s.size ≤ 1048576) (hw : LibW w) : Calls Tryd.prog 64 #[.string s] w fun e w' =>
    ∃ (p k : Int), GotPaint w p k ((digitsOf s).map undg) e w' ∧ (∀ u, Lib.atoiAll (Lib.cut s.data.toList [58]).1 = .ok u → p = u) ∧ (∀ u, Lib.atoiAll (Lib.cut (restOf s) [58]).1 = .ok u → k = u) := by
  obtain ⟨i0', hi, hz0, hz1, hz2⟩ := info_parts Tryd.infoInt
  have h3 : s.data.toList.length = s.size := Array.length_toList
  have n1 := cut_size s.data.toList [58]
  have n2 := cut_size (restOf s) [58]
  have n3 : (restOf s).length ≤ 1048576 := by unfold restOf; omega
  obtain ⟨W, hW⟩ : ∃ W, w.alloc (Obj.cells #[.int .i64 0, .int .i64 0, .slice none 0 0] 47) = W := ⟨_, rfl⟩
  have a0 : W.cell? ⟨w.heap.size, 0, none⟩ = some (.int .i64 0) := by rw [← hW]; simp
  have a1 : W.cell? ⟨w.heap.size, 1, none⟩ = some (.int .i64 0) := by rw [← hW]; simp
  have a2 : W.cell? ⟨w.heap.size, 2, none⟩ = some (.slice none 0 0) := by rw [← hW]; simp
  have z0 : W.frozen? ⟨w.heap.size, 0, none⟩ = false := by rw [← hW]; simp
  have z1 : W.frozen? ⟨w.heap.size, 1, none⟩ = false := by rw [← hW]; simp
  have z2 : W.frozen? ⟨w.heap.size, 2, none⟩ = false := by rw [← hW]; simp
  have k0 : Below w.heap.size w W := by rw [← hW]; go_grown
  have s0 : w.heap.size < W.heap.size := by rw [← hW]; simp
  have L0 := Lib.hid (hw.below k0)
  have c1 := fun (X : World) (hX : LibW X) => cut_any s ⟨#[58]⟩ X hs hX
  have c2 := fun (X : World) (hX : LibW X) => cut_any ⟨(restOf s).toArray⟩ ⟨#[58]⟩ X n3 hX
  have t1 := fun (X : World) (hX : LibW X) => atoi_any ⟨(Lib.cut s.data.toList [58]).1.toArray⟩ X (by show (Lib.cut s.data.toList [58]).1.length ≤ _; omega) hX
  have t2 := fun (X : World) (hX : LibW X) => atoi_any ⟨(Lib.cut (restOf s) [58]).1.toArray⟩ X (by show (Lib.cut (restOf s) [58]).1.length ≤ _; omega) hX
  obtain ⟨D, hD⟩ : ∃ D, digitsOf s = D := ⟨_, rfl⟩
  have hDl := digitsOf_len s
  change ∀ X, LibW X → Calls _ _ _ X fun e w' => e = .returned (.tuple #[.string ⟨(Lib.cut s.data.toList [58]).1.toArray⟩, .string ⟨(restOf s).toArray⟩, .bool (Lib.cut s.data.toList [58]).2.2]) ∧ _ at c1
  change ∀ X, LibW X → Calls _ _ _ X fun e w' => e = .returned (.tuple #[.string ⟨(Lib.cut (restOf s) [58]).1.toArray⟩, .string ⟨(digitsOf s).toArray⟩, .bool (Lib.cut (restOf s) [58]).2.2]) ∧ _ at c2
  change ∀ X, LibW X → Calls _ _ _ X fun e w' => ∃ v x, _ ∧ (∀ u, Lib.atoiAll (Lib.cut s.data.toList [58]).1 = .ok u → v = u) ∧ _ at t1
  change ∀ X, LibW X → Calls _ _ _ X fun e w' => ∃ v x, _ ∧ (∀ u, Lib.atoiAll (Lib.cut (restOf s) [58]).1 = .ok u → v = u) ∧ _ at t2
  obtain ⟨P1, hP1⟩ : ∃ P1, (Lib.cut s.data.toList [58]).1 = P1 := ⟨_, rfl⟩
  obtain ⟨R, hR⟩ : ∃ R, restOf s = R := ⟨_, rfl⟩
  obtain ⟨P2, hP2⟩ : ∃ P2, (Lib.cut R [58]).1 = P2 := ⟨_, rfl⟩
  obtain ⟨B1, hB1⟩ : ∃ B1, (Lib.cut s.data.toList [58]).2.2 = B1 := ⟨_, rfl⟩
  obtain ⟨B2, hB2⟩ : ∃ B2, (Lib.cut R [58]).2.2 = B2 := ⟨_, rfl⟩
  simp only [hD, hP1, hP2, hR, hB1, hB2] at c1 c2 t1 t2 hDl ⊢
  have C1 := Lib.hid c1
  have C2 := Lib.hid c2
  have T1 := Lib.hid t1
  have T2 := Lib.hid t2
  have HDl := Lib.hid hDl
  have Hs := Lib.hid hs
  have HW := Lib.hid hW
  clear c1 c2 t1 t2 n1 n2 n3 h3 hD hP1 hP2 hR hB1 hB2 hW hDl hs
  go_enter Tryd.func64, Tryd.ntmps64
  go_wp2_with fail
  rw [HW.out]
  refine (C1.out _ L0.out).mono ?_
  rintro e w1 ⟨rfl, hb1⟩
  have k1 := k0.trans (hb1.mono k0.size)
  have L1 := Lib.hid (L0.out.below hb1)
  go_wp2_with fail
  refine (C2.out _ L1.out).mono ?_
  rintro e w2 ⟨rfl, hb2⟩
  have k2 := k1.trans (hb2.mono k1.size)
  have b12 := hb1.trans (hb2.mono hb1.size)
  have x0 := carry b12 a0 s0
  have x1 := carry b12 a1 s0
  have x2 := carry b12 a2 s0
  have y0 := (b12.frozen (p := ⟨w.heap.size, 0, none⟩) s0).trans z0
  have y1 := (b12.frozen (p := ⟨w.heap.size, 1, none⟩) s0).trans z1
  have y2 := (b12.frozen (p := ⟨w.heap.size, 2, none⟩) s0).trans z2
  have s2 : w.heap.size < w2.heap.size := Nat.lt_of_lt_of_le s0 b12.size
  have L2 := Lib.hid (L1.out.below hb2)
  clear a0 a1 a2 z0 z1 z2 hb1 hb2 b12
  go_wp2_with fail
  obtain ⟨X0, hX0⟩ : ∃ X0, w2.alloc (Obj.cells #[.int .i64 0, .int .i64 0, .slice none 0 0] 47) = X0 := ⟨_, rfl⟩
  have q0 : X0.heap[w2.heap.size]? = some (Obj.cells #[.int .i64 0, .int .i64 0, .slice none 0 0] 47 (0, 0)) := by rw [← hX0]; exact heap_alloc_new w2 _
  have kX0 : Below w2.heap.size w2 X0 := by rw [← hX0]; exact (Below.refl _ _).alloc (Nat.le_refl _) _
  have sX0 : w2.heap.size < X0.heap.size := by rw [← hX0]; simp
  rw [hX0]
  refine (T1.out _ (L2.out.below kX0)).mono ?_
  rintro e w3 ⟨p, ex1, rfl, hp, hb3⟩
  have k3 := kX0.trans (hb3.mono kX0.size)
  have q3 := (hb3.block _ sX0).trans q0
  have s3 : w2.heap.size < w3.heap.size := Nat.lt_of_lt_of_le sX0 hb3.size
  have b30 : w3.cell? ⟨w2.heap.size, 0, none⟩ = some (.int .i64 0) := by rw [cell_of_row _ _ _ _ _ _ q3]; rfl
  have f30 := frozen_of_row w3 w2.heap.size 0 _ _ q3
  clear hX0 q0 sX0 hb3
  go_wp2_with fail
  obtain ⟨X3, hX3⟩ : ∃ X3, w3.setCell ⟨w2.heap.size, 0, none⟩ (.int .i64 p) = X3 := ⟨_, rfl⟩
  have r3 : X3.heap[w2.heap.size]? = some (Obj.cells #[.int .i64 p, .int .i64 0, .slice none 0 0] 47 (0, 0)) := by rw [← hX3]; exact heap_setCell_same w3 w2.heap.size 0 _ _ _ q3
  have kX3 : Below w2.heap.size w2 X3 := by rw [← hX3]; exact k3.setCell (p := ⟨w2.heap.size, 0, none⟩) (Nat.le_refl _) _
  have sX3 : w2.heap.size < X3.heap.size := by rw [← hX3]; simpa using s3
  rw [hX3]
  refine (T2.out _ (L2.out.below kX3)).mono ?_
  rintro e w4 ⟨k, ex2, rfl, hk, hb4⟩
  have k4 := kX3.trans (hb4.mono kX3.size)
  have q4 := (hb4.block _ sX3).trans r3
  have s4 : w2.heap.size < w4.heap.size := Nat.lt_of_lt_of_le sX3 hb4.size
  have b40 : w4.cell? ⟨w2.heap.size, 1, none⟩ = some (.int .i64 0) := by rw [cell_of_row _ _ _ _ _ _ q4]; rfl
  have f40 := frozen_of_row w4 w2.heap.size 1 _ _ q4
  clear hX3 b30 f30 q3 r3 hb4 kX3 sX3 s3 k3
  go_wp2_with fail
  obtain ⟨w5, hw5⟩ : ∃ w5, w4.setCell ⟨w2.heap.size, 1, none⟩ (.int .i64 k) = w5 := ⟨_, rfl⟩
  have rel0 : PBox w2.heap.size w2 w5 p k w2.heap.size (.slice none 0 0) ((D.take 0).map undg) := by
    rw [← hw5]
    exact ⟨k4.setCell (p := ⟨w2.heap.size, 1, none⟩) (Nat.le_refl _) _, Nat.le_refl _, heap_setCell_same w4 w2.heap.size 1 _ _ _ q4, World.ownsRow_nil _ _ _ _⟩
  rw [hw5]
  have Hidx := Lib.hid (show ∀ (j : Nat) (y : UInt8), D[j]? = some y → ∀ X : World, (Instr.index 9 (.string ⟨D.toArray⟩) (.int .i64 (j : Int))).run Tryd.prog X = .ok (.int .u8 y.toNat) X from
    fun j y hy X => str_index ⟨D.toArray⟩ j y X hy)
  have Hsz := Lib.hid (show (ByteArray.mk D.toArray).size = D.length from rfl)
  have Hp := Lib.hid hp
  have Hk := Lib.hid hk
  clear hw5 b40 f40 q4 k4 s4 hp hk k0 k1 s0
  go_loopw [37] (fun i wr => ∃ (j : Nat) (v : Value), j ≤ D.length ∧ i = .int .i64 j ∧ PBox w2.heap.size w2 wr p k w2.heap.size v ((D.take j).map undg)) (fun i _ => D.length - (intOf i).toNat)
  case atStart => exact ⟨0, _, Nat.zero_le _, rfl, rel0⟩
  case round =>
    clear rel0
    obtain ⟨j, v, hj, rfl, rel⟩ := hrel
    have gX := rel.below
    have kX : Below w.heap.size w wr := k2.trans (gX.mono (by omega))
    have hlen : ((D.take j).map undg).length ≤ 1048576 := by have h1 := HDl.out; have h2 := Hs.out; rw [List.length_map, List.length_take]; omega
    obtain ⟨L, hL⟩ : ∃ L, (D.take j).map undg = L := ⟨_, rfl⟩
    rw [hL] at rel hlen
    have HL := Lib.hid hL
    clear hL
    have hGr := rel.lt
    obtain ⟨b0, b1, b2, bf⟩ := rel.cells
    have bf2 := bf 2
    have u0 := carry gX x0 s2
    have u1 := carry gX x1 s2
    have u2 := carry gX x2 s2
    have v0 := (gX.frozen (p := ⟨w.heap.size, 0, none⟩) s2).trans y0
    have v1 := (gX.frozen (p := ⟨w.heap.size, 1, none⟩) s2).trans y1
    have v2 := (gX.frozen (p := ⟨w.heap.size, 2, none⟩) s2).trans y2
    have hDb : D.length ≤ 1048576 := Nat.le_trans HDl.out Hs.out
    by_cases hlt : j < D.length
    · obtain ⟨y, hy⟩ := getSome D j hlt
      have hji : (j : Int) < (D.length : Int) := by omega
      have hix := Hidx.out j y hy
      have Hy := Lib.hid hy
      have hy256 : (y.toNat : Int) < 256 := by have := y.toNat_lt; omega
      clear hy
      have Hwr := Lib.hid (show IntKind.i64.wrap (IntKind.i64.wrap (y.toNat : Int) - 48) = undg y from wrap_dg2 y)
      have ks : (wr.alloc (Obj.cells #[.int .i64 (IntKind.i64.wrap (IntKind.i64.wrap (y.toNat : Int) - 48))] 3)).drew.heap.size = wr.heap.size + 1 := by
        show (wr.alloc (Obj.cells #[.int .i64 (IntKind.i64.wrap (IntKind.i64.wrap (y.toNat : Int) - 48))] 3)).heap.size = wr.heap.size + 1
        simp
      have kb : Below wr.heap.size wr (wr.alloc (Obj.cells #[.int .i64 (IntKind.i64.wrap (IntKind.i64.wrap (y.toNat : Int) - 48))] 3)).drew := ((Below.refl _ _).alloc (Nat.le_refl _) _).drew
      have ownX := own_below rel.own kb (Nat.le_refl _)
      have kc : ∀ (j : Nat) (u : Value), ([.int .i64 (IntKind.i64.wrap (IntKind.i64.wrap (y.toNat : Int) - 48))] : List Value)[j]? = some u → (wr.alloc (Obj.cells #[.int .i64 (IntKind.i64.wrap (IntKind.i64.wrap (y.toNat : Int) - 48))] 3)).drew.cell? ((⟨wr.heap.size, 0, none⟩ : Addr).add j) = some u := by
        refine one_cell ?_
        show (wr.alloc (Obj.cells #[.int .i64 (IntKind.i64.wrap (IntKind.i64.wrap (y.toNat : Int) - 48))] 3)).cell? ⟨wr.heap.size, 0, none⟩ = _
        simp
      have kq : w2.heap.size ≤ (wr.alloc (Obj.cells #[.int .i64 (IntKind.i64.wrap (IntKind.i64.wrap (y.toNat : Int) - 48))] 3)).drew.heap.size := by rw [ks]; omega
      have k63 : L.length + 1 ≤ maxLen := by unfold maxLen; omega
      have kby : (L.length + 1) * 8 ≤ 140737488355328 := by omega
      have kq1 : ∀ o : Obj, (wr.alloc o).cell? ⟨w2.heap.size, 2, none⟩ = some v := fun o => (World.cell?_alloc_lt wr _ _ hGr).trans b2
      have Rel := Lib.hid rel
      clear rel u0 u1 u2 v0 v1 v2 b0 b1
      go_upto_region 9 with fail
      go_region_law (first
        | (refine step_append_lies _ (by rfl) _ _ _ (by rfl) w2.heap.size 3 i0' _ 1 8 Tryd.underlying26 hi hz0 hz1 hz2 (by rfl) (by decide) v L.length (icells L) (by rfl) ownX ⟨wr.heap.size, 0, none⟩ 1 1 [.int .i64 (IntKind.i64.wrap (IntKind.i64.wrap (y.toNat : Int) - 48))] (by rfl) rfl kc (one_one rfl) (by decide) k63 kby kq (wr.heap.size + 1) ks ?_; intro g3 c3 w3 own3 gr3 hat3 hlt3; obtain ⟨mid, _, _⟩ := Rel.out.grown kb gr3; have q1 : w3.cell? ⟨w2.heap.size, 2, none⟩ = some v := (by rw [cell_of_row _ _ _ _ _ _ mid]; rfl); have q2 : w3.frozen? ⟨w2.heap.size, 2, none⟩ = false := frozen_of_row _ _ 2 _ _ mid; have rel3 := Rel.out.push kb gr3 own3; clear mid)
        | fail)
      all_goals (go_wp2_with fail)
      all_goals (go_roundw)
      all_goals first
        | exact ⟨j + 1, _, by omega, by go_num, by rw [List.take_add_one, Hy.out, Option.toList_some, List.map_append, List.map_singleton, HL.out, ← Hwr.out]; exact rel3⟩
        | (simp [intOf]; omega)
    · have hjl : j = D.length := by omega
      subst hjl
      have hge : ¬ ((D.length : Int) < (D.length : Int)) := by omega
      have hLL := HL.out
      rw [List.take_length] at hLL
      obtain ⟨A', c', rfl, _⟩ := own_shape rel.own
      have Rel := Lib.hid rel
      have HLL := Lib.hid hLL
      clear rel bf hLL
      go_wp2
      refine bodyPost_ret (v := .agg #[.int .i64 p, .int .i64 k, .slice A' L.length c']) (by simp [results, Tryd.results64, go_sem, u0, u1, u2]) rfl ?_
      refine ⟨p, k, ?_, Hp.out, Hk.out⟩
      rw [HLL.out]
      exact ⟨A', c', rfl, own_lower (ownsRow_setCell_below (ownsRow_setCell_below (ownsRow_setCell_below Rel.out.own (a := ⟨w.heap.size, 0, none⟩) s2 _) (a := ⟨w.heap.size, 1, none⟩) s2 _) (a := ⟨w.heap.size, 2, none⟩) s2 _) (Nat.le_of_lt s2),
        ((kX.setCell (p := ⟨w.heap.size, 0, none⟩) (by simp) _).setCell (p := ⟨w.heap.size, 1, none⟩) (by simp) _).setCell (p := ⟨w.heap.size, 2, none⟩) (by simp) _⟩
end Go.Proofs.YthpapkfpcijpoaaDoor
/-
  'ParsePainting': the program's, for every text.
-/
namespace Go.Proofs.YthpapkfpcijpoaaDoor
open Go.RowKit

/-- what the loose reading and the text of it decide -/
theorem parse_decides {s : ByteArray} {p k : Int} (hp : ∀ u, Lib.atoiAll (Lib.cut s.data.toList [58]).1 = .ok u → p = u) (hk : ∀ u, Lib.atoiAll (Lib.cut (restOf s) [58]).1 = .ok u → k = u) :
    resParsePainting s = if isX p k ((digitsOf s).map undg) = true ∧ textT p k ((digitsOf s).map undg) = s then (p, k, (digitsOf s).map undg, true) else (0, 0, [], false) := by
  split
  · rename_i h
    exact res_of_text h.1 h.2
  · rename_i h
    cases hi : isText s with
    | false => simp [resParsePainting, hi]
    | true =>
      exfalso
      simp only [isText, Bool.and_eq_true, decide_eq_true_eq] at hi
      obtain ⟨hx, ht⟩ := hi
      obtain ⟨⟨hp0, hp1⟩, ⟨hk0, hk1⟩, _⟩ := isX_parts hx
      obtain ⟨c1, c2⟩ := cut_text hx
      rw [ht] at c1
      have e1 : p = pOf s.data.toList := hp _ (by rw [c1]; exact atoi_dg hp0 (by omega))
      have hr : restOf s = dg (kOf s.data.toList) :: 58 :: (lOf s.data.toList).map dg := by unfold restOf; rw [c1]
      have e2 : k = kOf s.data.toList := hk _ (by rw [hr, c2]; exact atoi_dg (by omega) (by omega))
      have hd : digitsOf s = (lOf s.data.toList).map dg := by unfold digitsOf; rw [hr, c2]
      have e3 : (digitsOf s).map undg = lOf s.data.toList := by
        have h1 := (lOf_text hx).2.2
        rw [textT_list] at h1
        rw [hd]
        exact h1
      exact h (by rw [e1, e2, e3]; exact ⟨hx, ht⟩)
set_option maxHeartbeats 4000000 in
set_option maxRecDepth 100000 in
theorem implParsePainting_any (s : ByteArray) (w : World) (hs : s.size ≤ 1048576) (hw : LibW w) :
    Calls Tryd.prog 31 #[.string s] w (GotPaintOk w (resParsePainting s).1 (resParsePainting s).2.1 (resParsePainting s).2.2.1 (resParsePainting s).2.2.2) := by
  have hdl : ((digitsOf s).map undg).length ≤ 1048576 := by rw [List.length_map]; exact Nat.le_trans (digitsOf_len s) hs
  obtain ⟨W, hW⟩ : ∃ W, w.alloc (Obj.cells #[.int .i64 0, .int .i64 0, .slice none 0 0] 47) = W := ⟨_, rfl⟩
  have a0 : W.cell? ⟨w.heap.size, 0, none⟩ = some (.int .i64 0) := by rw [← hW]; simp
  have a1 : W.cell? ⟨w.heap.size, 1, none⟩ = some (.int .i64 0) := by rw [← hW]; simp
  have a2 : W.cell? ⟨w.heap.size, 2, none⟩ = some (.slice none 0 0) := by rw [← hW]; simp
  have z0 : W.frozen? ⟨w.heap.size, 0, none⟩ = false := by rw [← hW]; simp
  have z1 : W.frozen? ⟨w.heap.size, 1, none⟩ = false := by rw [← hW]; simp
  have z2 : W.frozen? ⟨w.heap.size, 2, none⟩ = false := by rw [← hW]; simp
  have k0 : Below w.heap.size w W := by rw [← hW]; go_grown
  have s0 : w.heap.size < W.heap.size := by rw [← hW]; simp
  have L0 := Lib.hid (hw.below k0)
  have HW := Lib.hid hW
  have Hs := Lib.hid hs
  clear hW hs
  go_enter Tryd.func31, Tryd.ntmps31
  go_wp2_with fail
  rw [HW.out]
  refine (readPainting_any s W Hs.out L0.out).mono ?_
  rintro e w1 ⟨p, k, ⟨A, c, rfl, own, hb⟩, hp, hk⟩
  have dec := parse_decides hp hk
  obtain ⟨l, hl⟩ : ∃ l, (digitsOf s).map undg = l := ⟨_, rfl⟩
  simp only [hl] at own dec hdl
  have k1 := k0.trans (hb.mono k0.size)
  have s1 : w.heap.size < w1.heap.size := Nat.lt_of_lt_of_le s0 hb.size
  have b0 := carry hb a0 s0
  have b1 := carry hb a1 s0
  have b2 := carry hb a2 s0
  have y0 := (hb.frozen (p := ⟨w.heap.size, 0, none⟩) s0).trans z0
  have y1 := (hb.frozen (p := ⟨w.heap.size, 1, none⟩) s0).trans z1
  have y2 := (hb.frozen (p := ⟨w.heap.size, 2, none⟩) s0).trans z2
  have Own := Lib.hid own
  have Dec := Lib.hid dec
  rw [hl]
  clear a0 a1 a2 z0 z1 z2 own dec hp hk hl hb
  go_wp2_with fail
  obtain ⟨X1, hX1⟩ : ∃ X1, w1.alloc (Obj.cells #[.int .i64 p, .int .i64 k, .slice A l.length c] 47) = X1 := ⟨_, rfl⟩
  have kX : Below w1.heap.size w1 X1 := by rw [← hX1]; exact (Below.refl _ _).alloc (Nat.le_refl _) _
  have d0 : X1.cell? ⟨w1.heap.size, 0, none⟩ = some (.int .i64 p) := by rw [← hX1]; simp
  have d1 : X1.cell? ⟨w1.heap.size, 1, none⟩ = some (.int .i64 k) := by rw [← hX1]; simp
  have d2 : X1.cell? ⟨w1.heap.size, 2, none⟩ = some (.slice A l.length c) := by rw [← hX1]; simp
  have sX : w1.heap.size < X1.heap.size := by rw [← hX1]; simp
  have ownX := own_below Own.out kX (Nat.le_refl _)
  rw [hX1]
  refine (implPaintingText_any p k l A c X1 hdl (CRead.of_own ownX)).mono ?_
  rintro e w3 ⟨rfl, hb3⟩
  have g3 := kX.trans (hb3.mono kX.size)
  have k3 := k1.trans (g3.mono k1.size)
  have c0 := carry g3 b0 s1
  have c1 := carry g3 b1 s1
  have c2 := carry g3 b2 s1
  have v0 := (g3.frozen (p := ⟨w.heap.size, 0, none⟩) s1).trans y0
  have v1 := (g3.frozen (p := ⟨w.heap.size, 1, none⟩) s1).trans y1
  have v2 := (g3.frozen (p := ⟨w.heap.size, 2, none⟩) s1).trans y2
  have f0 := carry hb3 d0 sX
  have f1 := carry hb3 d1 sX
  have f2 := carry hb3 d2 sX
  have Own3 := Lib.hid (own_below Own.out g3 (Nat.le_refl _))
  clear ownX d0 d1 d2 hX1 b0 b1 b2 y0 y1 y2 hb3 kX
  cases hx : isX p k l with
  | false =>
    have e1 : resPaintingText p k l = (⟨#[]⟩, false) := by simp [resPaintingText, hx]
    have e2 := Lib.hid (show resParsePainting s = (0, 0, [], false) by rw [Dec.out]; simp [hx])
    rw [e1]
    clear e1 hx
    go_wp2
    rw [e2.out]
    refine bodyPost_ret (v := .tuple #[.agg #[.int .i64 0, .int .i64 0, .slice none 0 0], .bool false]) (by simp [results, Tryd.results31, go_sem, c0, c1, c2]) rfl ?_
    exact ⟨none, 0, rfl, World.ownsRow_nil _ _ _ _, ((k3.setCell (p := ⟨w.heap.size, 0, none⟩) (by simp) _).setCell (p := ⟨w.heap.size, 1, none⟩) (by simp) _).setCell (p := ⟨w.heap.size, 2, none⟩) (by simp) _⟩
  | true =>
    have e1 : resPaintingText p k l = (textT p k l, true) := by simp [resPaintingText, hx]
    rw [e1]
    by_cases ht : textT p k l = s
    · have e2 := Lib.hid (show resParsePainting s = (p, k, l, true) by rw [Dec.out]; simp [hx, ht])
      rw [ht]
      clear e1 hx ht
      go_wp2
      rw [e2.out]
      refine bodyPost_ret (v := .tuple #[.agg #[.int .i64 p, .int .i64 k, .slice A l.length c], .bool true]) (by simp [results, Tryd.results31, go_sem, c0, c1, c2]) rfl ?_
      exact ⟨A, c, rfl, own_lower (ownsRow_setCell_below (ownsRow_setCell_below (ownsRow_setCell_below Own3.out (a := ⟨w.heap.size, 0, none⟩) s0 _) (a := ⟨w.heap.size, 1, none⟩) s0 _) (a := ⟨w.heap.size, 2, none⟩) s0 _) (Nat.le_of_lt s0),
        ((k3.setCell (p := ⟨w.heap.size, 0, none⟩) (by simp) _).setCell (p := ⟨w.heap.size, 1, none⟩) (by simp) _).setCell (p := ⟨w.heap.size, 2, none⟩) (by simp) _⟩
    · have e2 := Lib.hid (show resParsePainting s = (0, 0, [], false) by rw [Dec.out]; simp [ht])
      obtain ⟨F, hF⟩ : ∃ F, textT p k l = F := ⟨_, rfl⟩
      rw [hF] at ht ⊢
      have hne : (F.toList == s.toList) = false := by
        simp only [beq_eq_false_iff_ne]
        exact fun h => ht (ByteArray.ext (Array.toList_inj.1 (by rwa [ByteArray.toList_eq, ByteArray.toList_eq] at h)))
      clear e1 hx hF
      go_wp2
      rw [e2.out]
      refine bodyPost_ret (v := .tuple #[.agg #[.int .i64 0, .int .i64 0, .slice none 0 0], .bool false]) (by simp [results, Tryd.results31, go_sem, c0, c1, c2]) rfl ?_
      exact ⟨none, 0, rfl, World.ownsRow_nil _ _ _ _, ((k3.setCell (p := ⟨w.heap.size, 0, none⟩) (by simp) _).setCell (p := ⟨w.heap.size, 1, none⟩) (by simp) _).setCell (p := ⟨w.heap.size, 2, none⟩) (by simp) _⟩
end Go.Proofs.YthpapkfpcijpoaaDoor
