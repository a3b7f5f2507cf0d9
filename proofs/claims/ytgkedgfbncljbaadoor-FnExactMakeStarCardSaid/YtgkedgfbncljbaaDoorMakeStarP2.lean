/-
  Texts put together for the claim of 'MakeStar' (pack 2): LRows, Mats, Ints, FameH, Tz, PeopleOf, Iter, Told, Look, LookW, Tied, CountT, Ties, Clone, Put, PutP.
-/
import Derived.Test.YtgkedgfbncljbaaDoorMakeStarP1
import Derived.Laws.AppendOwnNone
import Derived.BigQuiet
import Derived.RangeFuncNested
import Derived.RangeFuncBound
import Derived.RangeFuncCalls
import Derived.RangeFuncLeaves
import Derived.Shelf.Abstract
import Derived.Shelf.RegionOpen
import Derived.OwnWalkIn
import Derived.TacticsInMore
import Derived.LoopNIn
import Derived.LoopIn
import Derived.Deep.RegionLawGrows
import Derived.Laws.OwnMore
import Derived.ScopeJumps
import Derived.WalkMore
import Derived.Laws.EntriesVeiled
import Derived.StillTailTactics
import Derived.Deep.DeepCutAuto
import Derived.Lib.SliceRun
import Derived.Deep.LoopGhost
import Derived.Deep.Slices
import Derived.WideShapes
/-
  LISTS OF NUMBERS UNDER ONE SLICE, each row in a block of the call's own; 'spec.l1Own' of any list; 'spec.trGroups' as a plain list.
-/
namespace Go.Proofs.YtgkedgfbncljbaaDoor
open Go.RowKit

structure LRows (w : World) (B : Nat) (v : Value) (LL : List (List Int)) (hs : List Value) : Prop where
  own : w.ownsRow B 37 1 v LL.length hs
  row : ∀ (i : Nat) (l : List Int), LL[i]? = some l → ∃ A c, hs[i]? = some (Value.slice A l.length c) ∧ w.ownsRow B 3 1 (Value.slice A l.length c) l.length (icells l)
  nil : LL = [] → v = Value.slice none 0 0
section
variable {w w' : World} {B B' : Nat} {v v' v2 : Value} {LL L2 : List (List Int)} {hs hs2 : List Value}
theorem LRows.none (w : World) (B : Nat) : LRows w B (Value.slice Option.none 0 0) [] [] := ⟨World.ownsRow_nil _ _ _ _, fun i l h => by simp at h, fun _ => rfl⟩
theorem LRows.below (h : LRows w B v LL hs) (hb : Below w.heap.size w w') : LRows w' B v LL hs :=
  ⟨own_below h.own hb (Nat.le_refl _), fun i l hi => by obtain ⟨A, c, e, o⟩ := h.row i l hi; exact ⟨A, c, e, own_below o hb (Nat.le_refl _)⟩, h.nil⟩
theorem LRows.lower (h : LRows w B v LL hs) (hB : B' ≤ B) : LRows w B' v LL hs :=
  ⟨own_lower h.own hB, fun i l hi => by obtain ⟨A, c, e, o⟩ := h.row i l hi; exact ⟨A, c, e, own_lower o hB⟩, h.nil⟩
theorem LRows.length (h : LRows w B v LL hs) : hs.length = LL.length := by have := h.own.1; omega
theorem LRows.one (h : LRows w B v LL hs) : ∀ u ∈ hs, u.oneCell' = true := by
  intro u hu
  obtain ⟨i, hi, rfl⟩ := List.getElem_of_mem hu
  have hl := h.length
  obtain ⟨A, c, e, _⟩ := h.row i LL[i] (List.getElem?_eq_getElem (by omega))
  rw [List.getElem?_eq_getElem hi] at e
  simp only [Option.some.injEq] at e
  rw [e]
  rfl
theorem blocks_apart {e e' : TypeId} {size size' n m : Nat} {xs ys : List Value} (h : w.ownsRow B e size v n xs) (h' : w.ownsRow B' e' size' v' m ys) (hne : e ≠ e') : v'.ownBlock = .none ∨ v'.ownBlock ≠ v.ownBlock := by
  rcases h'.2 with ⟨rfl, _⟩ | ⟨g, cap, cur, rfl, _, hg, _⟩
  · exact .inl rfl
  · refine .inr fun e => ?_
    rcases h.2 with ⟨rfl, _⟩ | ⟨g2, cap2, cur2, rfl, _, hg2, _⟩
    · simp [Value.ownBlock] at e
    · have : g = g2 := by simpa [Value.ownBlock] using e
      subst this
      rw [hg] at hg2
      simp only [Option.some.injEq, Obj.cells.injEq] at hg2
      exact hne hg2.2.1.symm
/-- rows appended to rows -/
theorem LRows.append (h : LRows w B v LL hs) (h2 : LRows w B v2 L2 hs2) (hown : w'.ownsRow B 37 1 v' (LL.length + L2.length) (hs ++ hs2)) (hg : w.grownBy w' v.ownBlock) (hn : L2 ≠ []) : LRows w' B v' (LL ++ L2) (hs ++ hs2) := by
  have keep : ∀ A c l, w.ownsRow B 3 1 (.slice A l.length c) l.length (icells l) → w'.ownsRow B 3 1 (.slice A l.length c) l.length (icells l) := fun A c l o => o.kept hg (blocks_apart h.own o (show (37 : TypeId) ≠ 3 by decide))
  refine ⟨by rw [List.length_append]; exact hown, fun i l hi => ?_, fun e => ?_⟩
  · have hl := h.length
    by_cases hlt : i < LL.length
    · rw [List.getElem?_append_left hlt] at hi
      obtain ⟨A, c, e, o⟩ := h.row i l hi
      exact ⟨A, c, by rw [List.getElem?_append_left (by omega)]; exact e, keep A c l o⟩
    · rw [List.getElem?_append_right (by omega)] at hi
      obtain ⟨A, c, e, o⟩ := h2.row _ l hi
      exact ⟨A, c, by rw [List.getElem?_append_right (by omega), hl]; exact e, keep A c l o⟩
  · simp at e
    exact absurd e.2 hn
end
/-- A call came back with lists of numbers. -/
def GotLL (w : World) (LL : List (List Int)) (e : Ending) (w' : World) : Prop := ∃ A c hs, e = .returned (.slice A LL.length c) ∧ LRows w' w.heap.size (.slice A LL.length c) LL hs ∧ Below w.heap.size w w'

set_option maxHeartbeats 1000000 in
set_option maxRecDepth 100000 in
theorem l1Own_all (q : List Int) (A : Option Addr) (c : Nat) (w : World) (hq : q.length ≤ 1048576) (hA : CRead w w.heap.size A (icells q)) (h0 : q = [] → A = none ∧ c = 0) :
    Calls Tryd.prog 30 #[.slice A q.length c] w fun e w' => ∃ A' c', e = .returned (.slice A' q.length c') ∧ w'.ownsRow w.heap.size 3 1 (.slice A' q.length c') q.length (icells q) ∧ Below w.heap.size w w' := by
  by_cases hz : q = []
  · obtain ⟨rfl, rfl⟩ := h0 hz
    subst hz
    obtain ⟨i0, hi, hz0, hz1, hz2⟩ := info_parts Tryd.infoInt
    have h1 : (w.alloc (.cells #[] 3)).ownsRow w.heap.size 3 1 (.slice (some ⟨w.heap.size, 0, none⟩) 0 0) 0 [] := World.ownsRow_made w #[] 0 (Nat.le_refl _) (Nat.zero_le _) rfl
    go_enter Tryd.func30, Tryd.ntmps30
    go_wp2_with (at_builtin; refine wpList_append_own_none rfl _ _ 37 rfl w.heap.size 3 i0 1 Tryd.underlying37 hi (.slice (some ⟨w.heap.size, 0, none⟩) 0 0) 0 [] rfl h1 rfl ?_)
    go_ret
    exact ⟨_, _, rfl, h1, by go_grown⟩
  · have hpos : 0 < q.length := by cases q with | nil => exact absurd rfl hz | cons x q => simp
    exact l1Own_any q A c w hq hpos hA

/-! ## The model's candidates -/
def fromQ (q : List Int) : Nat := match q.getLast? with | none => 0 | some x => x.toNat + 1
def candR (t : Nat → Nat → Bool) (n : Nat) (q : List Int) (a : Nat) : List Nat := (List.range' a (n - a)).filter fun b => q.all fun y => t b y.toNat
theorem candR_end (t : Nat → Nat → Bool) (n : Nat) (q : List Int) {a : Nat} (h : n ≤ a) : candR t n q a = [] := by unfold candR; rw [Nat.sub_eq_zero_of_le h]; rfl
theorem candR_no {t : Nat → Nat → Bool} {n : Nat} {q : List Int} {a : Nat} (h : a < n) (hk : (q.all fun y => t a y.toNat) = false) : candR t n q a = candR t n q (a + 1) := by
  unfold candR
  rw [show n - a = (n - (a + 1)) + 1 from by omega, List.range'_succ, List.filter_cons_of_neg (by simp [hk])]
theorem candR_yes {t : Nat → Nat → Bool} {n : Nat} {q : List Int} {a : Nat} (h : a < n) (hk : (q.all fun y => t a y.toNat) = true) : candR t n q a = a :: candR t n q (a + 1) := by
  unfold candR
  rw [show n - a = (n - (a + 1)) + 1 from by omega, List.range'_succ, List.filter_cons_of_pos (by simpa using hk)]
theorem candR_tied {t : Nat → Nat → Bool} (hs : ∀ i j, t i j = t j i) (n : Nat) (q : List Int) (a : Nat) : (candR t n q (a + 1)).filter (t a) = candR t n (q ++ [(a : Int)]) (fromQ (q ++ [(a : Int)])) := by
  unfold candR fromQ
  simp only [List.getLast?_append, List.getLast?_singleton, Option.some_or, Int.toNat_natCast]
  rw [List.filter_filter]
  refine List.filter_congr fun b _ => ?_
  rw [List.all_append]
  simp [hs a b, Bool.and_comm]
end Go.Proofs.YtgkedgfbncljbaaDoor
/-
  LISTS OF LISTS OF NUMBERS AS RESULTS: rows of the call's own, apart from each other; what the laws' marking and counting need of them.
-/
namespace Go.Proofs.YtgkedgfbncljbaaDoor
open Go.RowKit

/-- the rows of a list of lists, each in a block of its own -/
def RowsL (w : World) (B : Nat) (v : Value) (LL : List (List Int)) (R : Nat → Option Addr) (C : Nat → Nat) : Prop :=
  RowsG w B v LL.length R C (fun i => (LL.getD i []).length) (fun i => LL.getD i [])
section
variable {w w' : World} {B n : Nat} {v v' : Value} {R : Nat → Option Addr} {C N : Nat → Nat} {F F' : Nat → List Int} {LL : List (List Int)}
theorem RowsG.below (h : RowsG w B v n R C N F) (hb : Below w.heap.size w w') : RowsG w' B v n R C N F :=
  ⟨own_below h.own hb (Nat.le_refl _), fun i hi => ⟨(h.row i hi).1, own_below (h.row i hi).2 hb (Nat.le_refl _)⟩, h.apart⟩
theorem RowsG.lower {B' : Nat} (h : RowsG w B v n R C N F) (hB : B' ≤ B) : RowsG w B' v n R C N F :=
  ⟨own_lower h.own hB, fun i hi => ⟨(h.row i hi).1, own_lower (h.row i hi).2 hB⟩, h.apart⟩
theorem own_from {e : TypeId} {s m : Nat} {u : Value} {xs : List Value} (h : w.ownsRow B e s u m xs) {x : Value} {lo hi : Nat} (hl : Lies x lo hi) (hB : hi ≤ B) : u.ownBlock = none ∨ u.ownBlock ≠ x.ownBlock := by
  cases e1 : u.ownBlock with
  | none => exact .inl rfl
  | some k =>
    right
    intro e2
    have h1 := (h.lt k e1).1
    have h2 := (hl k e2.symm).2
    omega
theorem RowsG.keptG (h : RowsG w B v n R C N F) {x : Value} {lo hi : Nat} (hg : w.grownBy w' x.ownBlock) (hl : Lies x lo hi) (hB : hi ≤ B) : RowsG w' B v n R C N F :=
  ⟨h.own.kept hg (own_from h.own hl hB), fun i hi => ⟨(h.row i hi).1, (h.row i hi).2.kept hg (own_from (h.row i hi).2 hl hB)⟩, h.apart⟩
theorem RowsL.none (w : World) (B : Nat) : RowsL w B (Value.slice Option.none 0 0) [] (fun _ => Option.none) (fun _ => 0) :=
  ⟨World.ownsRow_nil _ _ _ _, fun _ hi => absurd hi (Nat.not_lt_zero _), fun _ _ hi => absurd hi (Nat.not_lt_zero _)⟩
theorem getD_of {i : Nat} {l : List Int} (h : LL[i]? = some l) : LL.getD i [] = l := by rw [List.getD_eq_getElem?_getD, h]; rfl
theorem RowsL.below (h : RowsL w B v LL R C) (hb : Below w.heap.size w w') : RowsL w' B v LL R C := RowsG.below h hb
theorem RowsL.lower {B' : Nat} (h : RowsL w B v LL R C) (hB : B' ≤ B) : RowsL w B' v LL R C := RowsG.lower h hB
theorem RowsL.keptG (h : RowsL w B v LL R C) {x : Value} {lo hi : Nat} (hg : w.grownBy w' x.ownBlock) (hl : Lies x lo hi) (hB : hi ≤ B) : RowsL w' B v LL R C := RowsG.keptG h hg hl hB
theorem SRead.more {A : Option Addr} {B' : Nat} (h : SRead w B A LL) (hB : B ≤ B') : SRead w B' A LL := by
  intro i l hi
  obtain ⟨b, off, A', c', e, hlt, hc, hr⟩ := h i l hi
  exact ⟨b, off, A', c', e, by omega, hc, hr.more hB⟩
theorem RowsL.read {A : Option Addr} {c : Nat} (h : RowsL w B (.slice A LL.length c) LL R C) : SRead w w.heap.size A LL := RowsG.read h rfl fun _ _ hi => getD_of hi
/-- a row of its own put behind them, and its header -/
theorem RowsL.push (h : RowsL w B v LL R C) {l : List Int} {A : Option Addr} {c : Nat} (hr : w.ownsRow B 3 1 (.slice A l.length c) l.length (icells l))
    (hap : ∀ i, i < LL.length → (Value.slice (R i) (LL.getD i []).length (C i)).ownBlock = Option.none ∨ (Value.slice (R i) (LL.getD i []).length (C i)).ownBlock ≠ (Value.slice A l.length c).ownBlock)
    (hg : w.grownBy w' v.ownBlock) (ho : w'.ownsRow B 37 1 v' (LL.length + 1) (((List.range LL.length).map fun i => Value.slice (R i) (LL.getD i []).length (C i)) ++ [.slice A l.length c])) :
    RowsL w' B v' (LL ++ [l]) (upN R LL.length A) (upN C LL.length c) := by
  have hne : ∀ i, i < LL.length → (LL ++ [l]).getD i [] = LL.getD i [] := fun i hi => by
    rw [List.getD_eq_getElem?_getD, List.getD_eq_getElem?_getD, List.getElem?_append_left hi]
  have heq : (LL ++ [l]).getD LL.length [] = l := by rw [List.getD_eq_getElem?_getD]; simp
  unfold RowsL
  rw [List.length_append, List.length_singleton]
  refine ⟨?_, fun i hi => ?_, fun i j hi hj hij => ?_⟩
  · rw [List.range_succ, List.map_append, List.map_singleton, upN_self, upN_self, heq]
    rw [List.map_congr_left (g := fun i => Value.slice (R i) (LL.getD i []).length (C i)) fun i hi => by
      have := List.mem_range.1 hi
      rw [upN_ne _ _ (by omega), upN_ne _ _ (by omega), hne i this]]
    exact ho
  · by_cases e : i = LL.length
    · subst e
      simp only [upN_self, heq]
      exact ⟨trivial, hr.kept hg (own_apart hr h.own (by decide))⟩
    · have hin : i < LL.length := by omega
      simp only [upN_ne _ _ e, hne i hin]
      exact ⟨trivial, (h.row i hin).2.kept hg (own_apart (h.row i hin).2 h.own (by decide))⟩
  · by_cases e : i = LL.length
    · subst e
      have hjn : j < LL.length := by omega
      simp only [upN_self, upN_ne _ _ (show j ≠ LL.length by omega), heq, hne j hjn]
      cases hq : (Value.slice A l.length c).ownBlock with
      | none => exact .inl rfl
      | some b =>
        right
        intro e2
        rcases hap j hjn with h3 | h3
        · rw [h3] at e2; cases e2
        · rw [hq] at h3; exact h3 e2.symm
    · have hin : i < LL.length := by omega
      by_cases e2 : j = LL.length
      · subst e2
        simp only [upN_self, upN_ne _ _ e, heq, hne i hin]
        exact hap i hin
      · have hjn : j < LL.length := by omega
        simp only [upN_ne _ _ e, upN_ne _ _ e2, hne i hin, hne j hjn]
        exact h.apart i j hin hjn hij
/-- a row made behind a world is apart from the rows of that world -/
theorem RowsL.fresh (h : RowsL w B v LL R C) {x : Value} {lo hi : Nat} (hx : Lies x lo hi) (hlo : w.heap.size ≤ lo) : ∀ i, i < LL.length → (Value.slice (R i) (LL.getD i []).length (C i)).ownBlock = Option.none ∨ (Value.slice (R i) (LL.getD i []).length (C i)).ownBlock ≠ x.ownBlock := by
  intro i hi
  cases e1 : (Value.slice (R i) (LL.getD i []).length (C i)).ownBlock with
  | none => exact .inl rfl
  | some k =>
    right
    intro e2
    have h1 := ((h.row i hi).2.lt k e1).2
    have h2 := (hx k e2.symm).1
    omega
theorem LRows.read {A : Option Addr} {c : Nat} {hs : List Value} (h : LRows w B (.slice A LL.length c) LL hs) : SRead w w.heap.size A LL := by
  intro i l hi
  have hin : i < LL.length := (List.getElem?_eq_some_iff.1 hi).1
  obtain ⟨g, rfl⟩ := own_form h.own (by omega)
  obtain ⟨A', c', e, o⟩ := h.row i l hi
  refine ⟨g, 0, A', c', rfl, (own_lt h.own).2, ?_, CRead.of_own o⟩
  rw [Nat.zero_add, h.own.cellAt i (by omega)]
  exact e
end
/-- how many numbers lie in all rows -/
def sumL (LL : List (List Int)) : Nat := (LL.map List.length).sum
theorem sumL_row {LL : List (List Int)} {l : List Int} (h : l ∈ LL) : l.length ≤ sumL LL := by
  unfold sumL
  induction LL with
  | nil => cases h
  | cons x LL ih =>
    simp only [List.map_cons, List.sum_cons]
    rcases List.mem_cons.1 h with rfl | h
    · omega
    · have := ih h; omega
theorem sumL_le {LL : List (List Int)} {m : Nat} (h : ∀ l ∈ LL, l.length ≤ m) : sumL LL ≤ LL.length * m := by
  unfold sumL
  induction LL with
  | nil => simp
  | cons x LL ih =>
    simp only [List.map_cons, List.sum_cons, List.length_cons]
    have h1 := h x List.mem_cons_self
    have h2 := ih fun l hl => h l (List.mem_cons_of_mem _ hl)
    rw [Nat.add_mul]
    omega
theorem lens_at (LL : List (List Int)) (i : Nat) : (LL.map List.length).getD i 0 = (LL.getD i []).length := by
  rw [List.getD_eq_getElem?_getD, List.getD_eq_getElem?_getD, List.getElem?_map]
  cases LL[i]? <;> rfl
/-- the rows are marked, counted on from k0 -/
def MarkedL (w : World) (B : Nat) (v : Value) (LL : List (List Int)) (k0 : Int) (R : Nat → Option Addr) (C : Nat → Nat) : Prop :=
  RowsG w B v LL.length R C (fun i => (LL.getD i []).length) (fun i => imarks (k0 + lens (LL.map List.length) i) (LL.getD i []).length)
theorem MarkedL.below {w w' : World} {B : Nat} {v : Value} {LL : List (List Int)} {k0 : Int} {R : Nat → Option Addr} {C : Nat → Nat} (h : MarkedL w B v LL k0 R C) (hb : Below w.heap.size w w') : MarkedL w' B v LL k0 R C := RowsG.below h hb
theorem markIntSS_rows (LL : List (List Int)) (A : Option Addr) (c : Nat) (k0 : Int) (B : Nat) (R : Nat → Option Addr) (C : Nat → Nat) (w : World) (hl : LL.length ≤ 1048576) (hs : sumL LL ≤ 1048576) (hk0 : 0 ≤ k0 ∧ k0 ≤ 8388608) (hB : B ≤ w.heap.size)
    (h : RowsL w B (.slice A LL.length c) LL R C) :
    Calls Tryd.prog 8 #[.slice A LL.length c, .int .i64 k0] w fun e w' => e = .returned (.int .i64 (k0 + sumL LL)) ∧ MarkedL w' B (.slice A LL.length c) LL k0 R C ∧ Below B w w' := by
  have g := markIntSS_any (LL.map List.length) A c k0 B R C (fun i => LL.getD i []) w (by simpa using hl) hs hk0 hB (by simp only [List.length_map, lens_at]; exact h)
  simp only [List.length_map, lens_at] at g
  exact g
theorem heldIntSS_rows (LL : List (List Int)) (A : Option Addr) (c : Nat) (k0 : Int) (B : Nat) (R : Nat → Option Addr) (C : Nat → Nat) (w : World) (hl : LL.length ≤ 1048576) (hs : sumL LL ≤ 1048576) (hk0 : 0 ≤ k0 ∧ k0 ≤ 8388608)
    (h : MarkedL w B (.slice A LL.length c) LL k0 R C) :
    Calls Tryd.prog 9 #[.slice A LL.length c, .int .i64 k0] w fun e w' => e = .returned (.int .i64 (k0 + sumL LL)) ∧ w = w' := by
  have g := heldIntSS_any (LL.map List.length) A c k0 w (by simpa using hl) hs hk0 (RowsG.read (LL := rowMarks k0 (LL.map List.length)) h (by simp [rowMarks_length]) fun i l hi => by
    have hlt := (List.getElem?_eq_some_iff.1 hi).1
    rw [rowMarks_length, List.length_map] at hlt
    have e := rowMarks_at (k0 := k0) (ns := LL.map List.length) (k := i) (n := (LL.getD i []).length) (by rw [List.getElem?_map, List.getD_eq_getElem?_getD, List.getElem?_eq_getElem hlt]; rfl)
    rw [e] at hi
    exact (Option.some.inj hi))
  simp only [List.length_map] at g
  exact g
/-- A call came back with lists of numbers, and whether it did. -/
def GotRowsOk (w : World) (LL : List (List Int)) (ok : Bool) (e : Ending) (w' : World) : Prop :=
  ∃ A c R C, e = .returned (.tuple #[.slice A LL.length c, .bool ok]) ∧ RowsL w' w.heap.size (.slice A LL.length c) LL R C ∧ Below w.heap.size w w'
/-- the same of the model's: that they can be read is enough -/
def ReadRowsOk (w : World) (LL : List (List Int)) (ok : Bool) (e : Ending) (w' : World) : Prop :=
  ∃ A c, e = .returned (.tuple #[.slice A LL.length c, .bool ok]) ∧ SRead w' w'.heap.size A LL ∧ Below w.heap.size w w'
theorem SRead.nil (w : World) (B : Nat) (A : Option Addr) : SRead w B A [] := fun i l h => by simp at h
end Go.Proofs.YtgkedgfbncljbaaDoor
/-
  THE LAWS' COPY OF A LIST OF NUMBERS, by its contract.
-/
namespace Go.Proofs.YtgkedgfbncljbaaDoor
open Go.RowKit

end Go.Proofs.YtgkedgfbncljbaaDoor
/-
  LISTS OF LISTS OF NUMBERS AS ARGUMENTS: their size, a copy of one's own (its rows in blocks apart), by contracts of the laws' helpers.
-/
namespace Go.Proofs.YtgkedgfbncljbaaDoor
open Go.RowKit

def foldSz (l : Int) : List Nat → Int
  | [] => l
  | n :: ns => if szI l n < 0 then -1 else foldSz (szI l n) ns
def szLL (left : Int) (ns : List Nat) : Int := if szI left ns.length < 0 then -1 else foldSz (szI left ns.length) ns
theorem foldSz_ok {ns : List Nat} : ∀ {l : Int}, 0 ≤ l → ¬ foldSz l ns < 0 → (ns.sum : Int) ≤ l := by
  induction ns with
  | nil => intro l h _; simpa using h
  | cons n ns ih =>
    intro l h h2
    unfold foldSz at h2
    split at h2
    · exact absurd (by omega) h2
    · rename_i h3
      have h4 := ih (by omega) h2
      have h5 := szI_len l n h3
      have h6 : szI l n = l - n := by unfold szI; rw [if_neg (by omega)]
      simp only [List.sum_cons]
      omega
theorem szLL_ok {ns : List Nat} (h : ¬ szLL 1048576 ns < 0) : ns.length ≤ 1048576 ∧ ns.sum ≤ 1048576 := by
  unfold szLL at h
  split at h
  · exact absurd (by omega) h
  · rename_i h3
    have h5 := szI_len 1048576 ns.length h3
    have h6 := foldSz_ok (by omega) h
    have h7 := szI_hi 1048576 ns.length (by omega)
    omega
theorem foldSz_hi {ns : List Nat} : ∀ {l : Int}, 0 ≤ l → foldSz l ns ≤ l ∧ -1 ≤ foldSz l ns := by
  induction ns with
  | nil => intro l h; unfold foldSz; omega
  | cons n ns ih =>
    intro l h
    unfold foldSz
    split
    · omega
    · rename_i h3
      have := ih (l := szI l n) (by omega)
      have := szI_hi l n h
      omega
/-! ## A row put under a header that was nil -/
section
variable {w : World} {B n : Nat} {R : Nat → Option Addr} {C N : Nat → Nat} {F : Nat → List Int}
theorem RowsG.put {g c : Nat} (h : RowsG w B (.slice (some ⟨g, 0, none⟩) n c) n R C N F) {k : Nat} (hk : k < n) {l : List Int} {A : Option Addr} {d : Nat}
    (hr : w.ownsRow B 3 1 (.slice A l.length d) l.length (icells l))
    (hap : ∀ i, i < n → i ≠ k → (Value.slice (R i) (N i) (C i)).ownBlock = none ∨ (Value.slice (R i) (N i) (C i)).ownBlock ≠ (Value.slice A l.length d).ownBlock) :
    RowsG (w.setCell ⟨g, k, none⟩ (.slice A l.length d)) B (.slice (some ⟨g, 0, none⟩) n c) n (upN R k A) (upN C k d) (upN N k l.length) (upN F k l) := by
  have hst := h.own.stored k (.slice A l.length d)
  have hob : (Value.slice (some ⟨g, 0, none⟩) n c).ownBlock = some g := by simp [Value.ownBlock]
  refine ⟨?_, fun i hi => ?_, fun i j hi hj hij => ?_⟩
  · have h1 := hst.1
    rw [map_range_set] at h1
    rw [List.map_congr_left (g := upN (fun i => Value.slice (R i) (N i) (C i)) k (.slice A l.length d)) fun i _ => by
      by_cases e : i = k
      · subst e; simp only [upN_self]
      · simp only [upN_ne _ _ e]]
    exact h1
  · by_cases e : i = k
    · subst e
      simp only [upN_self]
      refine ⟨trivial, World.ownsRow.kept hr hst.2 ?_⟩
      rw [← hob]
      exact own_apart hr h.own (by decide)
    · simp only [upN_ne _ _ e]
      refine ⟨(h.row i hi).1, (h.row i hi).2.kept hst.2 ?_⟩
      rw [← hob]
      exact own_apart (h.row i hi).2 h.own (by decide)
  · by_cases e : i = k
    · subst e
      simp only [upN_self, upN_ne _ _ (fun h => hij h.symm)]
      rcases hap j hj (fun h => hij h.symm) with h2 | h2
      · cases hq : (Value.slice A l.length d).ownBlock with
        | none => exact .inl rfl
        | some m => right; rw [h2]; intro e3; cases e3
      · cases hq : (Value.slice A l.length d).ownBlock with
        | none => exact .inl rfl
        | some m => right; intro e3; exact h2 (e3.symm.trans hq.symm)
    · by_cases e2 : j = k
      · subst e2
        simp only [upN_self, upN_ne _ _ e]
        exact hap i hi e
      · simp only [upN_ne _ _ e, upN_ne _ _ e2]
        exact h.apart i j hi hj hij
theorem RowsG.congrN {N' : Nat → Nat} {v : Value} (h : RowsG w B v n R C N F) (e : ∀ i, i < n → N i = N' i) : RowsG w B v n R C N' F := by
  refine ⟨?_, fun i hi => by rw [← e i hi]; exact h.row i hi, fun i j hi hj hij => by rw [← e i hi, ← e j hj]; exact h.apart i j hi hj hij⟩
  rw [List.map_congr_left (g := fun i => Value.slice (R i) (N i) (C i)) fun i hi => by rw [e i (List.mem_range.1 hi)]]
  exact h.own
/-- a row made behind a world is apart from its rows -/
theorem RowsG.fresh {v : Value} (h : RowsG w B v n R C N F) {x : Value} {lo hi : Nat} (hx : Lies x lo hi) (hlo : w.heap.size ≤ lo) : ∀ i, i < n → (Value.slice (R i) (N i) (C i)).ownBlock = none ∨ (Value.slice (R i) (N i) (C i)).ownBlock ≠ x.ownBlock := by
  intro i hi
  cases e1 : (Value.slice (R i) (N i) (C i)).ownBlock with
  | none => exact .inl rfl
  | some k =>
    right
    intro e2
    have h1 := ((h.row i hi).2.lt k e1).2
    have h2 := (hx k e2.symm).1
    omega
theorem RowsG.headAt {g c : Nat} (h : RowsG w B (.slice (some ⟨g, 0, none⟩) n c) n R C N F) {k : Nat} (hk : k < n) : w.cell? ⟨g, k, none⟩ = some (.slice (R k) (N k) (C k)) := by
  rw [h.own.cellAt k (by omega)]
  simp [hk]
end
theorem Tryd.infoRowI : (Tryd.prog.info? 37).map (fun i => (i.zero, i.size, i.bytes)) = some (some (.slice none 0 0), 1, 24) := by kernel_rfl
theorem made_rows (n : Nat) : (madeCells #[.slice none 0 0] (n * 1)).toList = (List.range n).map fun _ => Value.slice none 0 0 := by
  rw [Nat.mul_one, toList_madeCells_one]
  apply List.ext_getElem (by simp)
  intro j h1 h2
  simp
/-- the first k rows are those of the list, the others nil -/
def upTo2 (LL : List (List Int)) (k : Nat) : Nat → List Int := fun i => if i < k then LL.getD i [] else []
end Go.Proofs.YtgkedgfbncljbaaDoor
/-
  math/bits.TrailingZeros16 by its contract, where the library's table lies as its initialiser lays it.
-/
namespace Go.Proofs.YtgkedgfbncljbaaDoor
open Go.RowKit

def sliceLen : Value → Nat | .slice _ n _ => n | _ => 0
/-- The table in its variable (block 0). -/
def TabW (w : World) : Prop := ∀ j, j < 32 → w.cell? ⟨0, j, none⟩ = some (.int .u8 (Lib.deBruijn32tab.getD j 0))
theorem TabW.below {B : Nat} {w w' : World} (h : TabW w) (hb : Below B w w') (hB : 0 < B) : TabW w' := fun j hj => (hb.cell (p := ⟨0, j, none⟩) hB).trans (h j hj)
theorem TabW.pos {w : World} (h : TabW w) : 0 < w.heap.size := World.block_lt_of_cell? w _ (h 0 (by omega))

theorem tz16_key (x a : Nat) (hx : x < 65536) (hx0 : x ≠ 0) (hlow : x &&& (65536 - x) = 2 ^ a) (ha : a < 16) :
    bits BinOp.and IntKind.u16 (x : Int) (IntKind.u16.wrap (-(x : Int))) % 4294967296 * 125613361 % 4294967296 / 134217728 = ((2 ^ a * 125613361 % 4294967296 / 134217728 : Nat) : Int) := by
  have e1 : IntKind.u16.wrap (-(x : Int)) = ((65536 - x : Nat) : Int) := by rw [IntKind.wrap_u16]; omega
  have h2 : 2 ^ a < 2 ^ 16 := Nat.pow_lt_pow_right (by omega) ha
  rw [show (2 : Nat) ^ 16 = 65536 from rfl] at h2
  rw [e1, u16_and_nat x _ hx (by omega), hlow]
  omega

set_option maxHeartbeats 1000000 in
theorem tz16_core (x k idx : Nat) (w : World) (hx0 : ((x : Int) == 0) = false)
    (key : bits BinOp.and IntKind.u16 (x : Int) (IntKind.u16.wrap (-(x : Int))) % 4294967296 * 125613361 % 4294967296 / 134217728 = (idx : Int))
    (hi : idx < 32) (hk : k < 32) (hcell : w.cell? ⟨0, idx, none⟩ = some (.int .u8 k)) :
    Calls Tryd.prog 29 #[.int .u16 x] w fun e w' => e = .returned (.int .i64 k) ∧ w = w' := by
  go_enter Tryd.func29, Tryd.ntmps29
  go_wp2_with (simp only [key])
  go_ret
  exact ⟨rfl, rfl⟩
/-- the least person of a set -/
theorem tz16_any {J a : Nat} {cs : List Nat} (h : IsSet J (a :: cs)) (w : World) (hT : TabW w) :
    Calls Tryd.prog 29 #[.int .u16 J] w fun e w' => e = .returned (.int .i64 a) ∧ w = w' := by
  have hp := h.pos
  have hs := h.small
  have ha := h.lt a List.mem_cons_self
  obtain ⟨hlow, _⟩ := Lib.lowest_bit 16 J hp hs
  rw [h.least] at hlow
  obtain ⟨hi, htab⟩ := Lib.deBruijn32_at a (by omega)
  have hcell := hT _ hi
  rw [htab] at hcell
  exact tz16_core J a _ w (by simp; omega) (tz16_key J a hs hp hlow ha) hi (by omega) hcell
end Go.Proofs.YtgkedgfbncljbaaDoor
/-
  'impl.peopleOf', by its contract: a number of sixteen bits as a rising list.
-/
namespace Go.Proofs.YtgkedgfbncljbaaDoor
open Go.RowKit

theorem drop_least {J a : Nat} {cs : List Nat} (h : IsSet J (a :: cs)) : IsSet (J &&& (J - 1)) cs := by
  have hp := h.pos
  have hs := h.small
  obtain ⟨m, hm, hk⟩ := Lib.ctzFrom_spec 16 J (by omega) hs
  have e : Lib.ctz 16 J = Lib.ctzFrom 16 J := by simp [Lib.ctz, hp]
  rw [← e, h.least] at hm hk
  have hp2 : 0 < 2 ^ a := Nat.two_pow_pos a
  have hJ1 : J - 1 = 2 ^ a * (2 * m) + (2 ^ a - 1) := by
    have : 2 ^ a * (2 * m + 1) = 2 ^ a * (2 * m) + 2 ^ a := by rw [Nat.mul_add, Nat.mul_one]
    omega
  have hlo : 2 ^ a - 1 < 2 ^ a := by omega
  have hbit : ∀ b, (J &&& (J - 1)).testBit b = (J.testBit b && decide (b ≠ a)) := by
    intro b
    rw [Nat.testBit_and]
    cases eb : J.testBit b with
    | false => rfl
    | true =>
      rw [Bool.true_and, hJ1, Nat.testBit_two_pow_mul_add _ hlo]
      rw [hm, Nat.testBit_two_pow_mul] at eb
      simp only [Bool.and_eq_true, decide_eq_true_eq] at eb
      rw [if_neg (by omega)]
      by_cases hba : b = a
      · subst hba; simp
      · obtain ⟨i, hi⟩ : ∃ i, b - a = i + 1 := ⟨b - a - 1, by omega⟩
        rw [hi] at eb ⊢
        rw [Nat.testBit_succ] at eb ⊢
        have e1 : (2 * m + 1) / 2 = m := by omega
        have e2 : 2 * m / 2 = m := by omega
        rw [e1] at eb
        rw [e2, eb.2]
        simp [hba]
  have ht := h.tail
  refine ⟨ht.up, ht.lt, fun b => ?_⟩
  rw [hbit, Bool.and_eq_true, h.mem, List.mem_cons, decide_eq_true_eq]
  have hap := (List.pairwise_cons.1 h.up).1
  constructor
  · rintro ⟨h1 | h1, h2⟩
    · exact absurd h1 h2
    · exact h1
  · intro hb
    have := hap b hb
    exact ⟨.inr hb, by omega⟩
set_option maxHeartbeats 2000000 in
set_option maxRecDepth 100000 in
theorem peopleOf_any {J : Nat} {cs : List Nat} (hset : IsSet J cs) (w : World) (htab : TabW w) :
    Calls Tryd.prog 19 #[.int .u16 J] w fun e w' => ∃ A c, e = .returned (.slice A cs.length c) ∧ w'.ownsRow w.heap.size 3 1 (.slice A cs.length c) cs.length (icells (cs.map fun b : Nat => (b : Int))) ∧ Below w.heap.size w w' := by
  obtain ⟨i0, hi, hz0, hz1, hz2⟩ := info_parts Tryd.infoInt
  have hlen : cs.length ≤ 16 := by
    have h := List.Nodup.length_le_of_subset (l₁ := cs) (l₂ := List.range 16) (hset.up.imp fun h => Nat.ne_of_lt h) (fun b hb => List.mem_range.2 (hset.lt b hb))
    simpa using h
  have HTab := Lib.hid htab
  have Hset := Lib.hid hset
  clear htab hset
  go_enter Tryd.func19, Tryd.ntmps19
  go_wp2
  go_loopw [0, 3] (fun g v wr => ∃ (k J' : Nat) (A : Option Addr) (c : Nat), k ≤ cs.length ∧ g = .int .u16 J' ∧ IsSet J' (cs.drop k) ∧ v = .slice A k c ∧ wr.ownsRow w.heap.size 3 1 (.slice A k c) k (icells ((cs.take k).map fun b : Nat => (b : Int))) ∧ Below w.heap.size w wr) (fun _ v _ => cs.length - sliceLen v)
  case atStart => exact ⟨0, J, none, 0, Nat.zero_le _, rfl, Hset.out, rfl, World.ownsRow_nil _ _ _ _, Below.refl _ _⟩
  case round =>
    obtain ⟨k, J', A, c, hk, rfl, hs, rfl, own, hb⟩ := hrel
    have s0 := hb.size
    by_cases hlt : k < cs.length
    · obtain ⟨a, ha⟩ := getSome cs k hlt
      have hdr : cs.drop k = a :: cs.drop (k + 1) := by
        rw [List.drop_eq_getElem_cons hlt]
        rw [List.getElem?_eq_getElem hlt] at ha
        rw [Option.some.inj ha]
      rw [hdr] at hs
      have hj := hs.pos
      have hsm := hs.small
      have hne : ((J' : Int) == 0) = false := by simp only [beq_eq_false_iff_ne, ne_eq]; omega
      have hne2 : ¬ ((J' : Int) = 0) := by omega
      have hnx := drop_least hs
      have hand : bits .and .u16 (J' : Int) ((J' : Int) - 1) = ((J' &&& (J' - 1) : Nat) : Int) := by
        rw [show (J' : Int) - 1 = ((J' - 1 : Nat) : Int) by omega]
        exact u16_and_nat J' (J' - 1) hsm (by omega)
      have htk : (cs.take (k + 1)).map (fun b : Nat => (b : Int)) = (cs.take k).map (fun b : Nat => (b : Int)) ++ [(a : Int)] := by
        rw [List.take_add_one, ha]; simp
      have call := tz16_any hs wr (HTab.out.below hb HTab.out.pos)
      have Call := Lib.hid call
      have Hand := Lib.hid hand
      have Htk := Lib.hid htk
      have Hnx := Lib.hid hnx
      have Own := Lib.hid own
      have Hb := Lib.hid hb
      clear ha hdr hs hj call hand htk hnx own hb
      go_wp2_with fail
      refine Call.out.mono ?_
      rintro e w1 ⟨rfl, rfl⟩
      go_wp2_with (at_builtin; refine wpList_append_own _ rfl _ _ 37 rfl w.heap.size 3 i0 _ 1 8 Tryd.underlying37 hi hz0 hz1 hz2 rfl (by decide) _ _ _ rfl (Own.out.alloc _) ⟨wr.heap.size, 0, none⟩ 1 1 [.int .i64 a] rfl rfl (one_cell (by simp)) (one_one rfl) (by unfold maxLen; omega) (by omega) (by simp; omega) ?_; intro v3 w3 own3 gr3 _; obtain ⟨A3, c3, rfl, _⟩ := own_shape own3)
      have hb3 : Below w.heap.size w w3 := (Hb.out.alloc (by omega) _).grown gr3 (by simp; omega) (fun k hk => (Own.out.lt k hk).1)
      rw [Hand.out]
      go_roundw
      case rel => exact ⟨k + 1, _, A3, c3, by omega, rfl, Hnx.out, by go_num, by rw [Htk.out, icells_append]; exact own3, hb3⟩
      case measure => simp [sliceLen]; omega
    · have hkl : k = cs.length := by omega
      subst hkl
      rw [List.drop_length] at hs
      have hz := hs.zero
      subst hz
      rw [List.take_length] at own
      have Own := Lib.hid own
      clear own
      go_wp2
      go_ret
      exact ⟨A, c, rfl, Own.out, hb⟩
end Go.Proofs.YtgkedgfbncljbaaDoor
/-
  A RANGE OVER AN ITERATOR THAT WRITES CELLS OF ITS OWN BETWEEN TWO ROUNDS (and whose rounds read them): the contract of such an iterator ('Seq'), and the law of the statement. Nothing here speaks of the program.
-/
namespace Go.Proofs.YtgkedgfbncljbaaDoor
open Go.RowKit

/-- What lay is as it lay, but for blocks of S. -/
structure Apart (S : Nat → Prop) (A C : World) : Prop where
  below : Below 0 A C
  same : ∀ j, j < A.heap.size → ¬ S j → C.heap[j]? = A.heap[j]?
/-- The blocks of S are as they were. -/
structure Stays (S : Nat → Prop) (A C : World) : Prop where
  below : Below 0 A C
  same : ∀ j, j < A.heap.size → S j → C.heap[j]? = A.heap[j]?
theorem Apart.refl (S : Nat → Prop) (A : World) : Apart S A A := ⟨Below.refl _ _, fun _ _ _ => rfl⟩
theorem Apart.mono {S S' : Nat → Prop} {A C : World} (h : Apart S A C) (hS : ∀ j, S j → S' j) : Apart S' A C := ⟨h.below, fun j hj hn => h.same j hj fun hs => hn (hS j hs)⟩
theorem Stays.mono {S S' : Nat → Prop} {A C : World} (h : Stays S A C) (hS : ∀ j, S' j → S j) : Stays S' A C := ⟨h.below, fun j hj hs => h.same j hj (hS j hs)⟩
theorem Stays.refl (S : Nat → Prop) (A : World) : Stays S A A := ⟨Below.refl _ _, fun _ _ _ => rfl⟩
theorem Stays.trans {S : Nat → Prop} {A C D : World} (h : Stays S A C) (k : Stays S C D) : Stays S A D :=
  ⟨h.below.trans k.below, fun j hj hs => (k.same j (Nat.lt_of_lt_of_le hj h.below.size) hs).trans (h.same j hj hs)⟩
theorem Apart.trans {S S' : Nat → Prop} {A C D : World} (h : Apart S A C) (k : Apart S' C D) (hS : ∀ j, S' j → S j ∨ A.heap.size ≤ j) : Apart S A D :=
  ⟨h.below.trans k.below, fun j hj hn => (k.same j (Nat.lt_of_lt_of_le hj h.below.size) (fun hs => by rcases hS j hs with h' | h'; exact hn h'; omega)).trans (h.same j hj hn)⟩
theorem Apart.putObj (W : World) (l : Nat) (o : Obj) : Apart (fun j => j = l) W (W.putObj l o) :=
  ⟨(Below.refl 0 W).grown (grownBy_putObj' W l o) (Nat.zero_le _) (fun k _ => Nat.zero_le k), fun _ _ hn => World.putObj_heap_other hn⟩
theorem Apart.alloc (S : Nat → Prop) (W : World) (o : Obj) : Apart S W (W.alloc o) := ⟨(Below.refl 0 W).alloc (Nat.zero_le _) o, fun j hj _ => Below.heap_alloc W o j hj⟩
theorem Stays.alloc (S : Nat → Prop) (W : World) (o : Obj) : Stays S W (W.alloc o) := ⟨(Below.refl 0 W).alloc (Nat.zero_le _) o, fun j hj _ => Below.heap_alloc W o j hj⟩
theorem Stays.putObj {S : Nat → Prop} {l : Nat} (hl : ¬ S l) (W : World) (o : Obj) : Stays S W (W.putObj l o) :=
  ⟨(Below.refl 0 W).grown (grownBy_putObj' W l o) (Nat.zero_le _) (fun k _ => Nat.zero_le k), fun _ _ hs => World.putObj_heap_other fun e => hl (e ▸ hs)⟩
theorem Stays.setCell {S : Nat → Prop} {p : Addr} (hl : ¬ S p.block) (W : World) (u : Value) : Stays S W (W.setCell p u) :=
  ⟨(Below.refl 0 W).setCell (Nat.zero_le _) u, fun j _ hs => Below.heap_setCell W p u j fun e => hl (e ▸ hs)⟩
theorem Apart.grown {S : Nat → Prop} {W W' : World} {row : Option Nat} (hg : W.grownBy W' row) (h : ∀ k, row = some k → S k) : Apart S W W' :=
  ⟨(Below.refl 0 W).grown hg (Nat.zero_le _) (fun k _ => Nat.zero_le k), fun j hj hn => hg.block j hj fun e => hn (h j e.symm)⟩
theorem Stays.grown {S : Nat → Prop} {W W' : World} {row : Option Nat} (hg : W.grownBy W' row) (h : ∀ k, row = some k → ¬ S k) : Stays S W W' :=
  ⟨(Below.refl 0 W).grown hg (Nat.zero_le _) (fun k _ => Nat.zero_le k), fun j hj hs => hg.block j hj fun e => h j e.symm hs⟩
theorem Stays.of_below {S : Nat → Prop} {W W' : World} (h : Below W.heap.size W W') : Stays S W W' := ⟨h.mono (Nat.zero_le _), fun j hj _ => h.block j hj⟩
theorem Apart.of_below {S : Nat → Prop} {W W' : World} (h : Below W.heap.size W W') : Apart S W W' := ⟨h.mono (Nat.zero_le _), fun j hj _ => h.block j hj⟩
theorem Apart.cell {S : Nat → Prop} {A C : World} (h : Apart S A C) {p : Addr} {v : Value} (hc : A.cell? p = some v) (hn : ¬ S p.block) : C.cell? p = some v :=
  (World.cell?_of_block (h.same p.block (World.block_lt_of_cell? A p hc) hn)).trans hc
theorem Apart.frozen {S : Nat → Prop} {A C : World} (h : Apart S A C) {p : Addr} {v : Value} (hc : A.cell? p = some v) (hn : ¬ S p.block) : C.frozen? p = A.frozen? p :=
  World.frozen?_of_block (h.same p.block (World.block_lt_of_cell? A p hc) hn)
theorem Stays.cell {S : Nat → Prop} {A C : World} (h : Stays S A C) {p : Addr} {v : Value} (hc : A.cell? p = some v) (hn : S p.block) : C.cell? p = some v :=
  (World.cell?_of_block (h.same p.block (World.block_lt_of_cell? A p hc) hn)).trans hc
theorem Apart.below_of {S : Nat → Prop} {A C : World} (h : Apart S A C) {B : Nat} (hB : B ≤ A.heap.size) (hS : ∀ j, S j → B ≤ j) : Below B A C :=
  ⟨h.below.os, h.below.tape, h.below.output, h.below.size, fun k hk => h.same k (by omega) fun hs => by have := hS k hs; omega⟩

theorem roundIn_any {m m' : Nat} {P : Program} {l : Nat} {f : FuncId} {tmps : Array Value} {assign body : Code} {w : World} {R : Ending → World → Prop}
    (h : RoundIn Fence.wide m P l f tmps assign body w R) : RoundIn Fence.wide m' P l f tmps assign body w R := ⟨h.1, fun c cs _ => h.2 c cs (room_wide _)⟩
theorem yield_any {m m' : Nat} {P : Program} {l : Nat} {args : Array Value} {W : World} {R : Ending → World → Prop} (h : YieldAt Fence.wide m P l args W R) : YieldAt Fence.wide m' P l args W R := by
  obtain ⟨fn, tmps, assign, body, hy, hR⟩ := h
  exact ⟨fn, tmps, assign, body, hy, roundIn_any hR⟩

/-- What is held between two rounds abides whatever turns blocks that are not the holder's own. -/
def Held {α : Type} (J : (Nat → Prop) → List α → World → Prop) : Prop :=
  ∀ T T' pre A C, J T pre A → Apart T A C → (∀ j, T' j → T j ∨ (A.heap.size ≤ j ∧ j < C.heap.size)) → J T' pre C

/-- THE ITERATOR's CONTRACT: all of xs come, one after the other; or a round has said 'no more' behind some of them. 'Rd T x args W': what a round is handed, and what it may read of the iterator's own blocks T; R: other blocks that a round keeps. -/
def Seq {α : Type} (P : Program) (g : Nat) (lb : Array Value) (R : Nat → Prop) (Rd : (Nat → Prop) → α → Array Value → World → Prop) (xs : List α) (w0 : World) : Prop :=
  ∀ (l : Nat) (J Jx : (Nat → Prop) → List α → World → Prop) (W : World), Below w0.heap.size w0 W → Held J →
    (∀ T pre x args W1, J T pre W1 → Rd T x args W1 → pre ++ [x] <+: xs → YieldAt Fence.wide 0 P l args W1 fun e W' =>
      (e = .returned (.bool true) ∧ J T (pre ++ [x]) W' ∧ Stays (fun j => T j ∨ R j) W1 W') ∨ (e = .returned (.bool false) ∧ Jx T (pre ++ [x]) W')) →
    J (fun _ => False) [] W →
    Calls P g (#[.func (.yield l) #[] #[]] ++ lb) W fun e W' => (∃ v, e = .returned v) ∧ ((∃ T, J T xs W') ∨ (∃ T pre x, pre ++ [x] <+: xs ∧ Jx T (pre ++ [x]) W'))

/-- HOW THE BODY OF A ROUND MAY BE LEFT. -/
def iterPost {α : Type} (B : Nat) (S R : Nat → Prop) (I : (Nat → Prop) → List α → World → Prop) (Ix : Code → List α → World → Prop) (xs : List α) (W : World) : Exit → Act → World → Prop
  | .normal, _, W' => Stays (fun j => S j ∨ R j) W W' ∧ I S xs W'
  | .ret, _, W' => Stays (fun j => B ≤ j ∧ j ≤ B + 1) W W' ∧ Ix .ret xs W'
  | .exit id, _, W' => Stays (fun j => B ≤ j ∧ j ≤ B + 1) W W' ∧ Ix (.exit id) xs W'
  | .goto t, _, W' => Stays (fun j => B ≤ j ∧ j ≤ B + 1) W W' ∧ Ix (.goto t) xs W'
  | .panic _, _, _ => False
  | .outgrown, _, _ => False

variable {P : Program}
theorem wpIn_rangeFunc_iter {α : Type} {n : Nat} {g : Operand} {ps : Array Tmp} {assign body : Code} {Q : Exit → Act → World → Prop} {a : Act} {w : World}
    {gf : Nat} {lb : Array Value} (hg : a.eval g = .func (.func gf) #[] lb) (eg : ∀ args w, (callFunc gf args).run P w = .ok (.enter gf args) w)
    {R : Nat → Prop} {Rd : (Nat → Prop) → α → Array Value → World → Prop} {xs : List α} {w0 : World} (hseq : Seq P gf lb R Rd xs w0) (hb0 : Below w0.heap.size w0 w) (hR : ∀ j, R j → j < w.heap.size)
    (hRd : ∀ T x args A C, Rd T x args A → Stays T A C → Rd T x args C) (hps : ∀ T x args W, Rd T x args W → args.size = ps.size)
    (I : (Nat → Prop) → List α → World → Prop) (Ix : Code → List α → World → Prop) (hI : Held I) (hIx : ∀ c pre A C, Ix c pre A → Apart (fun j => j = w.heap.size + 1) A C → Ix c pre C)
    (h0 : I (fun _ => False) [] w) (a₁ : Array Value → Act)
    (hassign : ∀ (l : Nat) (T : Nat → Prop) (x : α) (args : Array Value) (W : World) (K : Act → World → Prop), Rd T x args W → K (a₁ args) W →
      assign.wpIn (Fence.wide.inRound l) n P (Exit.then K (fun _ _ _ => False)) { tmps := (ps.zip args).foldl (fun t (p, v) => t.setIfInBounds p v) a.tmps, defers := [] } W)
    (hbody : ∀ (l : Nat) (T S : Nat → Prop) (pre : List α) (x : α) (args : Array Value) (W : World), I S pre W → Rd T x args W → (∀ j, T j → S j) →
      body.wpIn (Fence.wide.inRound l) n P (iterPost w.heap.size S R I Ix (pre ++ [x]) W) (a₁ args) W)
    (hdone : ∀ (S : Nat → Prop) (W : World), I S xs W → W.heap[w.heap.size]? = some (.deferred (some [])) → Q .normal { a with defers := { target := .collected w.heap.size, args := #[] } :: a.defers } W)
    (hstop : ∀ (c : Code) (pre : List α) (x : α) (W : World), pre ++ [x] <+: xs → Ix c (pre ++ [x]) W → W.heap[w.heap.size]? = some (.deferred (some [])) → c.wpIn Fence.wide n P Q { a with defers := { target := .collected w.heap.size, args := #[] } :: a.defers } W) :
    (Code.rangeFunc g ps assign body).wpIn Fence.wide n P Q a w := by
  refine wpIn_rangeFunc ?_
  intro fn hfn
  rw [show Fence.wide.round = none from rfl]
  obtain ⟨rec, hrec⟩ : ∃ rec : LoopState → Option Code → Loop, rec = fun st pe => { state := st, pending := pe, fn, tmps := a.tmps, params := ps, assign, body, defers := w.heap.size } := ⟨_, rfl⟩
  obtain ⟨W1, hW1⟩ : ∃ W1, (w.alloc (.deferred (some []))).alloc (.loop (rec .ready none)) = W1 := ⟨_, rfl⟩
  have hL1 : W1.heap[w.heap.size + 1]? = some (.loop (rec .ready none)) := by
    rw [← hW1]; have := World.alloc_heap_new (w.alloc (.deferred (some []))) (.loop (rec .ready none)); rwa [World.size_alloc] at this
  have hK1 : W1.heap[w.heap.size]? = some (.deferred (some [])) := by
    rw [← hW1]; exact (Below.heap_alloc _ _ _ (by simp)).trans (World.alloc_heap_new w _)
  have hw1 : Below w.heap.size w W1 := by rw [← hW1]; exact (((Below.refl _ w).alloc (Nat.le_refl _) _).alloc (by simp) _)
  have hb1 : Below w0.heap.size w0 W1 := hb0.trans (hw1.mono hb0.size)
  have hz1 : W1.heap.size = w.heap.size + 2 := by rw [← hW1]; simp
  have hI1 : I (fun j => j = w.heap.size ∨ j = w.heap.size + 1) [] W1 := hI _ _ _ _ _ h0 (Apart.of_below hw1) (fun j hj => .inr (by omega))
  refine ⟨w.heap.size + 1, [{ target := .collected w.heap.size, args := #[] }], W1, { target := .fn (.func gf) lb, args := #[.func (.yield (w.heap.size + 1)) #[] #[]] }, W1, gf,
    #[.func (.yield (w.heap.size + 1)) #[] #[]] ++ lb, W1, ?_, ?_, ?_, ?_, fun h => (by cases h), ?_⟩
  · rw [← hW1, hrec]; exact run_enterLoop_outer _ _ _ _ _
  · simp only [resolve, hg]
    simp [go_sem]
  · intro f' hf'; trivial
  · simp [invoke, go_sem, eg]
  · refine callsIn_wide.2 ?_
    refine (hseq (w.heap.size + 1)
      (fun T pre W => I (fun j => T j ∨ j = w.heap.size ∨ j = w.heap.size + 1) pre W ∧ (∀ j, T j → w.heap.size + 2 ≤ j) ∧ W.heap[w.heap.size + 1]? = some (.loop (rec .ready none)) ∧ W.heap[w.heap.size]? = some (.deferred (some [])))
      (fun T pre W => ∃ c, Ix c pre W ∧ W.heap[w.heap.size + 1]? = some (.loop (rec .done (some c))) ∧ W.heap[w.heap.size]? = some (.deferred (some [])))
      W1 hb1 ?held ?round ⟨hI _ _ _ _ _ hI1 (Apart.refl _ _) (fun j hj => by rcases hj with h | h; exact h.elim; exact .inl h), fun j h => h.elim, hL1, hK1⟩).mono ?_
    case held =>
      rintro T T' pre A C ⟨hi, hT, hl, hk⟩ hA hT'
      have hlt : w.heap.size + 1 < A.heap.size := (Array.getElem?_eq_some_iff.1 hl).1
      refine ⟨hI _ _ _ _ _ hi (hA.mono fun j hj => .inl hj) (fun j hj => ?_), fun j hj => ?_, (hA.same _ hlt (fun h => by have := hT _ h; omega)).trans hl, (hA.same _ (by omega) (fun h => by have := hT _ h; omega)).trans hk⟩
      · rcases hj with hj | hj
        · rcases hT' j hj with h | h
          · exact .inl (.inl h)
          · exact .inr h
        · exact .inl (.inr hj)
      · rcases hT' j hj with h | h
        · exact hT j h
        · omega
    case round =>
      rintro T pre x args W ⟨hi, hT, hl, hk⟩ hrd _
      have hlt : w.heap.size + 1 < W.heap.size := (Array.getElem?_eq_some_iff.1 hl).1
      have hnT : ¬ T (w.heap.size + 1) := fun h => by have := hT _ h; omega
      have hnR : ¬ (T (w.heap.size + 1) ∨ R (w.heap.size + 1)) := fun h => by rcases h with h | h; exact hnT h; have := hR _ h; omega
      have hy := run_yield (P := P) (args := args) hl (by rw [hrec]; exact hps T x args W hrd)
      rw [hrec] at hy
      refine yield_any (m := n + 1) ⟨fn, _, assign, body, hy, roundIn_any (m := n) (roundIn_of_wpIn hfn (hassign _ T x args W _ hrd ⟨_, run_beginRound hl (by rw [hrec]), ?_⟩))⟩
      have hl2 : (W.putObj (w.heap.size + 1) (.loop { rec .ready none with state := .busy })).heap[w.heap.size + 1]? = some (.loop { rec .ready none with state := .busy }) := World.putObj_heap_same hlt
      have hk2 : (W.putObj (w.heap.size + 1) (.loop { rec .ready none with state := .busy })).heap[w.heap.size]? = some (.deferred (some [])) := (World.putObj_heap_other (by omega)).trans hk
      have hi2 := hI _ _ _ _ _ hi ((Apart.putObj W (w.heap.size + 1) (.loop { rec .ready none with state := .busy })).mono fun j hj => .inr (.inr hj)) (fun j hj => .inl hj)
      have hst := Stays.putObj (S := fun j => T j ∨ R j) hnR W (.loop { rec .ready none with state := .busy })
      have hlz := (Array.getElem?_eq_some_iff.1 hl2).1
      have hkz := (Array.getElem?_eq_some_iff.1 hk2).1
      refine wpIn_mono (hbody _ T _ pre x args _ hi2 (hRd _ _ _ _ _ hrd (hst.mono fun j hj => .inl hj)) fun j hj => .inl hj) ?_
      have fin : ∀ (jump : Option Code) (W3 : World), W3.heap[w.heap.size + 1]? = some (.loop { rec .ready none with state := .busy }) → W3.heap[w.heap.size]? = some (.deferred (some [])) →
          (Instr.endRound (w.heap.size + 1) jump).run P W3 = .ok (.bool jump.isNone) (W3.putObj (w.heap.size + 1) (.loop (rec (if jump.isNone then .ready else .done) jump))) ∧
          (W3.putObj (w.heap.size + 1) (.loop (rec (if jump.isNone then .ready else .done) jump))).heap[w.heap.size + 1]? = some (.loop (rec (if jump.isNone then .ready else .done) jump)) ∧
          (W3.putObj (w.heap.size + 1) (.loop (rec (if jump.isNone then .ready else .done) jump))).heap[w.heap.size]? = some (.deferred (some [])) := fun jump W3 hl3 hk3 => by
        have := run_endRound (P := P) jump hl3
        rw [hrec] at this ⊢
        exact ⟨this, World.putObj_heap_same (Array.getElem?_eq_some_iff.1 hl3).1, (World.putObj_heap_other (by omega)).trans hk3⟩
      rintro e a3 W3 hp
      cases e with
      | normal =>
        obtain ⟨hs3, hi3⟩ := hp
        have hl3 := (hs3.same (w.heap.size + 1) hlz (.inl (.inr (.inr rfl)))).trans hl2
        have hk3 := (hs3.same w.heap.size hkz (.inl (.inr (.inl rfl)))).trans hk2
        obtain ⟨hr, hl4, hk4⟩ := fin none W3 hl3 hk3
        refine ⟨_, _, hr, .inl ⟨rfl, ⟨hI _ _ _ _ _ hi3 ((Apart.putObj W3 _ _).mono fun j hj => .inr (.inr hj)) (fun j hj => .inl hj), hT, hl4, hk4⟩, ?_⟩⟩
        exact (hst.trans (hs3.mono fun j hj => hj.elim (fun h => .inl (.inl h)) .inr)).trans (Stays.putObj (S := fun j => T j ∨ R j) hnR W3 _)
      | ret =>
        obtain ⟨hs3, hi3⟩ := hp
        obtain ⟨hr, hl4, hk4⟩ := fin (some .ret) W3 ((hs3.same (w.heap.size + 1) hlz (by omega)).trans hl2) ((hs3.same w.heap.size hkz (by omega)).trans hk2)
        exact ⟨_, _, hr, .inr ⟨rfl, .ret, hIx _ _ _ _ hi3 (Apart.putObj W3 _ _), hl4, hk4⟩⟩
      | exit id =>
        obtain ⟨hs3, hi3⟩ := hp
        obtain ⟨hr, hl4, hk4⟩ := fin (some (.exit id)) W3 ((hs3.same (w.heap.size + 1) hlz (by omega)).trans hl2) ((hs3.same w.heap.size hkz (by omega)).trans hk2)
        exact ⟨_, _, hr, .inr ⟨rfl, .exit id, hIx _ _ _ _ hi3 (Apart.putObj W3 _ _), hl4, hk4⟩⟩
      | goto t =>
        obtain ⟨hs3, hi3⟩ := hp
        obtain ⟨hr, hl4, hk4⟩ := fin (some (.goto t)) W3 ((hs3.same (w.heap.size + 1) hlz (by omega)).trans hl2) ((hs3.same w.heap.size hkz (by omega)).trans hk2)
        exact ⟨_, _, hr, .inr ⟨rfl, .goto t, hIx _ _ _ _ hi3 (Apart.putObj W3 _ _), hl4, hk4⟩⟩
      | panic ch => exact hp.elim
      | outgrown => exact hp.elim
    · rintro e W2 ⟨⟨v, rfl⟩, (⟨T, hi, hT, hl, hk⟩ | ⟨T, pre, x, hpre, c, hi, hl, hk⟩)⟩
      · exact ⟨none, _, by have := run_endLoop (P := P) hl (by rw [hrec]; simp); rw [hrec] at this; exact this, hdone _ _ (hI _ _ _ _ _ hi ((Apart.putObj W2 _ _).mono fun j hj => .inr (.inr hj)) (fun j hj => .inl hj)) ((World.putObj_heap_other (by omega)).trans hk)⟩
      · exact ⟨some c, _, by have := run_endLoop (P := P) hl (by rw [hrec]; simp); rw [hrec] at this; exact this, hstop c pre x _ hpre (hIx _ _ _ _ hi (Apart.putObj W2 _ _)) ((World.putObj_heap_other (by omega)).trans hk)⟩
end Go.Proofs.YtgkedgfbncljbaaDoor
/-
  A LIST OF NUMBERS THAT GROWS BY ONE WHILE THE SHORTER ONE IS STILL READ: 'append(told, a)' at a step of a region that draws its order.
-/
namespace Go.Proofs.YtgkedgfbncljbaaDoor
open Go.RowKit

/-- a list of numbers in a block of its own, which may have room behind -/
abbrev World.told (w : World) (A : Option Addr) (c : Nat) (l : List Int) : Prop := w.ownsRow 0 3 1 (.slice A l.length c) l.length (icells l)
/-- one more: the shorter list still stands; the longer lies in its block or in a new one -/
structure Grew (w w' : World) (A A' : Option Addr) (c c' : Nat) (l : List Int) (x : Int) : Prop where
  new : World.told w' A' c' (l ++ [x])
  old : World.told w' A c l
  grow : w.grownBy w' (Value.slice A l.length c).ownBlock
  same : A' = A ∧ c' = c ∧ A ≠ none ∨ w.grownBy w' none ∧ ∃ g, A' = some ⟨g, 0, none⟩ ∧ w.heap.size ≤ g
theorem told_front {w : World} {A : Option Addr} {c : Nat} {l : List Int} {x : Int} (h : World.told w A c (l ++ [x])) (hA : A ≠ none) : World.told w A c l := by
  rcases h.2 with ⟨hv, _⟩ | ⟨g, cap, cur, hv, hb, hg, hn, hm, hs, ht⟩
  · simp only [Value.slice.injEq] at hv
    exact absurd hv.1 hA
  · simp only [Value.slice.injEq] at hv
    obtain ⟨rfl, _, rfl⟩ := hv
    refine ⟨by simp [icells], .inr ⟨g, c, cur, rfl, hb, hg, ?_, hm, hs, ?_⟩⟩
    · rw [List.length_append] at hn; simp at hn; omega
    · have e := congrArg (List.take (l.length * 1)) ht
      rw [List.take_take, icells_append] at e
      rw [Nat.min_eq_left (by rw [List.length_append]; simp)] at e
      rw [e, Nat.mul_one]
      have : (icells l).length = l.length := icells_length l
      rw [← this, List.take_left]
theorem told_own {A : Option Addr} {c : Nat} {l : List Int} {g : Nat} (hA : A = some ⟨g, 0, none⟩) : (Value.slice A l.length c).ownBlock = some g := by rw [hA]; rfl

theorem step_append_told {ops : Array Oper} {o : Oper} {a : Act} {w : World} {K : Act → World → Prop} {Q : Exit → Act → World → Prop} {E : Prop}
    (hgd : o.guard = none) (s x : Operand) (ho : o.op = .call { callee := .builtin .append, args := #[s, x], argTypes := #[37, 37] })
    (A : Option Addr) (c : Nat) (l : List Int) (y : Int) (hs : a.eval s = .slice A l.length c) (hown : World.told w A c l)
    (ad : Addr) (hx : a.eval x = .slice (some ad) 1 1) (hcell : ∀ j u, [Value.int .i64 y][j]? = some u → w.cell? (ad.add j) = some u) (hlen : l.length ≤ 1000)
    (h : ∀ A' c' w', Grew w w' A A' c c' l y → K (a.put o.dst (.slice A' (l.length + 1) c')) w') :
    if Region.wanted o (yielded ops a.tmps) = true then Oper.wp Tryd.prog o a w K Q else E := by
  obtain ⟨i0, hi, hz0, hz1, hz2⟩ := info_parts Tryd.infoInt
  have hone : ∀ u ∈ [Value.int .i64 y], u.oneCell' = true := one_one rfl
  have hll : (l ++ [y]).length = l.length + 1 := by simp
  by_cases hroom : l.length + 1 ≤ c
  · have hw : Region.wanted o (yielded ops a.tmps) = true := by simp [Region.wanted, hgd]
    rw [if_pos hw]
    rcases hown.2 with ⟨hv, _⟩ | ⟨g, cap, cur, hv, hb, hg, hn, hm, hsz, ht⟩
    · simp only [Value.slice.injEq] at hv
      omega
    · simp only [Value.slice.injEq] at hv
      obtain ⟨rfl, _, rfl⟩ := hv
      obtain ⟨w', hrun, r1, r2⟩ := run_append_fits (P := Tryd.prog) w 0 37 o.type 3 i0 1 Tryd.underlying37 hi hz1 g l.length c (icells l) hown ad 1 1 [.int .i64 y] rfl hcell hone hroom
      unfold Oper.wp
      simp [execOp, ho, resolve, invoke, builtin, hs, hx, hrun, Result.andThen]
      have r3 : World.told w' (some ⟨g, 0, none⟩) c (l ++ [y]) := by rw [World.told, hll, icells_append]; exact r1
      exact h _ _ w' ⟨r3, told_front r3 (by simp), r2, .inl ⟨rfl, rfl, by simp⟩⟩
  · refine step_append_grows hgd s x 37 ho 3 i0 _ 1 8 Tryd.underlying37 hi hz0 hz1 hz2 rfl (by decide) A l.length c (icells l) hs ?_ (by simp [icells]) ?_ ad 1 1 [.int .i64 y] hx rfl hcell hone (by omega) (by unfold maxLen; omega) (by omega) ?_
    · intro e
      rcases hown.2 with ⟨hv, h0⟩ | ⟨g, cap, cur, hv, _⟩
      · simp only [Value.slice.injEq] at hv
        exact ⟨hv.2.1, hv.2.2⟩
      · simp [e] at hv
    · intro b e j u hj
      obtain ⟨b', off, e', _, hc⟩ := (CRead.of_own hown) j u hj
      rw [e] at e'
      simp only [Option.some.injEq] at e'
      rw [e', Addr.add_lit]
      exact hc
    · intro v' w' r1 r2
      obtain ⟨A', c', rfl, _⟩ := own_shape r1
      obtain ⟨g, hgA⟩ := own_form r1 (by omega)
      have hlt := (own_lower r1 (Nat.zero_le _))
      refine h A' c' w' ⟨by rw [World.told, hll, icells_append]; exact hlt, hown.kept r2 (by cases (Value.slice A l.length c).ownBlock <;> simp), ⟨r2.os, r2.tape, r2.output, r2.size, fun k hk _ => r2.block k hk (by simp)⟩, .inr ⟨r2, g, hgA, ?_⟩⟩
      subst hgA
      exact (own_lt r1).1
end Go.Proofs.YtgkedgfbncljbaaDoor
/-
  THE PROGRAM's RECURSIVE CLOSURE THAT GOES THROUGH THE LISTS OF PEOPLE WHO ARE TIED ('look' in 'allTied'), by its contract: induction on how many are still to come.
-/
namespace Go.Proofs.YtgkedgfbncljbaaDoor
open Go.RowKit

theorem told_kept {w w' : World} {A : Option Addr} {c : Nat} {l : List Int} (h : World.told w A c l) (hk : ∀ k, (Value.slice A l.length c).ownBlock = some k → w'.heap[k]? = w.heap[k]?) : World.told w' A c l := by
  refine ⟨h.1, ?_⟩
  rcases h.2 with h' | ⟨g, cap, cur, hv, hb, hg, rest⟩
  · exact .inl h'
  · exact .inr ⟨g, cap, cur, hv, hb, (hk g (by rw [hv]; rfl)).trans hg, rest⟩

/-- All lists have come. -/
structure LookYes (J : (Nat → Prop) → List (List Int) → World → Prop) (R S : Nat → Prop) (A : Option Addr) (c : Nat) (l : List Int) (xs : List (List Int)) (W W' : World) : Prop where
  ex : ∃ S', J S' xs W' ∧ (∀ j, S j → S' j) ∧ (∀ j, S' j → S j ∨ W.heap.size ≤ j)
  below : Below 0 W W'
  ro : ∀ j, R j → W'.heap[j]? = W.heap[j]?
  other : ∀ j, S j → j < W.heap.size → (Value.slice A l.length c).ownBlock ≠ some j → W'.heap[j]? = W.heap[j]?
  told : World.told W' A c l
/-- How a call of the closure ends. -/
def LookPost (J Jx : (Nat → Prop) → List (List Int) → World → Prop) (R S : Nat → Prop) (A : Option Addr) (c : Nat) (l : List Int) (pre L : List (List Int)) (W : World) : Bool → World → Prop
  | true, W' => LookYes J R S A c l (pre ++ L) W W'
  | false, W' => ∃ S' q x, q ++ [x] <+: L ∧ Jx S' (pre ++ (q ++ [x])) W'

section
variable {J Jx : (Nat → Prop) → List (List Int) → World → Prop} {R S S1 : Nat → Prop} {A A' : Option Addr} {c c' B : Nat} {l : List Int} {xs pre : List (List Int)} {W wr X w1 w2 : World}
theorem LookYes.start (hJ : J S xs W) (ht : World.told W A c l) : LookYes J R S A c l xs W W := ⟨⟨S, hJ, fun _ h => h, fun _ h => .inl h⟩, Below.refl _ _, fun _ _ => rfl, fun _ _ _ _ => rfl, ht⟩
/-- one person more: what holds where the closure is called again -/
theorem LookYes.step {x : Int} (hh : Held J) (h : LookYes J R S A c l xs W wr) (hA : ∀ k, (Value.slice A l.length c).ownBlock = some k → S k) (hS : ∀ j, S j → B ≤ j) (hR : ∀ j, R j → j < B) (hB : B ≤ W.heap.size)
    (hX : Below wr.heap.size wr X) (g : Grew X w1 A A' c c' l x) :
    (∃ S2, J S2 xs w1 ∧ (∀ j, S j → S2 j) ∧ (∀ j, S2 j → S j ∨ W.heap.size ≤ j) ∧ (∀ k, (Value.slice A' (l ++ [x]).length c').ownBlock = some k → S2 k)) ∧ (∀ j, R j → w1.heap[j]? = wr.heap[j]?) ∧ B ≤ w1.heap.size ∧ W.heap.size ≤ w1.heap.size := by
  obtain ⟨S1, hJ1, hs1, hs2⟩ := h.ex
  have hsz := h.below.size
  have hsX := hX.size
  have hs3 := g.grow.size
  have hap : Apart S1 wr w1 := ⟨(hX.mono (Nat.zero_le _)).trans ((Below.refl 0 X).grown g.grow (Nat.zero_le _) fun k _ => Nat.zero_le k), fun j hj hn => by
    rw [g.grow.block j (by omega) (fun e => hn (hs1 j (hA j e.symm))), hX.block j hj]⟩
  refine ⟨⟨fun j => S1 j ∨ (wr.heap.size ≤ j ∧ j < w1.heap.size), hh _ _ _ _ _ hJ1 hap (fun j hj => hj), fun j hj => .inl (hs1 j hj), fun j hj => ?_, fun k hk => ?_⟩, fun j hj => ?_, by omega, by omega⟩
  · rcases hj with hj | hj
    · exact hs2 j hj
    · exact .inr (by omega)
  · rcases g.same with ⟨rfl, rfl, _⟩ | ⟨_, b, rfl, hb⟩
    · exact .inl (hs1 k (hA k (by
        cases hA' : A' with
        | none => rw [hA'] at hk; simp [Value.ownBlock] at hk
        | some a => rw [hA'] at hk; exact hk)))
    · have hlt := (own_lt g.new).2
      have : b = k := by simpa [Value.ownBlock] using hk
      subst this
      exact .inr ⟨by omega, hlt⟩
  · have h1 := hR j hj
    rw [g.grow.block j (by omega) (fun e => by have := hS j (hA j e.symm); omega), hX.block j (by omega)]
theorem LookYes.next {x : Int} {S2 : Nat → Prop} {L : List (List Int)} (h : LookYes J R S A c l xs W wr) (hA : ∀ k, (Value.slice A l.length c).ownBlock = some k → S k) (hS : ∀ j, S j → B ≤ j) (hR : ∀ j, R j → j < B) (hB : B ≤ W.heap.size)
    (hX : Below wr.heap.size wr X) (g : Grew X w1 A A' c c' l x) (k1 : ∀ j, S j → S2 j) (k2 : ∀ j, S2 j → S j ∨ W.heap.size ≤ j) (h2 : LookYes J R S2 A' c' (l ++ [x]) L w1 w2) : LookYes J R S A c l L W w2 := by
  have hsz := h.below.size
  have hsX := hX.size
  have hs3 := g.grow.size
  have hoA : ∀ j, S j → (Value.slice A l.length c).ownBlock ≠ some j → w1.heap[j]? = wr.heap[j]? ∨ wr.heap.size ≤ j := fun j _ hne => by
    by_cases hlt : j < wr.heap.size
    · exact .inl (by rw [g.grow.block j (by omega) (fun e => hne e.symm), hX.block j hlt])
    · exact .inr (by omega)
  refine ⟨?_, (h.below.trans ((hX.mono (Nat.zero_le _)).trans ((Below.refl 0 X).grown g.grow (Nat.zero_le _) fun k _ => Nat.zero_le k))).trans h2.below, fun j hj => ?_, fun j hj hlt hne => ?_, ?_⟩
  · obtain ⟨S', hJ', e1, e2⟩ := h2.ex
    refine ⟨S', hJ', fun j hj => e1 j (k1 j hj), fun j hj => ?_⟩
    rcases e2 j hj with h' | h'
    · exact k2 j h'
    · exact .inr (by omega)
  · have h1 := hR j hj
    rw [h2.ro j hj, g.grow.block j (by omega) (fun e => by have := hS j (hA j e.symm); omega), hX.block j (by omega), h.ro j hj]
  · rw [h2.other j (k1 j hj) (by omega) ?_]
    · rcases hoA j hj hne with h' | h'
      · rw [h', h.other j hj hlt hne]
      · omega
    · rcases g.same with ⟨rfl, rfl, _⟩ | ⟨_, b, rfl, hb⟩
      · intro e
        refine hne ?_
        cases hA' : A' with
        | none => rw [hA'] at e; simp [Value.ownBlock] at e
        | some a => rw [hA'] at e; exact e
      · intro e
        have : b = j := by simpa [Value.ownBlock] using e
        omega
  · rcases g.same with ⟨rfl, rfl, hne⟩ | ⟨_, b, rfl, hb⟩
    · exact told_front h2.told hne
    · refine told_kept g.old fun k hk => ?_
      have hklt := (own_lies g.old k hk).2
      refine h2.other k (k1 k (hA k hk)) hklt fun e => ?_
      have hbk : b = k := by simpa [Value.ownBlock] using e
      have hkX := (own_lies h.told k hk).2
      omega
end
theorem IsSet.smaller {J a : Nat} {cs : List Nat} (h : IsSet J (a :: cs)) : J &&& (65535 - 2 ^ a) < J := by
  have h1 := Nat.and_le_left (n := J) (m := 65535 - 2 ^ a)
  rcases Nat.lt_or_eq_of_le h1 with h2 | h2
  · exact h2
  · have h3 := (h.mem a).2 List.mem_cons_self
    have h4 := h.tail.mem a
    rw [h2, h3] at h4
    have h5 := h4.1 rfl
    have := (List.pairwise_cons.1 h.up).1 a h5
    omega
end Go.Proofs.YtgkedgfbncljbaaDoor
/-
  THE PROGRAM's RECURSIVE CLOSURE THAT GOES THROUGH THE LISTS OF PEOPLE WHO ARE TIED, walked.
-/
namespace Go.Proofs.YtgkedgfbncljbaaDoor
open Go.RowKit Go.Shelf
attribute [local go_sem] Oper.semAt_some

theorem clear_bit {j a : Nat} (hj : j < 65536) (ha : a < 16) : bits BinOp.andNot IntKind.u16 (j : Int) (IntKind.u16.wrap (2 ^ min a 16)) = ((j &&& (65535 - 2 ^ a) : Nat) : Int) := by
  have h2 : 2 ^ a < 2 ^ 16 := Nat.pow_lt_pow_right (by omega) ha
  rw [show (2 : Nat) ^ 16 = 65536 from rfl] at h2
  have e : IntKind.u16.wrap (2 ^ min a 16) = ((2 ^ a : Nat) : Int) := by
    obtain ⟨m, hm⟩ : ∃ m, 2 ^ a = m := ⟨_, rfl⟩
    rw [Nat.min_eq_left (by omega), IntKind.wrap_u16, show (2 : Int) ^ a = ((2 ^ a : Nat) : Int) from by simp, hm]
    rw [hm] at h2
    omega
  rw [e, u16_andNot_nat j _ hj h2]

end Go.Proofs.YtgkedgfbncljbaaDoor
/-
  THE PROGRAM's ITERATOR OVER LISTS OF TIED PEOPLE ('allTied'): its contract, in the form that the law of the statement takes.
-/
namespace Go.Proofs.YtgkedgfbncljbaaDoor
open Go.RowKit

/-- ties as the program has them: twelve sets -/
def tcells (T : Nat → Nat) : Array Value := #[.int .u16 (T 0), .int .u16 (T 1), .int .u16 (T 2), .int .u16 (T 3), .int .u16 (T 4), .int .u16 (T 5), .int .u16 (T 6), .int .u16 (T 7), .int .u16 (T 8), .int .u16 (T 9), .int .u16 (T 10), .int .u16 (T 11)]
theorem tcells_at (T : Nat → Nat) : ∀ a, a < 12 → (tcells T)[a]? = some (.int .u16 (T a)) := by
  intro a ha
  match a, ha with
  | 0, _ => rfl
  | 1, _ => rfl
  | 2, _ => rfl
  | 3, _ => rfl
  | 4, _ => rfl
  | 5, _ => rfl
  | 6, _ => rfl
  | 7, _ => rfl
  | 8, _ => rfl
  | 9, _ => rfl
  | 10, _ => rfl
  | 11, _ => rfl
/-- sets of people that tell who is tied to whom -/
structure TiesOf (T : Nat → Nat) (t : Nat → Nat → Bool) : Prop where
  bit : ∀ a b, a < 12 → b < 16 → (T a).testBit b = t a b
  lt : ∀ a, a < 12 → T a < 65536

end Go.Proofs.YtgkedgfbncljbaaDoor
/-
  HOW MANY LISTS OF TIED PEOPLE THERE ARE ('countTied'), and whether there is one ('hasTied'), by their contracts.
-/
namespace Go.Proofs.YtgkedgfbncljbaaDoor
open Go.RowKit Go.Shelf
attribute [local go_sem] Oper.semAt_some

theorem listsC_length_le (t : Nat → Nat → Bool) : ∀ (k : Nat) (told : List Int) (cs : List Nat), (listsC t k told cs).length ≤ 2 ^ cs.length := by
  intro k told cs
  induction h : k + cs.length using Nat.strongRecOn generalizing k told cs with
  | _ n ih =>
    match k, cs with
    | 0, cs => rw [listsC_zero]; exact Nat.one_le_two_pow
    | k + 1, [] => rw [listsC_nil]; simp
    | k + 1, a :: cs =>
      rw [listsC_cons, List.length_append]
      simp only [List.length_cons] at h
      have h0 : (cs.filter (t a)).length ≤ cs.length := List.length_filter_le _ _
      have h1 := ih (k + (cs.filter (t a)).length) (by omega) k (told ++ [(a : Int)]) (cs.filter (t a)) rfl
      have h2 := ih (k + 1 + cs.length) (by omega) (k + 1) told cs rfl
      have h3 : 2 ^ (cs.filter (t a)).length ≤ 2 ^ cs.length := Nat.pow_le_pow_right (by omega) h0
      rw [List.length_cons, Nat.pow_succ]
      omega
theorem set_len {j : Nat} {cs : List Nat} (hs : IsSet j cs) (hcs : ∀ b ∈ cs, b < 12) : cs.length ≤ 12 := by
  have h := List.Nodup.length_le_of_subset (l₁ := cs) (l₂ := List.range 12) (hs.up.imp fun h => Nat.ne_of_lt h) (fun b hb => List.mem_range.2 (hcs b hb))
  simpa using h
theorem lists_few {t : Nat → Nat → Bool} {k : Nat} {told : List Int} {j : Nat} {cs : List Nat} (hs : IsSet j cs) (hcs : ∀ b ∈ cs, b < 12) : (listsC t k told cs).length ≤ 4096 := by
  have h1 := listsC_length_le t k told cs
  have h2 : 2 ^ cs.length ≤ 2 ^ 12 := Nat.pow_le_pow_right (by omega) (set_len hs hcs)
  omega
theorem wrap_next (n : Nat) : wrap64 (wrap64 (n : Int) + 1) = wrap64 ((n + 1 : Nat) : Int) := by unfold wrap64; omega

theorem below_putObj {B l : Nat} {A W : World} (h : Below B A W) (hB : B ≤ W.heap.size) (hl : B ≤ l) (o : Obj) : Below B A (W.putObj l o) := h.grown (grownBy_putObj' W l o) hB (fun k e => by cases e; exact hl)

theorem cell_putObj {W : World} {l b o : Nat} (ob : Obj) (hne : b ≠ l) : (W.putObj l ob).cell? ⟨b, o, none⟩ = W.cell? ⟨b, o, none⟩ := World.cell?_of_block (w := W) (w' := W.putObj l ob) (a := ⟨b, o, none⟩) (World.putObj_heap_other hne)

end Go.Proofs.YtgkedgfbncljbaaDoor
/-
  TIES AS THE PROGRAM HAS THEM, twelve sets of people: made of a party's pairs ('friendsIn'); those missing ('strangersIn'); everybody. Written by wip/tools/gen_ties.py.
-/
namespace Go.Proofs.YtgkedgfbncljbaaDoor
open Go.RowKit

def updN (T : Nat → Nat) (a v : Nat) : Nat → Nat := fun i => if i = a then v else T i
/-- one pair more is tied -/
def withT (T : Nat → Nat) (a b : Nat) : Nat → Nat := updN (updN T a (T a ||| 2 ^ b)) b (updN T a (T a ||| 2 ^ b) b ||| 2 ^ a)
theorem tcells_row (T : Nat → Nat) : ∀ m, m < 12 → (tcells T)[m]? = some (Value.int .u16 (T m)) := tcells_at T
theorem rowIs_u16 (w : World) (T : Nat → Nat) (ty : TypeId) : (w.alloc (.cells (tcells T) ty)).rowIs w.heap.size ty 12 (fun j => .int .u16 (T j)) :=
  ⟨tcells T, heap_alloc_new w _, rfl, fun i hi => tcells_at T i hi⟩
theorem shl_bit {a : Nat} (ha : a < 16) : IntKind.u16.wrap (2 ^ min a 16) = ((2 ^ a : Nat) : Int) := by
  have h2 : 2 ^ a < 2 ^ 16 := Nat.pow_lt_pow_right (by omega) ha
  rw [show (2 : Nat) ^ 16 = 65536 from rfl] at h2
  obtain ⟨m, hm⟩ : ∃ m, 2 ^ a = m := ⟨_, rfl⟩
  rw [Nat.min_eq_left (by omega), IntKind.wrap_u16, show (2 : Int) ^ a = ((2 ^ a : Nat) : Int) from by simp, hm]
  rw [hm] at h2
  omega
theorem two_lt {a : Nat} (ha : a < 16) : 2 ^ a < 65536 := by
  have h2 : 2 ^ a < 2 ^ 16 := Nat.pow_lt_pow_right (by omega) ha
  rwa [show (2 : Nat) ^ 16 = 65536 from rfl] at h2
theorem or_bit {x a : Nat} (hx : x < 65536) (ha : a < 16) : bits BinOp.or IntKind.u16 (x : Int) (IntKind.u16.wrap (2 ^ min a 16)) = ((x ||| 2 ^ a : Nat) : Int) := by
  rw [shl_bit ha, u16_or_nat x _ hx (two_lt ha)]
theorem or_bit2 {x a : Nat} (hx : x < 65536) (ha : a < 16) : bits BinOp.or IntKind.u16 (x : Int) (IntKind.u16.wrap (2 ^ a)) = ((x ||| 2 ^ a : Nat) : Int) := by
  have := or_bit hx ha
  rwa [Nat.min_eq_left (by omega)] at this
theorem or_lt {x a : Nat} (hx : x < 65536) (ha : a < 16) : x ||| 2 ^ a < 65536 := Nat.or_lt_two_pow (n := 16) hx (two_lt ha)

end Go.Proofs.YtgkedgfbncljbaaDoor
/-
  slices.Clone of pairs and of numbers, by its contracts, at every address.
-/
namespace Go.Proofs.YtgkedgfbncljbaaDoor
open Go.RowKit

theorem read_add_P {w : World} {B : Nat} {a : Addr} {l : PL} (h : CRead w B (some a) (pcells l)) : ∀ j u, (pcells l)[j]? = some u → w.cell? (a.add j) = some u := by
  intro j u hj
  obtain ⟨b, off, e, _, hc⟩ := h j u hj
  simp only [Option.some.injEq] at e
  subst e
  rw [Go.WideShapes.add_plain]
  exact hc
theorem read_add_I {w : World} {B : Nat} {a : Addr} {l : List Int} (h : CRead w B (some a) (icells l)) : ∀ j u, (icells l)[j]? = some u → w.cell? (a.add j) = some u := by
  intro j u hj
  obtain ⟨b, off, e, _, hc⟩ := h j u hj
  simp only [Option.some.injEq] at e
  subst e
  rw [Go.WideShapes.add_plain]
  exact hc
end Go.Proofs.YtgkedgfbncljbaaDoor
/-
  'spec.l1Put': a number put into a rising list that lacks it, by its contract.
-/
namespace Go.Proofs.YtgkedgfbncljbaaDoor
open Go.RowKit

def putAt (l : List Int) (x : Int) : Nat := (l.takeWhile fun y => decide (y < x)).length
def putI (l : List Int) (x : Int) : List Int := l.take (putAt l x) ++ [x] ++ l.drop (putAt l x)
theorem putAt_le (l : List Int) (x : Int) : putAt l x ≤ l.length := by
  unfold putAt
  induction l with
  | nil => simp
  | cons y l ih =>
    rw [List.takeWhile_cons]
    split
    · simp only [List.length_cons]; omega
    · simp
theorem putAt_lt {l : List Int} {x y : Int} {k : Nat} (h : k < putAt l x) (hy : l[k]? = some y) : y < x := by
  unfold putAt at h
  induction l generalizing k with
  | nil => simp at h
  | cons z l ih =>
    rw [List.takeWhile_cons] at h
    split at h
    · rename_i hz
      cases k with
      | zero =>
        have e : z = y := by simpa using hy
        rw [← e]; exact of_decide_eq_true hz
      | succ k => exact ih (by simpa using h) (by simpa using hy)
    · simp at h
theorem putAt_stop {l : List Int} {x y : Int} (hy : l[putAt l x]? = some y) : ¬ y < x := by
  unfold putAt at hy
  induction l with
  | nil => simp at hy
  | cons z l ih =>
    rw [List.takeWhile_cons] at hy
    split at hy
    · exact ih (by simpa using hy)
    · rename_i hz
      have e : z = y := by simpa using hy
      rw [← e]
      intro h
      exact hz (decide_eq_true h)
theorem icells_take (l : List Int) (k : Nat) : icells (l.take k) = (icells l).take k := by simp [icells]
theorem icells_drop (l : List Int) (k : Nat) : icells (l.drop k) = (icells l).drop k := by simp [icells]

set_option maxHeartbeats 2000000 in
set_option maxRecDepth 100000 in
theorem l1Put_any (l : List Int) (x : Int) (g c : Nat) (w : World) (hl : l.length ≤ 12) (hd : l.length ≤ c) (hx : x ∉ l) (hA : CRead w w.heap.size (some ⟨g, 0, none⟩) (icells l)) (hgw : g < w.heap.size) :
    Calls Tryd.prog 17 #[.slice (some ⟨g, 0, none⟩) l.length c, .int .i64 x] w fun e w' => ∃ A' c', e = .returned (.slice A' (l.length + 1) c') ∧ w'.ownsRow w.heap.size 3 1 (.slice A' (l.length + 1) c') (l.length + 1) (icells (putI l x)) ∧ Below w.heap.size w w' := by
  obtain ⟨i0, hi, hz0, hz1, hz2⟩ := info_parts Tryd.infoInt
  have hpl := putAt_le l x
  have H : Aside (∀ j u, (icells l)[j]? = some u → w.cell? ((⟨g, 0, none⟩ : Addr).add j) = some u) := read_add_I hA
  have hat : ∀ k y, l[k]? = some y → w.cell? ⟨g, k, none⟩ = some (.int .i64 y) := fun k y h => by
    have := H.out k _ (icells_at h)
    rw [Addr.add_lit, Nat.zero_add] at this
    exact this
  have Hat := Lib.hid hat
  clear hA hat
  go_enter Tryd.func17, Tryd.ntmps17
  go_wp2_with fail
  go_loopw [5] (fun i wr => ∃ k : Nat, k ≤ putAt l x ∧ i = .int .i64 k ∧ w = wr) (fun i _ => putAt l x - (intOf i).toNat)
  case atStart => exact ⟨0, Nat.zero_le _, rfl, rfl⟩
  case round =>
    obtain ⟨k, hk, rfl, rfl⟩ := hrel
    by_cases hlt : k < putAt l x
    · obtain ⟨y, hy⟩ := getSome l k (by omega)
      have hyx := putAt_lt hlt hy
      have d0 := Hat.out k y hy
      have hki : (k : Int) < (l.length : Int) := by omega
      have Hy := Lib.hid hy
      clear hy
      go_wp2
      go_roundw
      case rel => exact ⟨k + 1, by omega, by go_num, trivial⟩
      case measure => simp [intOf]; omega
    · have hkl : k = putAt l x := by omega
      have HT := Lib.hid (show ∀ j u, (icells (l.take k))[j]? = some u → w.cell? ((⟨g, 0, none⟩ : Addr).add j) = some u from fun j u hj => H.out j u (by
        rw [icells_take, List.getElem?_take] at hj
        split at hj
        · exact hj
        · cases hj))
      have HD := Lib.hid (show ∀ j u, (icells (l.drop k))[j]? = some u → w.cell? ((⟨g, k, none⟩ : Addr).add j) = some u from fun j u hj => by
        rw [icells_drop, List.getElem?_drop] at hj
        have := H.out _ u hj
        rw [Addr.add_lit] at this ⊢
        rwa [Nat.zero_add] at this)
      by_cases hln : k < l.length
      · obtain ⟨y, hy⟩ := getSome l k hln
        have hyx := putAt_stop (hkl ▸ hy)
        have d0 := Hat.out k y hy
        have hki : (k : Int) < (l.length : Int) := by omega
        have hne : (y == x) = false := by
          rw [beq_eq_false_iff_ne]
          rintro rfl
          exact hx (List.mem_of_getElem? hy)
        have Hkl := Lib.hid hkl
        clear hy hkl
        have hkc : ¬ (c - k = 0) := by omega
        have hn : k + 1 + (l.length - k) = l.length + 1 := by omega
        go_wp2_with (at_builtin; first | (refine wpList_append_own _ rfl _ _ 37 rfl w.heap.size 3 i0 _ 1 8 Tryd.underlying37 hi hz0 hz1 hz2 rfl (by decide) (.slice A2 (k + 1) c2) (k + 1) _ rfl own2 ⟨g, k, none⟩ (l.length - k) (c - k) (icells (l.drop k)) rfl (by rw [icells_length, List.length_drop]; omega) (fun j u hj => by have h5 := HD.out j u hj; rw [Addr.add_lit] at h5 ⊢; exact carry k2 h5 hgw) (icells_one _) (by unfold maxLen; omega) (by omega) k2.size ?_; intro v3 w3 own3 gr3 _; have k3 : Below w.heap.size w w3 := k2.grown gr3 k2.size (fun m hm => (own2.lt m hm).1); obtain ⟨A3, c3, rfl, _⟩ := own_shape own3) | (refine wpList_append_own _ rfl _ _ 37 rfl w.heap.size 3 i0 _ 1 8 Tryd.underlying37 hi hz0 hz1 hz2 rfl (by decide) (.slice A1 k c1) k _ rfl (own1.alloc _) ⟨w1.heap.size, 0, none⟩ 1 1 [.int .i64 x] rfl rfl (one_cell (by simp)) (one_one rfl) (by unfold maxLen; omega) (by omega) (by have := k1.size; simp; omega) ?_; intro v2 w2 own2 gr2 _; have k2 : Below w.heap.size w w2 := (k1.alloc k1.size _).grown gr2 (by have := k1.size; simp; omega) (fun m hm => (own1.lt m hm).1); obtain ⟨A2, c2, rfl, _⟩ := own_shape own2) | (refine wpList_append_own _ rfl _ _ 37 rfl w.heap.size 3 i0 _ 1 8 Tryd.underlying37 hi hz0 hz1 hz2 rfl (by decide) (.slice (some ⟨w.heap.size, 0, none⟩) 0 0) 0 [] rfl (World.ownsRow_made w #[] 0 (Nat.le_refl _) (Nat.zero_le _) rfl) ⟨g, 0, none⟩ k c (icells (l.take k)) rfl (by rw [icells_length, List.length_take]; omega) (fun j u hj => Lib.cell?_alloc_some _ (HT.out j u hj)) (icells_one _) (by unfold maxLen; omega) (by omega) (by simp) ?_; intro v1 w1 own1 gr1 _; have k1 : Below w.heap.size w w1 := ((Below.refl _ w).alloc (Nat.le_refl _) _).grown gr1 (by simp) (by intro m hm; simp [Value.ownBlock] at hm; omega); simp only [Nat.zero_add, List.nil_append] at own1; obtain ⟨A1, c1, rfl, _⟩ := own_shape own1))
        go_ret
        refine ⟨A3, c3, rfl, ?_, k3⟩
        rw [hn] at own3
        rw [putI, ← Hkl.out, icells_append, icells_append]
        exact own3
      · have hki : ¬ ((k : Int) < (l.length : Int)) := by omega
        have Hkl := Lib.hid hkl
        have Hdn := Lib.hid (show icells (l.drop k) = [] by rw [List.drop_of_length_le (by omega)]; rfl)
        have hn : k + 1 + (l.length - k) = l.length + 1 := by omega
        clear hkl
        by_cases hkc : c - k = 0
        · go_wp2_with (at_builtin; first | (refine wpList_append_own _ rfl _ _ 37 rfl w.heap.size 3 i0 _ 1 8 Tryd.underlying37 hi hz0 hz1 hz2 rfl (by decide) (.slice A2 (k + 1) c2) (k + 1) _ rfl own2 ⟨g, 0, none⟩ (l.length - k) 0 (icells (l.drop k)) rfl (by rw [icells_length, List.length_drop]; omega) (fun j u hj => by rw [Hdn.out] at hj; cases hj) (icells_one _) (by unfold maxLen; omega) (by omega) k2.size ?_; intro v3 w3 own3 gr3 _; have k3 : Below w.heap.size w w3 := k2.grown gr3 k2.size (fun m hm => (own2.lt m hm).1); obtain ⟨A3, c3, rfl, _⟩ := own_shape own3) | (refine wpList_append_own _ rfl _ _ 37 rfl w.heap.size 3 i0 _ 1 8 Tryd.underlying37 hi hz0 hz1 hz2 rfl (by decide) (.slice A1 k c1) k _ rfl (own1.alloc _) ⟨w1.heap.size, 0, none⟩ 1 1 [.int .i64 x] rfl rfl (one_cell (by simp)) (one_one rfl) (by unfold maxLen; omega) (by omega) (by have := k1.size; simp; omega) ?_; intro v2 w2 own2 gr2 _; have k2 : Below w.heap.size w w2 := (k1.alloc k1.size _).grown gr2 (by have := k1.size; simp; omega) (fun m hm => (own1.lt m hm).1); obtain ⟨A2, c2, rfl, _⟩ := own_shape own2) | (refine wpList_append_own _ rfl _ _ 37 rfl w.heap.size 3 i0 _ 1 8 Tryd.underlying37 hi hz0 hz1 hz2 rfl (by decide) (.slice (some ⟨w.heap.size, 0, none⟩) 0 0) 0 [] rfl (World.ownsRow_made w #[] 0 (Nat.le_refl _) (Nat.zero_le _) rfl) ⟨g, 0, none⟩ k c (icells (l.take k)) rfl (by rw [icells_length, List.length_take]; omega) (fun j u hj => Lib.cell?_alloc_some _ (HT.out j u hj)) (icells_one _) (by unfold maxLen; omega) (by omega) (by simp) ?_; intro v1 w1 own1 gr1 _; have k1 : Below w.heap.size w w1 := ((Below.refl _ w).alloc (Nat.le_refl _) _).grown gr1 (by simp) (by intro m hm; simp [Value.ownBlock] at hm; omega); simp only [Nat.zero_add, List.nil_append] at own1; obtain ⟨A1, c1, rfl, _⟩ := own_shape own1))
          go_ret
          refine ⟨A3, c3, rfl, ?_, k3⟩
          rw [hn] at own3
          rw [putI, ← Hkl.out, icells_append, icells_append]
          exact own3
        · go_wp2_with (at_builtin; first | (refine wpList_append_own _ rfl _ _ 37 rfl w.heap.size 3 i0 _ 1 8 Tryd.underlying37 hi hz0 hz1 hz2 rfl (by decide) (.slice A2 (k + 1) c2) (k + 1) _ rfl own2 ⟨g, k, none⟩ (l.length - k) (c - k) (icells (l.drop k)) rfl (by rw [icells_length, List.length_drop]; omega) (fun j u hj => by have h5 := HD.out j u hj; rw [Addr.add_lit] at h5 ⊢; exact carry k2 h5 hgw) (icells_one _) (by unfold maxLen; omega) (by omega) k2.size ?_; intro v3 w3 own3 gr3 _; have k3 : Below w.heap.size w w3 := k2.grown gr3 k2.size (fun m hm => (own2.lt m hm).1); obtain ⟨A3, c3, rfl, _⟩ := own_shape own3) | (refine wpList_append_own _ rfl _ _ 37 rfl w.heap.size 3 i0 _ 1 8 Tryd.underlying37 hi hz0 hz1 hz2 rfl (by decide) (.slice A1 k c1) k _ rfl (own1.alloc _) ⟨w1.heap.size, 0, none⟩ 1 1 [.int .i64 x] rfl rfl (one_cell (by simp)) (one_one rfl) (by unfold maxLen; omega) (by omega) (by have := k1.size; simp; omega) ?_; intro v2 w2 own2 gr2 _; have k2 : Below w.heap.size w w2 := (k1.alloc k1.size _).grown gr2 (by have := k1.size; simp; omega) (fun m hm => (own1.lt m hm).1); obtain ⟨A2, c2, rfl, _⟩ := own_shape own2) | (refine wpList_append_own _ rfl _ _ 37 rfl w.heap.size 3 i0 _ 1 8 Tryd.underlying37 hi hz0 hz1 hz2 rfl (by decide) (.slice (some ⟨w.heap.size, 0, none⟩) 0 0) 0 [] rfl (World.ownsRow_made w #[] 0 (Nat.le_refl _) (Nat.zero_le _) rfl) ⟨g, 0, none⟩ k c (icells (l.take k)) rfl (by rw [icells_length, List.length_take]; omega) (fun j u hj => Lib.cell?_alloc_some _ (HT.out j u hj)) (icells_one _) (by unfold maxLen; omega) (by omega) (by simp) ?_; intro v1 w1 own1 gr1 _; have k1 : Below w.heap.size w w1 := ((Below.refl _ w).alloc (Nat.le_refl _) _).grown gr1 (by simp) (by intro m hm; simp [Value.ownBlock] at hm; omega); simp only [Nat.zero_add, List.nil_append] at own1; obtain ⟨A1, c1, rfl, _⟩ := own_shape own1))
          go_ret
          refine ⟨A3, c3, rfl, ?_, k3⟩
          rw [hn] at own3
          rw [putI, ← Hkl.out, icells_append, icells_append]
          exact own3

set_option maxHeartbeats 2000000 in
set_option maxRecDepth 100000 in
theorem l1Put_nil (x : Int) (w : World) :
    Calls Tryd.prog 17 #[.slice none 0 0, .int .i64 x] w fun e w' => ∃ A' c', e = .returned (.slice A' 1 c') ∧ w'.ownsRow w.heap.size 3 1 (.slice A' 1 c') 1 (icells [x]) ∧ Below w.heap.size w w' := by
  obtain ⟨i0, hi, hz0, hz1, hz2⟩ := info_parts Tryd.infoInt
  go_enter Tryd.func17, Tryd.ntmps17
  go_wp2_with fail
  go_loopw [5] (fun i wr => i = .int .i64 0 ∧ w = wr) (fun _ _ => 0)
  case atStart => exact ⟨rfl, rfl⟩
  case round =>
    obtain ⟨rfl, rfl⟩ := hrel
    go_wp2_with (at_builtin; first | (refine wpList_append_own_none rfl _ _ 37 rfl w.heap.size 3 i0 1 Tryd.underlying37 hi (.slice A2 1 c2) 1 _ rfl own2 rfl ?_) | (refine wpList_append_own_none rfl _ _ 37 rfl w.heap.size 3 i0 1 Tryd.underlying37 hi (.slice (some ⟨w.heap.size, 0, none⟩) 0 0) 0 [] rfl (World.ownsRow_made w #[] 0 (Nat.le_refl _) (Nat.zero_le _) rfl) rfl ?_) | (refine wpList_append_own _ rfl _ _ 37 rfl w.heap.size 3 i0 _ 1 8 Tryd.underlying37 hi hz0 hz1 hz2 rfl (by decide) (.slice (some ⟨w.heap.size, 0, none⟩) 0 0) 0 [] rfl ((World.ownsRow_made w #[] 0 (Nat.le_refl _) (Nat.zero_le _) rfl).alloc _) ⟨w.heap.size + 1, 0, none⟩ 1 1 [.int .i64 x] rfl rfl (one_cell (by simp)) (one_one rfl) (by unfold maxLen; omega) (by omega) (by simp; omega) ?_; intro v2 w2 own2 gr2 _; have k2 : Below w.heap.size w w2 := (((Below.refl _ w).alloc (Nat.le_refl _) _).alloc (by simp) _).grown gr2 (by simp; omega) (by intro m hm; simp [Value.ownBlock] at hm; omega); simp only [Nat.zero_add, List.nil_append] at own2; obtain ⟨A2, c2, rfl, _⟩ := own_shape own2))
    go_ret
    exact ⟨A2, c2, rfl, own2, k2⟩
end Go.Proofs.YtgkedgfbncljbaaDoor
/-
  A NUMBER PUT INTO A RISING LIST: its members, its length, that it rises. Nothing here speaks of the program.
-/
namespace Go.Proofs.YtgkedgfbncljbaaDoor
open Go.RowKit

theorem putI_mem {l : List Int} {x y : Int} : y ∈ putI l x ↔ y = x ∨ y ∈ l := by
  unfold putI
  have h : y ∈ l ↔ y ∈ l.take (putAt l x) ∨ y ∈ l.drop (putAt l x) := by rw [← List.mem_append, List.take_append_drop]
  simp only [List.mem_append, List.mem_singleton, h]
  constructor
  · rintro ((h | h) | h)
    · exact .inr (.inl h)
    · exact .inl h
    · exact .inr (.inr h)
  · rintro (h | h | h)
    · exact .inl (.inr h)
    · exact .inl (.inl h)
    · exact .inr h
theorem putI_length (l : List Int) (x : Int) : (putI l x).length = l.length + 1 := by
  have := putAt_le l x
  unfold putI
  simp only [List.length_append, List.length_take, List.length_drop, List.length_singleton]
  omega
theorem putI_up {l : List Int} {x : Int} (hl : l.Pairwise (· < ·)) (hx : x ∉ l) : (putI l x).Pairwise (· < ·) := by
  unfold putI
  have h1 : ∀ y ∈ l.take (putAt l x), y < x := by
    intro y hy
    obtain ⟨k, hk, e⟩ := List.getElem_of_mem hy
    rw [List.length_take] at hk
    rw [List.getElem_take] at e
    exact putAt_lt (l := l) (x := x) (k := k) (by omega) (by rw [List.getElem?_eq_getElem (by omega), e])
  have h2 : ∀ y ∈ l.drop (putAt l x), x < y := by
    intro y hy
    obtain ⟨k, hk, e⟩ := List.getElem_of_mem hy
    rw [List.length_drop] at hk
    rw [List.getElem_drop] at e
    have hlt : putAt l x < l.length := by omega
    have h0 := putAt_stop (l := l) (x := x) (y := l[putAt l x]) (List.getElem?_eq_getElem hlt)
    have hne : l[putAt l x] ≠ x := fun h => hx (h ▸ List.getElem_mem hlt)
    have hle : l[putAt l x] ≤ y := by
      rw [← e]
      by_cases hk0 : k = 0
      · subst hk0; simp
      · have := List.pairwise_iff_getElem.1 hl (putAt l x) (putAt l x + k) hlt (by omega) (by omega)
        omega
    omega
  refine List.pairwise_append.2 ⟨List.pairwise_append.2 ⟨hl.sublist (List.take_sublist _ _), by simp, fun y hy z hz => ?_⟩, hl.sublist (List.drop_sublist _ _), fun y hy z hz => ?_⟩
  · simp only [List.mem_singleton] at hz; subst hz; exact h1 y hy
  · rcases List.mem_append.1 hy with hy | hy
    · have := h1 y hy; have := h2 z hz; omega
    · simp only [List.mem_singleton] at hy; subst hy; exact h2 z hz
end Go.Proofs.YtgkedgfbncljbaaDoor
