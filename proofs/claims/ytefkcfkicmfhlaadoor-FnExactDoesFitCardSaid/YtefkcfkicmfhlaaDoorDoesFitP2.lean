/-
  Texts put together for the claims of 'DoesFit' (pack 2): Clue, ClueP, Iter, Pairs, Tab, Told, TiedP, Tz, Look.
-/
import Derived.Test.YtefkcfkicmfhlaaDoorDoesFitP1
import Derived.RangeFuncNested
import Derived.RangeFuncBound
import Derived.RangeFuncCalls
import Derived.RangeFuncLeaves
import Derived.Shelf.Abstract
import Derived.Shelf.RegionOpen
import Derived.OwnWalkIn
import Derived.TacticsInMore
import Derived.LoopNIn
import Derived.LoopIn
import Derived.Deep.OwnRows
import Derived.Deep.RegionLawGrows
import Derived.Laws.OwnMore
import Derived.Laws.BitsAllLaws
import Derived.Lib.TrailingZeros
import Derived.ScopeJumps
import Derived.WalkMore
/-
  CLUES AND PUZZLES: lists of clues as cells; the laws' own small functions at them (size, copy, comparison, marks), by their contracts.
-/
namespace Go.Proofs.YtefkcfkicmfhlaaDoor
open Go.RowKit

/-! ## Lists of clues as cells -/
abbrev CT := Int × Int × Int
abbrev CL := List CT
def ccells : CL → List Value
  | [] => []
  | p :: l => .int .i64 p.1 :: .int .i64 p.2.1 :: .int .i64 p.2.2 :: ccells l
theorem ccells_length (l : CL) : (ccells l).length = l.length * 3 := by
  induction l with
  | nil => rfl
  | cons p l ih => simp only [ccells, List.length_cons, ih]; omega
theorem ccells_append (l m : CL) : ccells (l ++ m) = ccells l ++ ccells m := by
  induction l with
  | nil => rfl
  | cons p l ih => simp [ccells, ih]
theorem ccells_at0 {l : CL} {k : Nat} {x y z : Int} (h : l[k]? = some (x, y, z)) : (ccells l)[k * 3]? = some (.int .i64 x) := by
  induction l generalizing k with
  | nil => simp at h
  | cons p l ih =>
    cases k with
    | zero => simp at h; subst h; rfl
    | succ k => rw [show (k + 1) * 3 = k * 3 + 3 from by omega]; simpa [ccells] using ih (by simpa using h)
theorem ccells_at1 {l : CL} {k : Nat} {x y z : Int} (h : l[k]? = some (x, y, z)) : (ccells l)[k * 3 + 1]? = some (.int .i64 y) := by
  induction l generalizing k with
  | nil => simp at h
  | cons p l ih =>
    cases k with
    | zero => simp at h; subst h; rfl
    | succ k => rw [show (k + 1) * 3 + 1 = k * 3 + 1 + 3 from by omega]; simpa [ccells] using ih (by simpa using h)
theorem ccells_at2 {l : CL} {k : Nat} {x y z : Int} (h : l[k]? = some (x, y, z)) : (ccells l)[k * 3 + 2]? = some (.int .i64 z) := by
  induction l generalizing k with
  | nil => simp at h
  | cons p l ih =>
    cases k with
    | zero => simp at h; subst h; rfl
    | succ k => rw [show (k + 1) * 3 + 2 = k * 3 + 2 + 3 from by omega]; simpa [ccells] using ih (by simpa using h)
theorem ccells_set (l : CL) (k : Nat) (x y z : Int) : (((ccells l).set (k * 3) (.int .i64 x)).set (k * 3 + 1) (.int .i64 y)).set (k * 3 + 2) (.int .i64 z) = ccells (l.set k (x, y, z)) := by
  induction l generalizing k with
  | nil => rfl
  | cons p l ih =>
    cases k with
    | zero => rfl
    | succ k =>
      rw [show (k + 1) * 3 = k * 3 + 3 from by omega, show k * 3 + 3 + 1 = k * 3 + 1 + 3 from by omega, show k * 3 + 3 + 2 = k * 3 + 2 + 3 from by omega]
      simp [ccells, ih k]
theorem ccells_one (l : CL) : ∀ u ∈ ccells l, u.oneCell' = true := by
  induction l with
  | nil => intro u h; cases h
  | cons p l ih => intro u h; simp [ccells] at h; rcases h with rfl | rfl | rfl | h <;> first | rfl | exact ih u h
theorem CRead.clue {w : World} {B : Nat} {ad : Option Addr} {l : CL} (h : CRead w B ad (ccells l)) {k : Nat} {x y z : Int} (hk : l[k]? = some (x, y, z)) :
    ∃ b off, ad = some ⟨b, off, none⟩ ∧ b < B ∧ w.cell? ⟨b, off + k * 3, none⟩ = some (.int .i64 x) ∧ w.cell? ⟨b, off + k * 3 + 1, none⟩ = some (.int .i64 y) ∧ w.cell? ⟨b, off + k * 3 + 2, none⟩ = some (.int .i64 z) := by
  obtain ⟨b, off, rfl, hb, h0⟩ := h _ _ (ccells_at0 hk)
  obtain ⟨b', off', e, _, h1⟩ := h _ _ (ccells_at1 hk)
  obtain ⟨b2, off2, e2, _, h2⟩ := h _ _ (ccells_at2 hk)
  simp only [Option.some.injEq, Addr.mk.injEq, and_true] at e e2
  obtain ⟨rfl, rfl⟩ := e
  obtain ⟨rfl, rfl⟩ := e2
  exact ⟨b, off, rfl, hb, h0, h1, h2⟩
section
variable {w w' : World} {base : Nat} {e : TypeId} {size n g cap : Nat} {v : Value} {xs : List Value}
theorem below_set3 {B : Nat} {a : World} (h : Below B a w) (hg : B ≤ g) (i j k : Nat) (x y z : Value) : Below B a (((w.setCell ⟨g, i, none⟩ x).setCell ⟨g, j, none⟩ y).setCell ⟨g, k, none⟩ z) :=
  ((h.setCell (p := ⟨g, i, none⟩) hg x).setCell (p := ⟨g, j, none⟩) hg y).setCell (p := ⟨g, k, none⟩) hg z
theorem own_setClue {l : CL} (h : w.ownsRow base e 3 (.slice (some ⟨g, 0, none⟩) n cap) n (ccells l)) (k : Nat) (x y z : Int) :
    (((w.setCell ⟨g, k * 3, none⟩ (.int .i64 x)).setCell ⟨g, k * 3 + 1, none⟩ (.int .i64 y)).setCell ⟨g, k * 3 + 2, none⟩ (.int .i64 z)).ownsRow base e 3 (.slice (some ⟨g, 0, none⟩) n cap) n (ccells (l.set k (x, y, z))) := by
  rw [← ccells_set]
  exact (((h.stored (k * 3) (.int .i64 x)).1.stored (k * 3 + 1) (.int .i64 y)).1.stored (k * 3 + 2) (.int .i64 z)).1
theorem own_clueAt {l : CL} (h : w.ownsRow base e 3 (.slice (some ⟨g, 0, none⟩) n cap) n (ccells l)) {k : Nat} {x y z : Int} (hk : l[k]? = some (x, y, z)) :
    w.cell? ⟨g, k * 3, none⟩ = some (.int .i64 x) ∧ w.cell? ⟨g, k * 3 + 1, none⟩ = some (.int .i64 y) ∧ w.cell? ⟨g, k * 3 + 2, none⟩ = some (.int .i64 z) := by
  have hl : l.length = n := by have := h.1; rw [ccells_length] at this; omega
  have hkl : k < l.length := (List.getElem?_eq_some_iff.1 hk).1
  exact ⟨(h.cellAt _ (by omega)).trans (ccells_at0 hk), (h.cellAt _ (by omega)).trans (ccells_at1 hk), (h.cellAt _ (by omega)).trans (ccells_at2 hk)⟩
theorem made_clues (n : Nat) : (madeCells #[.int .i64 0, .int .i64 0, .int .i64 0] (n * 3)).toList = ccells (List.replicate n (0, 0, 0)) := by
  have hp : ∀ m j, (ccells (List.replicate m (0, 0, 0)))[j]? = if j < m * 3 then some (.int .i64 0) else none := by
    intro m
    induction m with
    | zero => intro j; simp [ccells]
    | succ m ih =>
      intro j
      match j with
      | 0 => simp [List.replicate_succ, ccells]
      | 1 => simp [List.replicate_succ, ccells]; omega
      | 2 => simp [List.replicate_succ, ccells]; omega
      | j + 3 =>
        simp only [List.replicate_succ, ccells, List.getElem?_cons_succ, ih j]
        congr 1
        apply propext
        omega
  apply List.ext_getElem?
  intro j
  rw [hp]
  by_cases hj : j < n * 3
  · rw [if_pos hj]
    rcases (show j % 3 = 0 ∨ j % 3 = 1 ∨ j % 3 = 2 by omega) with h | h | h <;> simp [madeCells, hj, h]
  · rw [if_neg hj]
    simp [madeCells, hj]
end
def cmarks (k : Int) (n : Nat) : CL := (List.range n).map fun i : Nat => (k + 3 * (i : Int), k + 3 * (i : Int) + 1, k + 3 * (i : Int) + 2)
theorem cmarks_length (k : Int) (n : Nat) : (cmarks k n).length = n := by simp [cmarks]
theorem cmarks_at {k : Int} {n i : Nat} (h : i < n) : (cmarks k n)[i]? = some (k + 3 * i, k + 3 * i + 1, k + 3 * i + 2) := by simp [cmarks, h]

/-! ## The small functions -/
set_option maxHeartbeats 400000 in
theorem szClueS_any (ad : Option Addr) (n cap : Nat) (left : Int) (hn : n ≤ maxLen) (h0 : 0 ≤ left) (h1 : left ≤ 1048576) (w : World) :
    Calls Tryd.prog 71 #[.slice ad n cap, .int .i64 left] w fun e w' => e = .returned (.int .i64 (szI left n)) ∧ w = w' := by
  unfold maxLen at hn
  by_cases h : left - n < 0
  · have e : szI left n = -1 := if_pos h
    rw [e]
    go_enter Tryd.func71, Tryd.ntmps71
    go_wp2
    go_ret
    exact ⟨rfl, rfl⟩
  · have e : szI left n = left - n := if_neg h
    rw [e]
    go_enter Tryd.func71, Tryd.ntmps71
    go_wp2
    go_ret
    exact ⟨rfl, rfl⟩

set_option maxHeartbeats 400000 in
theorem szPuzzle_any (p : Int) (ad : Option Addr) (n cap : Nat) (left : Int) (hn : n ≤ maxLen) (h0 : 0 ≤ left) (h1 : left ≤ 1048576) (w : World) :
    Calls Tryd.prog 22 #[.agg #[.int .i64 p, .slice ad n cap], .int .i64 left] w fun e w' => e = .returned (.int .i64 (szI left n)) ∧ Below w.heap.size w w' := by
  by_cases h : szI left n < 0
  · have hneg : szI left n = -1 := by unfold szI at h ⊢; split <;> simp_all
    have Hn := Lib.hid hneg
    clear hneg
    go_enter Tryd.func22, Tryd.ntmps22
    go_wp2_with (go_at_call 71; refine (szClueS_any _ _ _ _ hn h0 h1 _).mono ?_; rintro e w' ⟨rfl, rfl⟩)
    go_ret
    exact ⟨by rw [Hn.out]; rfl, by go_grown⟩
  · go_enter Tryd.func22, Tryd.ntmps22
    go_wp2_with (go_at_call 71; refine (szClueS_any _ _ _ _ hn h0 h1 _).mono ?_; rintro e w' ⟨rfl, rfl⟩)
    go_ret
    exact ⟨rfl, by go_grown⟩

set_option maxHeartbeats 400000 in
theorem toClue_any (a b c : Int) (w : World) :
    Calls Tryd.prog 18 #[.agg #[.int .i64 a, .int .i64 b, .int .i64 c]] w fun e w' => e = .returned (.agg #[.int .i64 a, .int .i64 b, .int .i64 c]) ∧ Below w.heap.size w w' := by
  go_enter Tryd.func18, Tryd.ntmps18
  go_wp2
  go_returns
  exact ⟨rfl, by go_grown⟩

def eqClueB (x y : CT) : Bool := decide (x = y)
set_option maxHeartbeats 800000 in
theorem eqClue_any (a b c a' b' c' : Int) (w : World) :
    Calls Tryd.prog 118 #[.agg #[.int .i64 a, .int .i64 b, .int .i64 c], .agg #[.int .i64 a', .int .i64 b', .int .i64 c']] w fun e w' =>
      e = .returned (.bool (eqClueB (a, b, c) (a', b', c'))) ∧ Below w.heap.size w w' := by
  by_cases h1 : a = a'
  · by_cases h2 : b = b'
    · by_cases h3 : c = c'
      · subst h1 h2 h3
        go_enter Tryd.func118, Tryd.ntmps118
        go_wp2
        go_ret
        exact ⟨by simp [eqClueB], by go_grown⟩
      · subst h1 h2
        go_enter Tryd.func118, Tryd.ntmps118
        go_wp2
        go_ret
        exact ⟨by simp [eqClueB, h3], by go_grown⟩
    · subst h1
      go_enter Tryd.func118, Tryd.ntmps118
      go_wp2
      go_ret
      exact ⟨by simp [eqClueB, h2], by go_grown⟩
  · go_enter Tryd.func118, Tryd.ntmps118
    go_wp2
    go_ret
    exact ⟨by simp [eqClueB, h1], by go_grown⟩

set_option maxHeartbeats 2000000 in
theorem eqClueS_any (l m : CL) (A B : Option Addr) (c d : Nat) (w : World) (hl : l.length ≤ maxLen) (hm : m.length ≤ maxLen)
    (hA : CRead w w.heap.size A (ccells l)) (hB : CRead w w.heap.size B (ccells m)) :
    Calls Tryd.prog 77 #[.slice A l.length c, .slice B m.length d] w fun e w' =>
      e = .returned (.bool (decide (l = m))) ∧ Below w.heap.size w w' := by
  unfold maxLen at hl hm
  by_cases hlen : l.length = m.length
  · generalize hn : l.length = n at *
    have Hn := Lib.hid hn
    have Hm := Lib.hid hlen
    clear hn
    rw [← hlen]
    clear hlen
    go_enter Tryd.func77, Tryd.ntmps77
    go_wp2
    go_loopw [5] (fun i wr => ∃ k : Nat, k ≤ n ∧ i = .int .i64 k ∧ l.take k = m.take k ∧ Below w.heap.size w wr) (fun i _ => n - (intOf i).toNat)
    case atStart => exact ⟨0, Nat.zero_le _, rfl, rfl, Below.refl _ _⟩
    case round =>
      obtain ⟨k, hk, rfl, htk, hb⟩ := hrel
      have Htk := Lib.hid htk
      clear htk
      have hs := hb.size
      by_cases hlt : k < n
      · obtain ⟨⟨x, y, z⟩, hx⟩ := getSome l k (by rw [Hn.out]; exact hlt)
        obtain ⟨⟨x', y', z'⟩, hx'⟩ := getSome m k (by rw [← Hm.out]; exact hlt)
        obtain ⟨b, off, rfl, hbb, c0, c1, c2⟩ := (hA.below hb (Nat.le_refl _)).clue hx
        obtain ⟨b', off', rfl, hbb', c0', c1', c2'⟩ := (hB.below hb (Nat.le_refl _)).clue hx'
        have q0 : ∀ z : Ext wr.heap.size wr, z.val.cell? ⟨b, off + k * 3, none⟩ = some (.int .i64 x) := fun z => z.cell c0 (by omega)
        have q1 : ∀ z : Ext wr.heap.size wr, z.val.cell? ⟨b, off + k * 3 + 1, none⟩ = some (.int .i64 y) := fun z => z.cell c1 (by omega)
        have q2 : ∀ v : Ext wr.heap.size wr, v.val.cell? ⟨b, off + k * 3 + 2, none⟩ = some (.int .i64 z) := fun v => v.cell c2 (by omega)
        have q0' : ∀ z : Ext wr.heap.size wr, z.val.cell? ⟨b', off' + k * 3, none⟩ = some (.int .i64 x') := fun z => z.cell c0' (by omega)
        have q1' : ∀ z : Ext wr.heap.size wr, z.val.cell? ⟨b', off' + k * 3 + 1, none⟩ = some (.int .i64 y') := fun z => z.cell c1' (by omega)
        have q2' : ∀ v : Ext wr.heap.size wr, v.val.cell? ⟨b', off' + k * 3 + 2, none⟩ = some (.int .i64 z') := fun v => v.cell c2' (by omega)
        clear c0 c1 c2 c0' c1' c2'
        have hki : (k : Int) < (n : Int) := by omega
        have Hx := Lib.hid hx
        have Hx' := Lib.hid hx'
        clear hx hx'
        go_wp2
        refine wp_region_ext wr.heap.size (by kernel_rfl) (by kernel_rfl) ?_
        repeat (go_big_quiet_step ((go_at_call 118; exact Calls.ext_of ((eqClue_any _ _ _ _ _ _ _).mono fun _ _ h => ⟨h.1, h.2.mono (Ext.size _)⟩))))
        refine wpQuiet_nil ?_
        rintro _ ⟨⟨w1, hb1⟩, rfl⟩
        clear q0 q1 q2 q0' q1' q2'
        have hs1 := hb1.size
        cases hq : eqClueB (x, y, z) (x', y', z')
        · go_wp2
          go_ret
          refine ⟨?_, hb.trans (hb1.mono hs)⟩
          have e : ¬ ((x, y, z) = (x', y', z')) := of_decide_eq_false hq
          have : l ≠ m := by rintro rfl; have h := Hx.out; rw [Hx'.out] at h; exact e (Option.some.inj h).symm
          simp [this]
        · go_wp2
          go_roundw
          case rel =>
            refine ⟨k + 1, by omega, by go_num, ?_, hb.trans (hb1.mono hs)⟩
            have e := of_decide_eq_true hq
            rw [List.take_add_one, List.take_add_one, Htk.out, Hx.out, Hx'.out, e]
          case measure => simp [intOf]; omega
      · have hkl : k = n := by omega
        go_wp2
        go_ret
        refine ⟨?_, hb⟩
        have e := Htk.out
        rw [hkl, List.take_of_length_le (by rw [Hn.out]; exact Nat.le_refl _), List.take_of_length_le (by rw [← Hm.out]; exact Nat.le_refl _)] at e
        simp [e]
  · have hne : l ≠ m := by rintro rfl; exact hlen rfl
    have e : decide (l = m) = false := by simp [hne]
    rw [e]
    clear e
    go_enter Tryd.func77, Tryd.ntmps77
    go_wp2
    go_ret
    exact ⟨rfl, Below.refl _ _⟩
theorem Tryd.infoClue : (Tryd.prog.info? 30).map (fun i => (i.zero, i.size, i.bytes)) = some (some (.agg #[.int .i64 0, .int .i64 0, .int .i64 0]), 3, 24) := by kernel_rfl

set_option maxHeartbeats 1000000 in
theorem toClueS_any (l : CL) (A : Option Addr) (c : Nat) (w : World) (hl : l.length ≤ 1048576) (hA : CRead w w.heap.size A (ccells l)) :
    Calls Tryd.prog 74 #[.slice A l.length c] w fun e w' =>
      e = .returned (.slice (some ⟨w.heap.size, 0, none⟩) l.length l.length) ∧ w'.ownsRow w.heap.size 30 3 (.slice (some ⟨w.heap.size, 0, none⟩) l.length l.length) l.length (ccells l) ∧ Below w.heap.size w w' := by
  obtain ⟨i0, hi, hz0, hz1, hz2⟩ := info_parts Tryd.infoClue
  generalize hn : l.length = n at *
  have Hn := Lib.hid hn
  clear hn
  generalize hg : w.heap.size = g at *
  have Hg := Lib.hid hg
  clear hg
  go_enter Tryd.func74, Tryd.ntmps74
  go_wp2_with (at_make; refine wpList_make_full _ rfl _ _ 45 rfl g 30 i0 _ 3 Tryd.underlying45 hi hz0 hz1 _ _ _ _ n rfl rfl (by omega) (by omega) (by rw [hz2]; omega) (by unfold maxLen; omega) (by rw [Hg.out]; exact Nat.le_refl _) ?_; rw [Hg.out]; intro w1 hown1 hgr1)
  have hs1 : g < w1.heap.size := (own_lt hown1).2
  have hb1 : Below g w w1 := (Below.refl _ _).grown hgr1 (by rw [Hg.out]; exact Nat.le_refl _) (by simp)
  rw [show Value.cells (.agg #[.int .i64 0, .int .i64 0, .int .i64 0]) = #[.int .i64 0, .int .i64 0, .int .i64 0] from rfl, made_clues] at hown1
  have hge : w.heap.size ≤ g := by rw [Hg.out]; exact Nat.le_refl _
  go_loopw [4] (fun i wr => ∃ k : Nat, k ≤ n ∧ i = .int .i64 k ∧ wr.ownsRow g 30 3 (.slice (some ⟨g, 0, none⟩) n n) n (ccells (l.take k ++ List.replicate (n - k) (0, 0, 0))) ∧ Below g w wr) (fun i _ => n - (intOf i).toNat)
  case atStart => exact ⟨0, Nat.zero_le _, rfl, by simpa using hown1, hb1⟩
  case round =>
    obtain ⟨k, hk, rfl, hown, hb⟩ := hrel
    have hs := own_lt hown
    have hki : (k : Int) ≤ n := by omega
    by_cases hlt : k < n
    · obtain ⟨⟨x, y, z⟩, hx⟩ := getSome l k (by rw [Hn.out]; exact hlt)
      obtain ⟨b, off, rfl, hbb, c0, c1, c2⟩ := (hA.below hb (Nat.le_refl _)).clue hx
      have hlt' : (k : Int) < n := by omega
      have hz : (l.take k ++ List.replicate (n - k) (0, 0, 0))[k]? = some (0, 0, 0) := by
        rw [List.getElem?_append_right (by simp; omega)]
        have h1 : min k l.length = k := Nat.min_eq_left (by rw [Hn.out]; exact hk)
        simp only [List.length_take, h1, Nat.sub_self]
        rw [List.getElem?_replicate, if_pos (by omega)]
      have Hx := Lib.hid hx
      clear hx
      have Hz := Lib.hid hz
      clear hz
      go_wp2_with (go_at_call 18; refine (toClue_any _ _ _ _).mono ?_; rintro e w2 ⟨rfl, hb2⟩; have hown2 := own_below hown hb2 (Nat.le_refl _); have ⟨d0, d1, d2⟩ := own_clueAt hown2 Hz.out; have f0 := hown2.frozenAt (k * 3); have f1 := hown2.frozenAt (k * 3 + 1); have f2 := hown2.frozenAt (k * 3 + 2))
      go_roundw
      case rel =>
        refine ⟨k + 1, by omega, by go_num, ?_, ?_⟩
        · have h2 := own_setClue hown2 k x y z
          rwa [take_set_replicate l (0, 0, 0) n k (x, y, z) Hn.out Hx.out] at h2
        · exact below_set3 (hb.trans (hb2.mono (by omega))) (Nat.le_refl _) _ _ _ _ _ _
      case measure => simp [intOf]; omega
    · have hkl : k = n := by omega
      subst hkl
      have hge : ¬ ((k : Int) < k) := by omega
      go_wp2
      go_ret
      refine ⟨rfl, ?_, hb⟩
      rwa [Nat.sub_self, List.replicate_zero, List.append_nil, List.take_of_length_le (by rw [Hn.out]; exact Nat.le_refl _)] at hown

set_option maxHeartbeats 1000000 in
theorem markClueS_any (l : CL) (A : Option Addr) (n c : Nat) (k0 : Int) (base : Nat) (w : World) (hn : l.length = n) (hl : n ≤ 1048576) (hk0 : 0 ≤ k0 ∧ k0 ≤ 16777216) (hown0 : w.ownsRow base 30 3 (.slice A n c) n (ccells l)) :
    Calls Tryd.prog 78 #[.slice A n c, .int .i64 k0] w fun e w' =>
      e = .returned (.int .i64 (k0 + 3 * n)) ∧ w'.ownsRow base 30 3 (.slice A n c) n (ccells (cmarks k0 n)) ∧ w.grownBy w' (Value.ownBlock (.slice A n c)) := by
  have Hn := Lib.hid hn
  obtain ⟨hk00, hk01⟩ := hk0
  clear hn
  go_enter Tryd.func78, Tryd.ntmps78
  go_wp2
  go_loopw [1, 5] (fun q i wr => ∃ k : Nat, k ≤ n ∧ i = .int .i64 k ∧ q = .int .i64 (k0 + 3 * k) ∧ wr.ownsRow base 30 3 (.slice A n c) n (ccells ((cmarks k0 n).take k ++ l.drop k)) ∧ w.grownBy wr (Value.ownBlock (.slice A n c))) (fun _ i _ => n - (intOf i).toNat)
  case atStart => exact ⟨0, Nat.zero_le _, rfl, by simp, by simpa using hown0, World.grownBy.refl _ _⟩
  case round =>
    obtain ⟨k, hk, rfl, rfl, hown, hb⟩ := hrel
    by_cases hlt : k < n
    · obtain ⟨g, rfl⟩ := own_form hown (by omega)
      obtain ⟨⟨x, y, z⟩, hz, hx⟩ := take_drop_at (cmarks k0 n) l n k (cmarks_length _ _) Hn.out hlt
      have hlt' : (k : Int) < n := by omega
      obtain ⟨d0, d1, d2⟩ := own_clueAt hown hz
      have f0 := hown.frozenAt (k * 3)
      have f1 := hown.frozenAt (k * 3 + 1)
      have f2 := hown.frozenAt (k * 3 + 2)
      have Hz := Lib.hid hz
      clear hz hx
      go_wp2
      go_roundw
      case rel =>
        refine ⟨k + 1, by omega, by go_num, by go_num, ?_, ?_⟩
        · rw [show k0 + 3 * (k : Int) + 1 + 1 = k0 + 3 * (k : Int) + 2 by omega]
          have h2 := own_setClue hown k (k0 + 3 * k) (k0 + 3 * k + 1) (k0 + 3 * k + 2)
          rwa [take_set_drop (cmarks k0 n) l n k _ (cmarks_length _ _) Hn.out (cmarks_at hlt)] at h2
        · exact gb_trans (gb_trans (gb_trans hb (hown.stored (k * 3) _).2) ((hown.stored (k * 3) _).1.stored (k * 3 + 1) _).2) (((hown.stored (k * 3) _).1.stored (k * 3 + 1) _).1.stored (k * 3 + 2) _).2
      case measure => simp [intOf]; omega
    · have hkl : k = n := by omega
      subst hkl
      have hge : ¬ ((k : Int) < k) := by omega
      go_wp2
      go_ret
      refine ⟨rfl, ?_, hb⟩
      rwa [List.take_of_length_le (by rw [cmarks_length]; exact Nat.le_refl _), List.drop_of_length_le (by rw [Hn.out]; exact Nat.le_refl _), List.append_nil] at hown

set_option maxHeartbeats 1000000 in
theorem heldClueS_any (A : Option Addr) (n c : Nat) (k0 : Int) (w : World) (hl : n ≤ 1048576) (hk0 : 0 ≤ k0 ∧ k0 ≤ 16777216) (hA : CRead w w.heap.size A (ccells (cmarks k0 n))) :
    Calls Tryd.prog 90 #[.slice A n c, .int .i64 k0] w fun e w' => e = .returned (.int .i64 (k0 + 3 * n)) ∧ w = w' := by
  obtain ⟨hk00, hk01⟩ := hk0
  go_enter Tryd.func90, Tryd.ntmps90
  go_wp2
  go_loop [1, 5] (fun q i => ∃ k : Nat, k ≤ n ∧ i = .int .i64 k ∧ q = .int .i64 (k0 + 3 * k)) (fun _ i => n - (intOf i).toNat)
  case atStart => exact ⟨0, Nat.zero_le _, rfl, by simp⟩
  case round =>
    obtain ⟨k, hk, rfl, rfl⟩ := hrel
    by_cases hlt : k < n
    · obtain ⟨b, off, rfl, hbb, c0, c1, c2⟩ := hA.clue (cmarks_at hlt)
      have hlt' : (k : Int) < n := by omega
      go_wp2
      go_round
      case rel => exact ⟨k + 1, by omega, by go_num, by go_num⟩
      case measure => simp [intOf]; omega
    · have hkl : k = n := by omega
      subst hkl
      have hge : ¬ ((k : Int) < k) := by omega
      go_wp2
      go_ret
      exact ⟨rfl, rfl⟩

/-! ## Puzzles -/
/-- A call came back with a puzzle whose clues lie in memory of its own. -/
def GotPuzzle (w : World) (p : Int) (l : CL) (e : Ending) (w' : World) : Prop :=
  ∃ A c, e = .returned (.agg #[.int .i64 p, .slice A l.length c]) ∧ w'.ownsRow w.heap.size 30 3 (.slice A l.length c) l.length (ccells l) ∧ Below w.heap.size w w'
/-- A call came back with a puzzle and a bool; its clues lie in memory of its own. -/
def GotPuzzleOk (w : World) (p : Int) (l : CL) (ok : Bool) (e : Ending) (w' : World) : Prop :=
  ∃ A c, e = .returned (.tuple #[.agg #[.int .i64 p, .slice A l.length c], .bool ok]) ∧ w'.ownsRow w.heap.size 30 3 (.slice A l.length c) l.length (ccells l) ∧ Below w.heap.size w w'

set_option maxHeartbeats 1000000 in
theorem toPuzzle_any (p : Int) (l : CL) (A : Option Addr) (c : Nat) (w : World) (hl : l.length ≤ 1048576) (hA : CRead w w.heap.size A (ccells l)) :
    Calls Tryd.prog 24 #[.agg #[.int .i64 p, .slice A l.length c]] w (GotPuzzle w p l) := by
  generalize hn : l.length = n at *
  have Hn := Lib.hid hn
  go_enter Tryd.func24, Tryd.ntmps24
  go_wp2_with (go_at_call 74; rw [← Hn.out]; refine (toClueS_any l _ _ _ (by rw [Hn.out]; exact hl) (hA.below (B' := w.heap.size) (by go_grown) (Nat.le_refl _) |>.more (by go_size))).mono ?_; rw [Hn.out]; rintro e w2 ⟨rfl, hown2, hb2⟩; have ⟨hc, hf⟩ := old_cells hb2; have hz := hb2.size; simp only [World.size_alloc] at hc hf hz)
  refine bodyPost_ret (v := .agg #[.int .i64 p, .slice (some ⟨w.heap.size + 1 + 1 + 1, 0, none⟩) n n]) (by simp [results, Tryd.results24, go_sem, hc]) rfl ?_
  simp only [World.size_alloc] at hown2 hb2
  have hb3 : Below w.heap.size w w2 := Below.trans (b := _) (by go_grown) (hb2.mono (by omega))
  refine ⟨some ⟨w.heap.size + 1 + 1 + 1, 0, none⟩, n, by rw [hn], ?_, ?_⟩
  · rw [hn]
    exact own_far (own_far (own_far (own_lower hown2 (by omega)) (p := ⟨w.heap.size + 1 + 1, 1, none⟩) (by simp) _) (p := ⟨w.heap.size + 1, 0, none⟩) (by simp) _) (p := ⟨w.heap.size + 1, 1, none⟩) (by simp) _
  · exact ((hb3.setCell (p := ⟨w.heap.size + 1 + 1, 1, none⟩) (by simp; omega) _).setCell (p := ⟨w.heap.size + 1, 0, none⟩) (by simp) _).setCell (p := ⟨w.heap.size + 1, 1, none⟩) (by simp) _

set_option maxHeartbeats 1000000 in
theorem eqPuzzle_any (p q : Int) (l m : CL) (A B : Option Addr) (c d : Nat) (w : World) (hl : l.length ≤ maxLen) (hm : m.length ≤ maxLen)
    (hA : CRead w w.heap.size A (ccells l)) (hB : CRead w w.heap.size B (ccells m)) :
    Calls Tryd.prog 27 #[.agg #[.int .i64 p, .slice A l.length c], .agg #[.int .i64 q, .slice B m.length d]] w fun e w' =>
      e = .returned (.bool (decide (p = q ∧ l = m))) ∧ Below w.heap.size w w' := by
  by_cases hpq : p = q
  · subst hpq
    by_cases hlm : l = m
    · have e : decide (p = p ∧ l = m) = true := by simp [hlm]
      rw [e]
      clear e
      have Hlm := Lib.hid hlm
      clear hlm
      go_enter Tryd.func27, Tryd.ntmps27
      go_wp2_with (go_at_call 77; refine (eqClueS_any l m _ _ _ _ _ hl hm ((hA.below (B' := w.heap.size) (by go_grown) (Nat.le_refl _)).more (by go_size)) ((hB.below (B' := w.heap.size) (by go_grown) (Nat.le_refl _)).more (by go_size))).mono ?_; rw [decide_eq_true Hlm.out]; rintro e w2 ⟨rfl, hb2⟩; simp only [World.size_alloc] at hb2)
      go_ret
      exact ⟨rfl, Below.trans (b := _) (by go_grown) (hb2.mono (by omega))⟩
    · have e : decide (p = p ∧ l = m) = false := by simp [hlm]
      rw [e]
      clear e
      have Hlm := Lib.hid hlm
      clear hlm
      go_enter Tryd.func27, Tryd.ntmps27
      go_wp2_with (go_at_call 77; refine (eqClueS_any l m _ _ _ _ _ hl hm ((hA.below (B' := w.heap.size) (by go_grown) (Nat.le_refl _)).more (by go_size)) ((hB.below (B' := w.heap.size) (by go_grown) (Nat.le_refl _)).more (by go_size))).mono ?_; rw [decide_eq_false Hlm.out]; rintro e w2 ⟨rfl, hb2⟩; simp only [World.size_alloc] at hb2)
      go_ret
      exact ⟨rfl, Below.trans (b := _) (by go_grown) (hb2.mono (by omega))⟩
  · have e : decide (p = q ∧ l = m) = false := by simp [hpq]
    rw [e]
    clear e
    go_enter Tryd.func27, Tryd.ntmps27
    go_wp2
    go_ret
    exact ⟨rfl, by go_grown⟩

set_option maxHeartbeats 1000000 in
theorem markPuzzle_any (p : Int) (l : CL) (A : Option Addr) (n c : Nat) (k0 : Int) (base : Nat) (w : World) (hn : l.length = n) (hl : n ≤ 1048576) (hk0 : 0 ≤ k0 ∧ k0 ≤ 16777216) (hown0 : w.ownsRow base 30 3 (.slice A n c) n (ccells l)) :
    Calls Tryd.prog 28 #[.agg #[.int .i64 p, .slice A n c], .int .i64 k0] w fun e w' =>
      e = .returned (.int .i64 (k0 + 3 * n)) ∧ w'.ownsRow base 30 3 (.slice A n c) n (ccells (cmarks k0 n)) ∧ w.grownBy w' (Value.ownBlock (.slice A n c)) := by
  have Hn := Lib.hid hn
  clear hn
  have hk1 : 0 ≤ k0 + 3 * (n : Int) := by omega
  go_enter Tryd.func28, Tryd.ntmps28
  go_wp2_with (go_at_call 78; refine (markClueS_any l _ _ _ _ _ _ Hn.out hl hk0 (hown0.alloc _)).mono ?_; rintro e w2 ⟨rfl, hown2, hb2⟩)
  go_ret
  exact ⟨rfl, hown2, below_gb (B := w.heap.size) (by go_grown) hb2 (Nat.le_refl _)⟩

set_option maxHeartbeats 1000000 in
theorem heldPuzzle_any (p : Int) (A : Option Addr) (n c : Nat) (k0 : Int) (w : World) (hl : n ≤ 1048576) (hk0 : 0 ≤ k0 ∧ k0 ≤ 16777216) (hA : CRead w w.heap.size A (ccells (cmarks k0 n))) :
    Calls Tryd.prog 55 #[.agg #[.int .i64 p, .slice A n c], .int .i64 k0] w fun e w' => e = .returned (.int .i64 (k0 + 3 * n)) ∧ Below w.heap.size w w' := by
  have hk1 : 0 ≤ k0 + 3 * (n : Int) := by omega
  go_enter Tryd.func55, Tryd.ntmps55
  go_wp2_with (go_at_call 90; refine (heldClueS_any _ _ _ _ _ hl hk0 ((hA.below (B' := w.heap.size) (by go_grown) (Nat.le_refl _)).more (by go_size))).mono ?_; rintro e w2 ⟨rfl, rfl⟩)
  go_ret
  exact ⟨rfl, by go_grown⟩
end Go.Proofs.YtefkcfkicmfhlaaDoor
/-
  WHAT A CLUE, A PUZZLE IS (pure), and what the laws on them answer.
-/
namespace Go.Proofs.YtefkcfkicmfhlaaDoor
open Go.RowKit

def prsI (n : Int) : Int := if n = 1 then 0 else if n = 2 then 1 else if n = 3 then 3 else if n = 4 then 6 else 10
/-- is c a clue of n people? (n in 1..5) -/
def isCB (n : Int) (c : CT) : Bool :=
  if c.1 = 0 ∨ c.1 = 1 then l1InB c.2.1 0 (n - 1) && l1InB c.2.2 (c.2.1 + 1) (n - 1)
  else if c.1 = 2 then l1InB c.2.1 0 (n - 1) && l1InB c.2.2 0 (n - 1)
  else if c.1 = 3 then l1InB c.2.1 0 (prsI n) && decide (c.2.2 = 0)
  else if c.1 = 4 then l1InB c.2.1 0 10 && decide (c.2.2 = 0)
  else if c.1 = 5 then l1InB c.2.1 1 n && decide (c.2.2 = 0)
  else false
def isGuests (n : Int) : Bool := l1InB n 1 5
def isU (p : Int) (l : CL) : Bool := isGuests p && (decide (l.length ≤ 8) && l.all (isCB p))
def resIsClue (n a b c : Int) : Bool := isGuests n && isCB n (a, b, c)
def resIsPuzzle (p : Int) (l : CL) : Bool := isU p l
theorem isU_parts {p : Int} {l : CL} (h : isU p l = true) : 1 ≤ p ∧ p ≤ 5 ∧ l.length ≤ 8 ∧ ∀ c ∈ l, isCB p c = true := by
  unfold isU isGuests l1InB at h
  simp only [Bool.and_eq_true, decide_eq_true_eq, List.all_eq_true] at h
  exact ⟨h.1.1, h.1.2, h.2.1, h.2.2⟩
end Go.Proofs.YtefkcfkicmfhlaaDoor
/-
  A RANGE OVER AN ITERATOR THAT WRITES CELLS OF ITS OWN BETWEEN TWO ROUNDS (and whose rounds read them): the contract of such an iterator ('Seq'), and the law of the statement. Nothing here speaks of the program.
-/
namespace Go.Proofs.YtefkcfkicmfhlaaDoor
open Go.RowKit

/-- What lay is as it lay, but for blocks of S. -/
structure Apart (S : Nat → Prop) (A C : World) : Prop where
  below : Below 0 A C
  same : ∀ j, j < A.heap.size → ¬ S j → C.heap[j]? = A.heap[j]?
/-- The blocks of S are as they were. -/
structure Stays (S : Nat → Prop) (A C : World) : Prop where
  below : Below 0 A C
  same : ∀ j, j < A.heap.size → S j → C.heap[j]? = A.heap[j]?
theorem Apart.refl (S : Nat → Prop) (A : World) : Apart S A A := ⟨Below.refl _ _, fun _ _ _ => rfl⟩
theorem Apart.mono {S S' : Nat → Prop} {A C : World} (h : Apart S A C) (hS : ∀ j, S j → S' j) : Apart S' A C := ⟨h.below, fun j hj hn => h.same j hj fun hs => hn (hS j hs)⟩
theorem Stays.mono {S S' : Nat → Prop} {A C : World} (h : Stays S A C) (hS : ∀ j, S' j → S j) : Stays S' A C := ⟨h.below, fun j hj hs => h.same j hj (hS j hs)⟩
theorem Stays.refl (S : Nat → Prop) (A : World) : Stays S A A := ⟨Below.refl _ _, fun _ _ _ => rfl⟩
theorem Stays.trans {S : Nat → Prop} {A C D : World} (h : Stays S A C) (k : Stays S C D) : Stays S A D :=
  ⟨h.below.trans k.below, fun j hj hs => (k.same j (Nat.lt_of_lt_of_le hj h.below.size) hs).trans (h.same j hj hs)⟩
theorem Apart.trans {S S' : Nat → Prop} {A C D : World} (h : Apart S A C) (k : Apart S' C D) (hS : ∀ j, S' j → S j ∨ A.heap.size ≤ j) : Apart S A D :=
  ⟨h.below.trans k.below, fun j hj hn => (k.same j (Nat.lt_of_lt_of_le hj h.below.size) (fun hs => by rcases hS j hs with h' | h'; exact hn h'; omega)).trans (h.same j hj hn)⟩
theorem Apart.putObj (W : World) (l : Nat) (o : Obj) : Apart (fun j => j = l) W (W.putObj l o) :=
  ⟨(Below.refl 0 W).grown (grownBy_putObj' W l o) (Nat.zero_le _) (fun k _ => Nat.zero_le k), fun _ _ hn => World.putObj_heap_other hn⟩
theorem Apart.alloc (S : Nat → Prop) (W : World) (o : Obj) : Apart S W (W.alloc o) := ⟨(Below.refl 0 W).alloc (Nat.zero_le _) o, fun j hj _ => Below.heap_alloc W o j hj⟩
theorem Stays.alloc (S : Nat → Prop) (W : World) (o : Obj) : Stays S W (W.alloc o) := ⟨(Below.refl 0 W).alloc (Nat.zero_le _) o, fun j hj _ => Below.heap_alloc W o j hj⟩
theorem Stays.putObj {S : Nat → Prop} {l : Nat} (hl : ¬ S l) (W : World) (o : Obj) : Stays S W (W.putObj l o) :=
  ⟨(Below.refl 0 W).grown (grownBy_putObj' W l o) (Nat.zero_le _) (fun k _ => Nat.zero_le k), fun _ _ hs => World.putObj_heap_other fun e => hl (e ▸ hs)⟩
theorem Stays.setCell {S : Nat → Prop} {p : Addr} (hl : ¬ S p.block) (W : World) (u : Value) : Stays S W (W.setCell p u) :=
  ⟨(Below.refl 0 W).setCell (Nat.zero_le _) u, fun j _ hs => Below.heap_setCell W p u j fun e => hl (e ▸ hs)⟩
theorem Apart.grown {S : Nat → Prop} {W W' : World} {row : Option Nat} (hg : W.grownBy W' row) (h : ∀ k, row = some k → S k) : Apart S W W' :=
  ⟨(Below.refl 0 W).grown hg (Nat.zero_le _) (fun k _ => Nat.zero_le k), fun j hj hn => hg.block j hj fun e => hn (h j e.symm)⟩
theorem Stays.grown {S : Nat → Prop} {W W' : World} {row : Option Nat} (hg : W.grownBy W' row) (h : ∀ k, row = some k → ¬ S k) : Stays S W W' :=
  ⟨(Below.refl 0 W).grown hg (Nat.zero_le _) (fun k _ => Nat.zero_le k), fun j hj hs => hg.block j hj fun e => h j e.symm hs⟩
theorem Stays.of_below {S : Nat → Prop} {W W' : World} (h : Below W.heap.size W W') : Stays S W W' := ⟨h.mono (Nat.zero_le _), fun j hj _ => h.block j hj⟩
theorem Apart.of_below {S : Nat → Prop} {W W' : World} (h : Below W.heap.size W W') : Apart S W W' := ⟨h.mono (Nat.zero_le _), fun j hj _ => h.block j hj⟩
theorem Apart.cell {S : Nat → Prop} {A C : World} (h : Apart S A C) {p : Addr} {v : Value} (hc : A.cell? p = some v) (hn : ¬ S p.block) : C.cell? p = some v :=
  (World.cell?_of_block (h.same p.block (World.block_lt_of_cell? A p hc) hn)).trans hc
theorem Apart.frozen {S : Nat → Prop} {A C : World} (h : Apart S A C) {p : Addr} {v : Value} (hc : A.cell? p = some v) (hn : ¬ S p.block) : C.frozen? p = A.frozen? p :=
  World.frozen?_of_block (h.same p.block (World.block_lt_of_cell? A p hc) hn)
theorem Stays.cell {S : Nat → Prop} {A C : World} (h : Stays S A C) {p : Addr} {v : Value} (hc : A.cell? p = some v) (hn : S p.block) : C.cell? p = some v :=
  (World.cell?_of_block (h.same p.block (World.block_lt_of_cell? A p hc) hn)).trans hc
theorem Apart.below_of {S : Nat → Prop} {A C : World} (h : Apart S A C) {B : Nat} (hB : B ≤ A.heap.size) (hS : ∀ j, S j → B ≤ j) : Below B A C :=
  ⟨h.below.os, h.below.tape, h.below.output, h.below.size, fun k hk => h.same k (by omega) fun hs => by have := hS k hs; omega⟩

theorem roundIn_any {m m' : Nat} {P : Program} {l : Nat} {f : FuncId} {tmps : Array Value} {assign body : Code} {w : World} {R : Ending → World → Prop}
    (h : RoundIn Fence.wide m P l f tmps assign body w R) : RoundIn Fence.wide m' P l f tmps assign body w R := ⟨h.1, fun c cs _ => h.2 c cs (room_wide _)⟩
theorem yield_any {m m' : Nat} {P : Program} {l : Nat} {args : Array Value} {W : World} {R : Ending → World → Prop} (h : YieldAt Fence.wide m P l args W R) : YieldAt Fence.wide m' P l args W R := by
  obtain ⟨fn, tmps, assign, body, hy, hR⟩ := h
  exact ⟨fn, tmps, assign, body, hy, roundIn_any hR⟩

/-- What is held between two rounds abides whatever turns blocks that are not the holder's own. -/
def Held {α : Type} (J : (Nat → Prop) → List α → World → Prop) : Prop :=
  ∀ T T' pre A C, J T pre A → Apart T A C → (∀ j, T' j → T j ∨ (A.heap.size ≤ j ∧ j < C.heap.size)) → J T' pre C

/-- THE ITERATOR's CONTRACT: all of xs come, one after the other; or a round has said 'no more' behind some of them. 'Rd T x args W': what a round is handed, and what it may read of the iterator's own blocks T; R: other blocks that a round keeps. -/
def Seq {α : Type} (P : Program) (g : Nat) (lb : Array Value) (R : Nat → Prop) (Rd : (Nat → Prop) → α → Array Value → World → Prop) (xs : List α) (w0 : World) : Prop :=
  ∀ (l : Nat) (J Jx : (Nat → Prop) → List α → World → Prop) (W : World), Below w0.heap.size w0 W → Held J →
    (∀ T pre x args W1, J T pre W1 → Rd T x args W1 → pre ++ [x] <+: xs → YieldAt Fence.wide 0 P l args W1 fun e W' =>
      (e = .returned (.bool true) ∧ J T (pre ++ [x]) W' ∧ Stays (fun j => T j ∨ R j) W1 W') ∨ (e = .returned (.bool false) ∧ Jx T (pre ++ [x]) W')) →
    J (fun _ => False) [] W →
    Calls P g (#[.func (.yield l) #[] #[]] ++ lb) W fun e W' => (∃ v, e = .returned v) ∧ ((∃ T, J T xs W') ∨ (∃ T pre x, pre ++ [x] <+: xs ∧ Jx T (pre ++ [x]) W'))

/-- HOW THE BODY OF A ROUND MAY BE LEFT. -/
def iterPost {α : Type} (B : Nat) (S R : Nat → Prop) (I : (Nat → Prop) → List α → World → Prop) (Ix : Code → List α → World → Prop) (xs : List α) (W : World) : Exit → Act → World → Prop
  | .normal, _, W' => Stays (fun j => S j ∨ R j) W W' ∧ I S xs W'
  | .ret, _, W' => Stays (fun j => B ≤ j ∧ j ≤ B + 1) W W' ∧ Ix .ret xs W'
  | .exit id, _, W' => Stays (fun j => B ≤ j ∧ j ≤ B + 1) W W' ∧ Ix (.exit id) xs W'
  | .goto t, _, W' => Stays (fun j => B ≤ j ∧ j ≤ B + 1) W W' ∧ Ix (.goto t) xs W'
  | .panic _, _, _ => False
  | .outgrown, _, _ => False

variable {P : Program}
theorem wpIn_rangeFunc_iter {α : Type} {n : Nat} {g : Operand} {ps : Array Tmp} {assign body : Code} {Q : Exit → Act → World → Prop} {a : Act} {w : World}
    {gf : Nat} {lb : Array Value} (hg : a.eval g = .func (.func gf) #[] lb) (eg : ∀ args w, (callFunc gf args).run P w = .ok (.enter gf args) w)
    {R : Nat → Prop} {Rd : (Nat → Prop) → α → Array Value → World → Prop} {xs : List α} {w0 : World} (hseq : Seq P gf lb R Rd xs w0) (hb0 : Below w0.heap.size w0 w) (hR : ∀ j, R j → j < w.heap.size)
    (hRd : ∀ T x args A C, Rd T x args A → Stays T A C → Rd T x args C) (hps : ∀ T x args W, Rd T x args W → args.size = ps.size)
    (I : (Nat → Prop) → List α → World → Prop) (Ix : Code → List α → World → Prop) (hI : Held I) (hIx : ∀ c pre A C, Ix c pre A → Apart (fun j => j = w.heap.size + 1) A C → Ix c pre C)
    (h0 : I (fun _ => False) [] w) (a₁ : Array Value → Act)
    (hassign : ∀ (l : Nat) (T : Nat → Prop) (x : α) (args : Array Value) (W : World) (K : Act → World → Prop), Rd T x args W → K (a₁ args) W →
      assign.wpIn (Fence.wide.inRound l) n P (Exit.then K (fun _ _ _ => False)) { tmps := (ps.zip args).foldl (fun t (p, v) => t.setIfInBounds p v) a.tmps, defers := [] } W)
    (hbody : ∀ (l : Nat) (T S : Nat → Prop) (pre : List α) (x : α) (args : Array Value) (W : World), I S pre W → Rd T x args W → (∀ j, T j → S j) →
      body.wpIn (Fence.wide.inRound l) n P (iterPost w.heap.size S R I Ix (pre ++ [x]) W) (a₁ args) W)
    (hdone : ∀ (S : Nat → Prop) (W : World), I S xs W → W.heap[w.heap.size]? = some (.deferred (some [])) → Q .normal { a with defers := { target := .collected w.heap.size, args := #[] } :: a.defers } W)
    (hstop : ∀ (c : Code) (pre : List α) (x : α) (W : World), pre ++ [x] <+: xs → Ix c (pre ++ [x]) W → W.heap[w.heap.size]? = some (.deferred (some [])) → c.wpIn Fence.wide n P Q { a with defers := { target := .collected w.heap.size, args := #[] } :: a.defers } W) :
    (Code.rangeFunc g ps assign body).wpIn Fence.wide n P Q a w := by
  refine wpIn_rangeFunc ?_
  intro fn hfn
  rw [show Fence.wide.round = none from rfl]
  obtain ⟨rec, hrec⟩ : ∃ rec : LoopState → Option Code → Loop, rec = fun st pe => { state := st, pending := pe, fn, tmps := a.tmps, params := ps, assign, body, defers := w.heap.size } := ⟨_, rfl⟩
  obtain ⟨W1, hW1⟩ : ∃ W1, (w.alloc (.deferred (some []))).alloc (.loop (rec .ready none)) = W1 := ⟨_, rfl⟩
  have hL1 : W1.heap[w.heap.size + 1]? = some (.loop (rec .ready none)) := by
    rw [← hW1]; have := World.alloc_heap_new (w.alloc (.deferred (some []))) (.loop (rec .ready none)); rwa [World.size_alloc] at this
  have hK1 : W1.heap[w.heap.size]? = some (.deferred (some [])) := by
    rw [← hW1]; exact (Below.heap_alloc _ _ _ (by simp)).trans (World.alloc_heap_new w _)
  have hw1 : Below w.heap.size w W1 := by rw [← hW1]; exact (((Below.refl _ w).alloc (Nat.le_refl _) _).alloc (by simp) _)
  have hb1 : Below w0.heap.size w0 W1 := hb0.trans (hw1.mono hb0.size)
  have hz1 : W1.heap.size = w.heap.size + 2 := by rw [← hW1]; simp
  have hI1 : I (fun j => j = w.heap.size ∨ j = w.heap.size + 1) [] W1 := hI _ _ _ _ _ h0 (Apart.of_below hw1) (fun j hj => .inr (by omega))
  refine ⟨w.heap.size + 1, [{ target := .collected w.heap.size, args := #[] }], W1, { target := .fn (.func gf) lb, args := #[.func (.yield (w.heap.size + 1)) #[] #[]] }, W1, gf,
    #[.func (.yield (w.heap.size + 1)) #[] #[]] ++ lb, W1, ?_, ?_, ?_, ?_, fun h => (by cases h), ?_⟩
  · rw [← hW1, hrec]; exact run_enterLoop_outer _ _ _ _ _
  · simp only [resolve, hg]
    simp [go_sem]
  · intro f' hf'; trivial
  · simp [invoke, go_sem, eg]
  · refine callsIn_wide.2 ?_
    refine (hseq (w.heap.size + 1)
      (fun T pre W => I (fun j => T j ∨ j = w.heap.size ∨ j = w.heap.size + 1) pre W ∧ (∀ j, T j → w.heap.size + 2 ≤ j) ∧ W.heap[w.heap.size + 1]? = some (.loop (rec .ready none)) ∧ W.heap[w.heap.size]? = some (.deferred (some [])))
      (fun T pre W => ∃ c, Ix c pre W ∧ W.heap[w.heap.size + 1]? = some (.loop (rec .done (some c))) ∧ W.heap[w.heap.size]? = some (.deferred (some [])))
      W1 hb1 ?held ?round ⟨hI _ _ _ _ _ hI1 (Apart.refl _ _) (fun j hj => by rcases hj with h | h; exact h.elim; exact .inl h), fun j h => h.elim, hL1, hK1⟩).mono ?_
    case held =>
      rintro T T' pre A C ⟨hi, hT, hl, hk⟩ hA hT'
      have hlt : w.heap.size + 1 < A.heap.size := (Array.getElem?_eq_some_iff.1 hl).1
      refine ⟨hI _ _ _ _ _ hi (hA.mono fun j hj => .inl hj) (fun j hj => ?_), fun j hj => ?_, (hA.same _ hlt (fun h => by have := hT _ h; omega)).trans hl, (hA.same _ (by omega) (fun h => by have := hT _ h; omega)).trans hk⟩
      · rcases hj with hj | hj
        · rcases hT' j hj with h | h
          · exact .inl (.inl h)
          · exact .inr h
        · exact .inl (.inr hj)
      · rcases hT' j hj with h | h
        · exact hT j h
        · omega
    case round =>
      rintro T pre x args W ⟨hi, hT, hl, hk⟩ hrd _
      have hlt : w.heap.size + 1 < W.heap.size := (Array.getElem?_eq_some_iff.1 hl).1
      have hnT : ¬ T (w.heap.size + 1) := fun h => by have := hT _ h; omega
      have hnR : ¬ (T (w.heap.size + 1) ∨ R (w.heap.size + 1)) := fun h => by rcases h with h | h; exact hnT h; have := hR _ h; omega
      have hy := run_yield (P := P) (args := args) hl (by rw [hrec]; exact hps T x args W hrd)
      rw [hrec] at hy
      refine yield_any (m := n + 1) ⟨fn, _, assign, body, hy, roundIn_any (m := n) (roundIn_of_wpIn hfn (hassign _ T x args W _ hrd ⟨_, run_beginRound hl (by rw [hrec]), ?_⟩))⟩
      have hl2 : (W.putObj (w.heap.size + 1) (.loop { rec .ready none with state := .busy })).heap[w.heap.size + 1]? = some (.loop { rec .ready none with state := .busy }) := World.putObj_heap_same hlt
      have hk2 : (W.putObj (w.heap.size + 1) (.loop { rec .ready none with state := .busy })).heap[w.heap.size]? = some (.deferred (some [])) := (World.putObj_heap_other (by omega)).trans hk
      have hi2 := hI _ _ _ _ _ hi ((Apart.putObj W (w.heap.size + 1) (.loop { rec .ready none with state := .busy })).mono fun j hj => .inr (.inr hj)) (fun j hj => .inl hj)
      have hst := Stays.putObj (S := fun j => T j ∨ R j) hnR W (.loop { rec .ready none with state := .busy })
      have hlz := (Array.getElem?_eq_some_iff.1 hl2).1
      have hkz := (Array.getElem?_eq_some_iff.1 hk2).1
      refine wpIn_mono (hbody _ T _ pre x args _ hi2 (hRd _ _ _ _ _ hrd (hst.mono fun j hj => .inl hj)) fun j hj => .inl hj) ?_
      have fin : ∀ (jump : Option Code) (W3 : World), W3.heap[w.heap.size + 1]? = some (.loop { rec .ready none with state := .busy }) → W3.heap[w.heap.size]? = some (.deferred (some [])) →
          (Instr.endRound (w.heap.size + 1) jump).run P W3 = .ok (.bool jump.isNone) (W3.putObj (w.heap.size + 1) (.loop (rec (if jump.isNone then .ready else .done) jump))) ∧
          (W3.putObj (w.heap.size + 1) (.loop (rec (if jump.isNone then .ready else .done) jump))).heap[w.heap.size + 1]? = some (.loop (rec (if jump.isNone then .ready else .done) jump)) ∧
          (W3.putObj (w.heap.size + 1) (.loop (rec (if jump.isNone then .ready else .done) jump))).heap[w.heap.size]? = some (.deferred (some [])) := fun jump W3 hl3 hk3 => by
        have := run_endRound (P := P) jump hl3
        rw [hrec] at this ⊢
        exact ⟨this, World.putObj_heap_same (Array.getElem?_eq_some_iff.1 hl3).1, (World.putObj_heap_other (by omega)).trans hk3⟩
      rintro e a3 W3 hp
      cases e with
      | normal =>
        obtain ⟨hs3, hi3⟩ := hp
        have hl3 := (hs3.same (w.heap.size + 1) hlz (.inl (.inr (.inr rfl)))).trans hl2
        have hk3 := (hs3.same w.heap.size hkz (.inl (.inr (.inl rfl)))).trans hk2
        obtain ⟨hr, hl4, hk4⟩ := fin none W3 hl3 hk3
        refine ⟨_, _, hr, .inl ⟨rfl, ⟨hI _ _ _ _ _ hi3 ((Apart.putObj W3 _ _).mono fun j hj => .inr (.inr hj)) (fun j hj => .inl hj), hT, hl4, hk4⟩, ?_⟩⟩
        exact (hst.trans (hs3.mono fun j hj => hj.elim (fun h => .inl (.inl h)) .inr)).trans (Stays.putObj (S := fun j => T j ∨ R j) hnR W3 _)
      | ret =>
        obtain ⟨hs3, hi3⟩ := hp
        obtain ⟨hr, hl4, hk4⟩ := fin (some .ret) W3 ((hs3.same (w.heap.size + 1) hlz (by omega)).trans hl2) ((hs3.same w.heap.size hkz (by omega)).trans hk2)
        exact ⟨_, _, hr, .inr ⟨rfl, .ret, hIx _ _ _ _ hi3 (Apart.putObj W3 _ _), hl4, hk4⟩⟩
      | exit id =>
        obtain ⟨hs3, hi3⟩ := hp
        obtain ⟨hr, hl4, hk4⟩ := fin (some (.exit id)) W3 ((hs3.same (w.heap.size + 1) hlz (by omega)).trans hl2) ((hs3.same w.heap.size hkz (by omega)).trans hk2)
        exact ⟨_, _, hr, .inr ⟨rfl, .exit id, hIx _ _ _ _ hi3 (Apart.putObj W3 _ _), hl4, hk4⟩⟩
      | goto t =>
        obtain ⟨hs3, hi3⟩ := hp
        obtain ⟨hr, hl4, hk4⟩ := fin (some (.goto t)) W3 ((hs3.same (w.heap.size + 1) hlz (by omega)).trans hl2) ((hs3.same w.heap.size hkz (by omega)).trans hk2)
        exact ⟨_, _, hr, .inr ⟨rfl, .goto t, hIx _ _ _ _ hi3 (Apart.putObj W3 _ _), hl4, hk4⟩⟩
      | panic ch => exact hp.elim
      | outgrown => exact hp.elim
    · rintro e W2 ⟨⟨v, rfl⟩, (⟨T, hi, hT, hl, hk⟩ | ⟨T, pre, x, hpre, c, hi, hl, hk⟩)⟩
      · exact ⟨none, _, by have := run_endLoop (P := P) hl (by rw [hrec]; simp); rw [hrec] at this; exact this, hdone _ _ (hI _ _ _ _ _ hi ((Apart.putObj W2 _ _).mono fun j hj => .inr (.inr hj)) (fun j hj => .inl hj)) ((World.putObj_heap_other (by omega)).trans hk)⟩
      · exact ⟨some c, _, by have := run_endLoop (P := P) hl (by rw [hrec]; simp); rw [hrec] at this; exact this, hstop c pre x _ hpre (hIx _ _ _ _ hi (Apart.putObj W2 _ _)) ((World.putObj_heap_other (by omega)).trans hk)⟩
end Go.Proofs.YtefkcfkicmfhlaaDoor
/-
  ALL PAIRS IN THEIR ORDER; a party's pairs are those of all that it has, in that order. Nothing here speaks of the program.
-/
namespace Go.Proofs.YtefkcfkicmfhlaaDoor

def plt (a b : Int × Int) : Prop := a.1 < b.1 ∨ a.1 = b.1 ∧ a.2 < b.2
theorem plt_trans {a b c : Int × Int} (h : plt a b) (k : plt b c) : plt a c := by unfold plt at *; omega
theorem plt_irrefl (a : Int × Int) : ¬ plt a a := by unfold plt; omega
theorem plt_asymm {a b : Int × Int} (h : plt a b) : ¬ plt b a := by unfold plt at *; omega

theorem sorted_ext : ∀ {l m : PL}, l.Pairwise plt → m.Pairwise plt → (∀ q, q ∈ l ↔ q ∈ m) → l = m
  | [], [], _, _, _ => rfl
  | [], b :: m, _, _, h => by have := (h b).2 (List.mem_cons_self ..); cases this
  | a :: l, [], _, _, h => by have := (h a).1 (List.mem_cons_self ..); cases this
  | a :: l, b :: m, hl, hm, h => by
    rw [List.pairwise_cons] at hl hm
    have hab : a = b := by
      rcases List.mem_cons.1 ((h a).1 (List.mem_cons_self ..)) with e | e
      · exact e
      · rcases List.mem_cons.1 ((h b).2 (List.mem_cons_self ..)) with e' | e'
        · exact e'.symm
        · exact absurd (hm.1 a e) (plt_asymm (hl.1 b e'))
    subst hab
    rw [sorted_ext hl.2 hm.2 fun q => ?_]
    constructor
    · intro hq
      rcases List.mem_cons.1 ((h q).1 (List.mem_cons_of_mem _ hq)) with e | e
      · subst e; exact absurd (hl.1 q hq) (plt_irrefl q)
      · exact e
    · intro hq
      rcases List.mem_cons.1 ((h q).2 (List.mem_cons_of_mem _ hq)) with e | e
      · subst e; exact absurd (hm.1 q hq) (plt_irrefl q)
      · exact e

/-- what a party is, said of its list -/
def IsList (p : Int) (l : PL) : Prop := 0 ≤ p ∧ p ≤ 12 ∧ (∀ q ∈ l, 0 ≤ q.1 ∧ q.1 < q.2 ∧ q.2 < p) ∧ l.Pairwise plt
theorem isP_list {p : Int} {l : PL} (h : isP p l = true) : IsList p l := by
  have hr := isP_range h
  refine ⟨hr.1, hr.2, ?_, ?_⟩
  · intro q hq
    obtain ⟨i, hi, rfl⟩ := List.getElem_of_mem hq
    exact goodAt_pair (isP_good h hi) (List.getElem?_eq_getElem hi)
  · rw [List.pairwise_iff_getElem]
    have step : ∀ (d i : Nat) (hi : i < l.length) (hj : i + d + 1 < l.length), plt l[i] l[i + d + 1] := by
      intro d
      induction d with
      | zero => intro i hi hj; exact goodAt_less (isP_good h hj) (List.getElem?_eq_getElem (by omega)) (List.getElem?_eq_getElem hj)
      | succ d ih =>
        intro i hi hj
        exact plt_trans (ih i hi (by omega)) (goodAt_less (p := p) (l := l) (i := i + d + 1) (isP_good h (by omega)) (List.getElem?_eq_getElem (by omega)) (List.getElem?_eq_getElem (by omega)))
    intro i j hi hj hij
    have e : j = i + (j - i - 1) + 1 := by omega
    have := step (j - i - 1) i hi (by omega)
    simpa only [← e] using this
theorem isP_of_list {p : Int} {l : PL} (h : IsList p l) : isP p l = true := by
  obtain ⟨h0, h1, hm, hs⟩ := h
  refine isP_of p l h0 h1 fun i hi => ?_
  have hx : l[i]? = some (l[i].1, l[i].2) := List.getElem?_eq_getElem hi
  have hg := hm l[i] (List.getElem_mem hi)
  rcases i with _ | i
  · exact goodAt_first hx hg
  · have hx' : l[i]? = some (l[i].1, l[i].2) := List.getElem?_eq_getElem (by omega)
    exact goodAt_next hx' hx hg ((List.pairwise_iff_getElem.1 hs) i (i + 1) (by omega) hi (by omega))

def rowP (a n : Nat) : PL := (List.range' (a + 1) (n - (a + 1))).map fun b : Nat => ((a : Int), (b : Int))
def allP (n : Nat) : PL := (List.range n).flatMap fun a => rowP a n
theorem mem_rowP {a n : Nat} {q : Int × Int} : q ∈ rowP a n ↔ q.1 = a ∧ q.1 < q.2 ∧ q.2 < n := by
  obtain ⟨x, y⟩ := q
  simp only [rowP, List.mem_map, List.mem_range'_1, Prod.mk.injEq]
  constructor
  · rintro ⟨b, hb, rfl, rfl⟩; omega
  · rintro ⟨rfl, h1, h2⟩; exact ⟨y.toNat, by omega, rfl, by omega⟩
theorem mem_allP {n : Nat} {q : Int × Int} : q ∈ allP n ↔ 0 ≤ q.1 ∧ q.1 < q.2 ∧ q.2 < n := by
  simp only [allP, List.mem_flatMap, List.mem_range, mem_rowP]
  constructor
  · rintro ⟨a, ha, h1, h2, h3⟩; omega
  · rintro ⟨h0, h1, h2⟩; exact ⟨q.1.toNat, by omega, by omega, h1, h2⟩
theorem sorted_rowP (a n : Nat) : (rowP a n).Pairwise plt := by
  unfold rowP
  rw [List.pairwise_map]
  exact List.Pairwise.imp (fun {b c} h => Or.inr ⟨rfl, by omega⟩) List.pairwise_lt_range'
theorem sorted_allP (n : Nat) : (allP n).Pairwise plt := by
  unfold allP
  rw [List.pairwise_flatMap]
  refine ⟨fun a _ => sorted_rowP a n, ?_⟩
  refine List.Pairwise.imp (fun {a b} h x hx y hy => ?_) (List.pairwise_lt_range (n := n))
  have h1 := mem_rowP.1 hx
  have h2 := mem_rowP.1 hy
  exact .inl (by omega)
theorem filter_list {n : Nat} (hn : n ≤ 12) (f : Int × Int → Bool) : IsList n ((allP n).filter f) := by
  refine ⟨by omega, by omega, fun q hq => ?_, (sorted_allP n).filter _⟩
  exact mem_allP.1 (List.mem_filter.1 hq).1
theorem filter_isP {n : Nat} (hn : n ≤ 12) (f : Int × Int → Bool) : isP n ((allP n).filter f) = true := isP_of_list (filter_list hn f)
/-- A party's pairs are those of all that it has. -/
theorem isP_filter {n : Nat} {l : PL} (h : isP n l = true) : (allP n).filter (fun q => l.contains q) = l := by
  obtain ⟨_, _, hm, hs⟩ := isP_list h
  refine sorted_ext ((sorted_allP n).filter _) hs fun q => ?_
  rw [List.mem_filter, List.contains_iff_mem]
  exact ⟨fun hq => hq.2, fun hq => ⟨mem_allP.2 (hm q hq), hq⟩⟩
theorem allP_length_le {n : Nat} (hn : n ≤ 12) : (allP n).length ≤ 66 := by
  have h := isP_length (filter_isP hn fun _ => true)
  have h2 := people_sq (p := (n : Int)) (by omega) (by omega)
  rw [List.filter_eq_self.2 (by simp)] at h
  omega
theorem filter_length_le {n : Nat} (hn : n ≤ 12) (f : Int × Int → Bool) : ((allP n).filter f).length ≤ 66 := Nat.le_trans (List.length_filter_le _ _) (allP_length_le hn)
/-- The pairs before the pair (a, b) in the order. -/
def upTo (n a b : Nat) : PL := ((List.range a).flatMap fun a => rowP a n) ++ (List.range' (a + 1) (b - (a + 1))).map fun b : Nat => ((a : Int), (b : Int))
theorem upTo_start (n : Nat) : upTo n 0 1 = [] := rfl
theorem upTo_next {n a b : Nat} (h : a < b) : upTo n a (b + 1) = upTo n a b ++ [((a : Int), (b : Int))] := by
  unfold upTo
  rw [List.append_assoc, show b + 1 - (a + 1) = (b - (a + 1)) + 1 from by omega, List.range'_concat]
  simp
  omega
theorem upTo_row (n a : Nat) : upTo n a n = upTo n (a + 1) (a + 1 + 1) := by
  unfold upTo
  rw [List.range_succ, List.flatMap_append]
  simp [rowP]
theorem upTo_begin (n a : Nat) : upTo n a (a + 1) = (List.range a).flatMap fun a => rowP a n := by simp [upTo]
theorem upTo_all (n : Nat) : upTo n n (n + 1) = allP n := by rw [upTo_begin]; rfl
end Go.Proofs.YtefkcfkicmfhlaaDoor
/-
  TABLES OF WHO IS WHOSE FRIEND, in memory of the call's own: one row of rows.
-/
namespace Go.Proofs.YtefkcfkicmfhlaaDoor
open Go.RowKit

def upd (t : Nat → Nat → Bool) (a b : Nat) (x : Bool) : Nat → Nat → Bool := fun i j => if i = a ∧ j = b then x else t i j
def adj (l : PL) (i j : Nat) : Bool := l.contains ((i : Int), (j : Int)) || l.contains ((j : Int), (i : Int))
theorem adj_nil : adj [] = fun _ _ => false := rfl
theorem adj_snoc (l : PL) (a b : Nat) : adj (l ++ [((a : Int), (b : Int))]) = upd (upd (adj l) a b true) b a true := by
  funext i j
  simp only [adj, upd, List.contains_append, List.contains_cons, List.contains_nil, Bool.or_false]
  have e1 : (((i : Int), (j : Int)) == ((a : Int), (b : Int))) = decide (i = a ∧ j = b) := by rw [Bool.eq_iff_iff]; simp; omega
  have e2 : (((j : Int), (i : Int)) == ((a : Int), (b : Int))) = decide (i = b ∧ j = a) := by rw [Bool.eq_iff_iff]; simp; omega
  rw [e1, e2]
  by_cases h1 : i = b ∧ j = a
  · simp [h1]
  · by_cases h2 : i = a ∧ j = b
    · simp [h2]
    · simp [h1, h2]
theorem adj_pair {n : Nat} {l : PL} (h : isP n l = true) {i j : Nat} (hij : i < j) : adj l i j = l.contains ((i : Int), (j : Int)) := by
  unfold adj
  have : l.contains ((j : Int), (i : Int)) = false := by
    rw [Bool.eq_false_iff]
    intro hc
    rw [List.contains_iff_mem] at hc
    have := (isP_list h).2.2.1 _ hc
    simp at this
    omega
  rw [this, Bool.or_false]
theorem adj_comm (l : PL) (i j : Nat) : adj l i j = adj l j i := by unfold adj; rw [Bool.or_comm]

/-- k rows of n bools each, row i in block G i, under the slice v. -/
structure TabG (w : World) (B : Nat) (v : Value) (k n : Nat) (G : Nat → Nat) (t : Nat → Nat → Bool) : Prop where
  own : w.ownsRow B 109 1 v k ((List.range k).map fun i => Value.slice (some ⟨G i, 0, none⟩) n n)
  row : ∀ i, i < k → B ≤ G i ∧ w.rowIs (G i) 4 n (fun j => .bool (t i j))
  inj : ∀ i j, i < k → j < k → G i = G j → i = j
section
variable {w w' : World} {B k n : Nat} {v : Value} {G : Nat → Nat} {t t' : Nat → Nat → Bool}
theorem TabG.congr (h : TabG w B v k n G t) (e : ∀ i j, i < k → j < n → t i j = t' i j) : TabG w B v k n G t' :=
  ⟨h.own, fun i hi => ⟨(h.row i hi).1, (h.row i hi).2.congr fun j hj => by rw [e i j hi hj]⟩, h.inj⟩
theorem TabG.of_blocks (h : TabG w B v k n G t) (hg : w.grownBy w' none) : TabG w' B v k n G t :=
  ⟨h.own.kept hg (by cases v.ownBlock <;> simp), fun i hi => ⟨(h.row i hi).1, (h.row i hi).2.of_block (hg.block _ (h.row i hi).2.lt (by simp))⟩, h.inj⟩
theorem TabG.alloc (h : TabG w B v k n G t) (o : Obj) : TabG (w.alloc o) B v k n G t := h.of_blocks (World.grownBy_alloc w o none)
theorem TabG.below (h : TabG w B v k n G t) {B' : Nat} (hb : Below B' w w') (hB : w.heap.size ≤ B') : TabG w' B v k n G t := h.of_blocks (below_grownBy hb hB none)
theorem TabG.lower (h : TabG w B v k n G t) {B' : Nat} (hB : B' ≤ B) : TabG w B' v k n G t := ⟨own_lower h.own hB, fun i hi => ⟨Nat.le_trans hB (h.row i hi).1, (h.row i hi).2⟩, h.inj⟩
theorem TabG.cell (h : TabG w B v k n G t) {i j : Nat} (hi : i < k) (hj : j < n) : w.cell? ⟨G i, j, none⟩ = some (.bool (t i j)) := (h.row i hi).2.cell hj
theorem TabG.frozen (h : TabG w B v k n G t) {i : Nat} (hi : i < k) (j : Nat) : w.frozen? ⟨G i, j, none⟩ = false := (h.row i hi).2.frozen j
theorem TabG.blk (h : TabG w B v k n G t) {i : Nat} (hi : i < k) : B ≤ G i ∧ G i < w.heap.size := ⟨(h.row i hi).1, (h.row i hi).2.lt⟩
theorem TabG.outer {g c : Nat} (h : TabG w B (.slice (some ⟨g, 0, none⟩) k c) k n G t) {i : Nat} (hi : i < k) : w.cell? ⟨g, i, none⟩ = some (.slice (some ⟨G i, 0, none⟩) n n) := by
  rw [h.own.cellAt i (by omega)]
  simp [hi]
theorem row_ne_own {e b t : Nat} {size m : Nat} {xs : List Value} {f : Nat → Value} (h : w.ownsRow B e size v m xs) (hr : w.rowIs b t n f) (hne : e ≠ t) : v.ownBlock ≠ some b := by
  rcases h.2 with ⟨rfl, _⟩ | ⟨g, cap, cur, rfl, _, hh, _⟩
  · simp [Value.ownBlock]
  · intro e
    have hgb : g = b := by simpa [Value.ownBlock] using e
    subst hgb
    obtain ⟨c, hc, _⟩ := hr
    rw [hh] at hc
    injection hc with hc
    injection hc with _ ht
    exact hne ht
/-- a store into the table -/
theorem TabG.set (h : TabG w B v k n G t) {a b : Nat} (ha : a < k) (x : Bool) : TabG (w.setCell ⟨G a, b, none⟩ (.bool x)) B v k n G (upd t a b x) := by
  have hne := row_ne_own h.own (h.row a ha).2 (by decide)
  have hg : w.grownBy (w.setCell ⟨G a, b, none⟩ (.bool x)) (some (G a)) := ⟨rfl, rfl, rfl, by simp, fun i _ hi => Below.heap_setCell w _ _ i (fun e => hi (by rw [e]))⟩
  refine ⟨h.own.kept hg (.inr hne), fun i hi => ⟨(h.row i hi).1, ?_⟩, h.inj⟩
  by_cases e : i = a
  · subst e
    exact ((h.row i hi).2.set b (.bool x)).congr fun j _ => by
      unfold upd
      by_cases hj : j = b <;> simp [hj]
  · have hG : G i ≠ G a := fun hh => e (h.inj i a hi ha hh)
    exact ((h.row i hi).2.setOther (a := ⟨G a, b, none⟩) hG _).congr fun j _ => by unfold upd; simp [e]
/-- one row more -/
theorem TabG.push {W : World} {v' : Value} (h : TabG W B v k n G (fun _ _ => false)) (hB : B ≤ W.heap.size) {o : Obj} (hg : ((W.alloc (.cells (madeCells #[.bool false] n) 4)).alloc o).grownBy w' v.ownBlock)
    (hown : w'.ownsRow B 109 1 v' (k + 1) (((List.range k).map fun i => Value.slice (some ⟨G i, 0, none⟩) n n) ++ [.slice (some ⟨W.heap.size, 0, none⟩) n n])) :
    TabG w' B v' (k + 1) n (fun i => if i < k then G i else W.heap.size) (fun _ _ => false) := by
  have h2 := (h.alloc (.cells (madeCells #[.bool false] n) 4)).alloc o
  have hnew : ((W.alloc (.cells (madeCells #[.bool false] n) 4)).alloc o).rowIs W.heap.size 4 n (fun _ => .bool false) := (World.rowIs_made W (.bool false) n 4).alloc o
  have hne : ∀ b f, ((W.alloc (.cells (madeCells #[.bool false] n) 4)).alloc o).rowIs b 4 n f → w'.rowIs b 4 n f := fun b f hr =>
    hr.of_block (hg.block b hr.lt (fun e => row_ne_own h2.own hr (by decide) e.symm))
  refine ⟨?_, fun i hi => ?_, fun i j hi hj e => ?_⟩
  · have : (List.range (k + 1)).map (fun i => Value.slice (some ⟨if i < k then G i else W.heap.size, 0, none⟩) n n) = ((List.range k).map fun i => Value.slice (some ⟨G i, 0, none⟩) n n) ++ [.slice (some ⟨W.heap.size, 0, none⟩) n n] := by
      rw [List.range_succ, List.map_append]
      congr 1
      · exact List.map_congr_left fun i hi => by simp [List.mem_range.1 hi]
      · simp
    rw [this]
    exact hown
  · by_cases hik : i < k
    · simp only [hik, if_true]
      exact ⟨(h.row i hik).1, hne _ _ (h2.row i hik).2⟩
    · simp only [hik, if_false]
      exact ⟨hB, hne _ _ hnew⟩
  · by_cases hik : i < k <;> by_cases hjk : j < k <;> simp only [hik, hjk, if_true, if_false] at e
    · exact h.inj i j hik hjk e
    · have := (h.row i hik).2.lt; omega
    · have := (h.row j hjk).2.lt; omega
    · omega
theorem TabG.nil (w : World) (B n : Nat) (G : Nat → Nat) (t : Nat → Nat → Bool) : TabG w B (.slice none 0 0) 0 n G t := ⟨World.ownsRow_nil _ _ _ _, fun i hi => by omega, fun i j hi => by omega⟩
end
theorem own_cap {w : World} {base : Nat} {e : TypeId} {size n c : Nat} {A : Option Addr} {xs : List Value} (h : w.ownsRow base e size (.slice A n c) n xs) : n ≤ c := by
  rcases h.2 with ⟨h1, h2⟩ | ⟨g, cap, cur, hv, _, _, hm, _, _⟩
  · omega
  · simp only [Value.slice.injEq] at hv
    omega
theorem own_shape {w : World} {B : Nat} {e : TypeId} {size m : Nat} {v : Value} {xs : List Value} (h : w.ownsRow B e size v m xs) : ∃ A c, v = .slice A m c ∧ m ≤ c + 0 ∧ c ≤ maxLen := by
  rcases h.2 with ⟨rfl, rfl⟩ | ⟨g, cap, cur, rfl, _, _, hm, hc, _⟩
  · exact ⟨none, 0, rfl, Nat.le_refl _, by simp [maxLen]⟩
  · exact ⟨_, cap, rfl, hm, hc⟩
/-- the one cell of a slice that was built for an append -/
theorem one_cell {w : World} {g : Nat} {v : Value} (h : w.cell? ⟨g, 0, none⟩ = some v) : ∀ j u, [v][j]? = some u → w.cell? ((⟨g, 0, none⟩ : Addr).add j) = some u := by
  intro j u hu
  match j, hu with
  | 0, hu => simp at hu; subst hu; simpa [Addr.add] using h
theorem one_one {v : Value} (h : v.oneCell' = true) : ∀ u ∈ [v], u.oneCell' = true := by
  intro u hu
  simp at hu
  subst hu
  exact h
/-- A call came back with a table. -/
def GotTab (w : World) (n : Nat) (t : Nat → Nat → Bool) (e : Ending) (w' : World) : Prop :=
  ∃ A c G, e = .returned (.slice A n c) ∧ TabG w' w.heap.size (.slice A n c) n n G t ∧ Below w.heap.size w w'
end Go.Proofs.YtefkcfkicmfhlaaDoor
/-
  A LIST OF NUMBERS THAT GROWS BY ONE WHILE THE SHORTER ONE IS STILL READ: 'append(told, a)' at a step of a region that draws its order.
-/
namespace Go.Proofs.YtefkcfkicmfhlaaDoor
open Go.RowKit

/-- a list of numbers in a block of its own, which may have room behind -/
abbrev World.told (w : World) (A : Option Addr) (c : Nat) (l : List Int) : Prop := w.ownsRow 0 3 1 (.slice A l.length c) l.length (icells l)
/-- one more: the shorter list still stands; the longer lies in its block or in a new one -/
structure Grew (w w' : World) (A A' : Option Addr) (c c' : Nat) (l : List Int) (x : Int) : Prop where
  new : World.told w' A' c' (l ++ [x])
  old : World.told w' A c l
  grow : w.grownBy w' (Value.slice A l.length c).ownBlock
  same : A' = A ∧ c' = c ∧ A ≠ none ∨ w.grownBy w' none ∧ ∃ g, A' = some ⟨g, 0, none⟩ ∧ w.heap.size ≤ g
theorem told_front {w : World} {A : Option Addr} {c : Nat} {l : List Int} {x : Int} (h : World.told w A c (l ++ [x])) (hA : A ≠ none) : World.told w A c l := by
  rcases h.2 with ⟨hv, _⟩ | ⟨g, cap, cur, hv, hb, hg, hn, hm, hs, ht⟩
  · simp only [Value.slice.injEq] at hv
    exact absurd hv.1 hA
  · simp only [Value.slice.injEq] at hv
    obtain ⟨rfl, _, rfl⟩ := hv
    refine ⟨by simp [icells], .inr ⟨g, c, cur, rfl, hb, hg, ?_, hm, hs, ?_⟩⟩
    · rw [List.length_append] at hn; simp at hn; omega
    · have e := congrArg (List.take (l.length * 1)) ht
      rw [List.take_take, icells_append] at e
      rw [Nat.min_eq_left (by rw [List.length_append]; simp)] at e
      rw [e, Nat.mul_one]
      have : (icells l).length = l.length := icells_length l
      rw [← this, List.take_left]
theorem told_own {A : Option Addr} {c : Nat} {l : List Int} {g : Nat} (hA : A = some ⟨g, 0, none⟩) : (Value.slice A l.length c).ownBlock = some g := by rw [hA]; rfl

theorem step_append_told {ops : Array Oper} {o : Oper} {a : Act} {w : World} {K : Act → World → Prop} {Q : Exit → Act → World → Prop} {E : Prop}
    (hgd : o.guard = none) (s x : Operand) (ho : o.op = .call { callee := .builtin .append, args := #[s, x], argTypes := #[64, 64] })
    (A : Option Addr) (c : Nat) (l : List Int) (y : Int) (hs : a.eval s = .slice A l.length c) (hown : World.told w A c l)
    (ad : Addr) (hx : a.eval x = .slice (some ad) 1 1) (hcell : ∀ j u, [Value.int .i64 y][j]? = some u → w.cell? (ad.add j) = some u) (hlen : l.length ≤ 1000)
    (h : ∀ A' c' w', Grew w w' A A' c c' l y → K (a.put o.dst (.slice A' (l.length + 1) c')) w') :
    if Region.wanted o (yielded ops a.tmps) = true then Oper.wp Tryd.prog o a w K Q else E := by
  obtain ⟨i0, hi, hz0, hz1, hz2⟩ := info_parts Tryd.infoInt
  have hone : ∀ u ∈ [Value.int .i64 y], u.oneCell' = true := one_one rfl
  have hll : (l ++ [y]).length = l.length + 1 := by simp
  by_cases hroom : l.length + 1 ≤ c
  · have hw : Region.wanted o (yielded ops a.tmps) = true := by simp [Region.wanted, hgd]
    rw [if_pos hw]
    rcases hown.2 with ⟨hv, _⟩ | ⟨g, cap, cur, hv, hb, hg, hn, hm, hsz, ht⟩
    · simp only [Value.slice.injEq] at hv
      omega
    · simp only [Value.slice.injEq] at hv
      obtain ⟨rfl, _, rfl⟩ := hv
      obtain ⟨w', hrun, r1, r2⟩ := run_append_fits (P := Tryd.prog) w 0 64 o.type 3 i0 1 Tryd.underlying64 hi hz1 g l.length c (icells l) hown ad 1 1 [.int .i64 y] rfl hcell hone hroom
      unfold Oper.wp
      simp [execOp, ho, resolve, invoke, builtin, hs, hx, hrun, Result.andThen]
      have r3 : World.told w' (some ⟨g, 0, none⟩) c (l ++ [y]) := by rw [World.told, hll, icells_append]; exact r1
      exact h _ _ w' ⟨r3, told_front r3 (by simp), r2, .inl ⟨rfl, rfl, by simp⟩⟩
  · refine step_append_grows hgd s x 64 ho 3 i0 _ 1 8 Tryd.underlying64 hi hz0 hz1 hz2 rfl (by decide) A l.length c (icells l) hs ?_ (by simp [icells]) ?_ ad 1 1 [.int .i64 y] hx rfl hcell hone (by omega) (by unfold maxLen; omega) (by omega) ?_
    · intro e
      rcases hown.2 with ⟨hv, h0⟩ | ⟨g, cap, cur, hv, _⟩
      · simp only [Value.slice.injEq] at hv
        exact ⟨hv.2.1, hv.2.2⟩
      · simp [e] at hv
    · intro b e j u hj
      obtain ⟨b', off, e', _, hc⟩ := (CRead.of_own hown) j u hj
      rw [e] at e'
      simp only [Option.some.injEq] at e'
      rw [e', Addr.add_lit]
      exact hc
    · intro v' w' r1 r2
      obtain ⟨A', c', rfl, _⟩ := own_shape r1
      obtain ⟨g, hgA⟩ := own_form r1 (by omega)
      have hlt := (own_lower r1 (Nat.zero_le _))
      refine h A' c' w' ⟨by rw [World.told, hll, icells_append]; exact hlt, hown.kept r2 (by cases (Value.slice A l.length c).ownBlock <;> simp), ⟨r2.os, r2.tape, r2.output, r2.size, fun k hk _ => r2.block k hk (by simp)⟩, .inr ⟨r2, g, hgA, ?_⟩⟩
      subst hgA
      exact (own_lt r1).1
end Go.Proofs.YtefkcfkicmfhlaaDoor
/-
  LISTS OF PEOPLE WHO ARE TIED, TWO AND TWO, as plain lists; sets of people as numbers of sixteen bits. Nothing here speaks of the program.
-/
namespace Go.Proofs.YtefkcfkicmfhlaaDoor
open Go.RowKit

/-- the lists of so many more of the candidates behind those told, in order; every candidate is tied to all told -/
def listsC (t : Nat → Nat → Bool) : Nat → List Int → List Nat → List (List Int)
  | 0, told, _ => [told]
  | _ + 1, _, [] => []
  | k + 1, told, a :: cs => listsC t k (told ++ [(a : Int)]) (cs.filter (t a)) ++ listsC t (k + 1) told cs
termination_by k _ cs => (k, cs.length)
theorem listsC_zero (t : Nat → Nat → Bool) (told : List Int) (cs : List Nat) : listsC t 0 told cs = [told] := by cases cs <;> simp [listsC]
theorem listsC_nil (t : Nat → Nat → Bool) (k : Nat) (told : List Int) : listsC t (k + 1) told [] = [] := by simp [listsC]
theorem listsC_cons (t : Nat → Nat → Bool) (k : Nat) (told : List Int) (a : Nat) (cs : List Nat) :
    listsC t (k + 1) told (a :: cs) = listsC t k (told ++ [(a : Int)]) (cs.filter (t a)) ++ listsC t (k + 1) told cs := by rw [listsC]

/-- a number's bits are those of a rising list -/
structure IsSet (J : Nat) (cs : List Nat) : Prop where
  up : cs.Pairwise (· < ·)
  lt : ∀ b ∈ cs, b < 16
  mem : ∀ b, J.testBit b = true ↔ b ∈ cs
theorem IsSet.small {J : Nat} {cs : List Nat} (h : IsSet J cs) : J < 65536 := by
  refine Nat.lt_pow_two_of_testBit (n := 16) J fun i hi => ?_
  cases e : J.testBit i with
  | false => rfl
  | true => have := h.lt i ((h.mem i).1 e); omega
theorem IsSet.zero {J : Nat} (h : IsSet J []) : J = 0 := by
  refine Nat.eq_of_testBit_eq fun i => ?_
  rw [Nat.zero_testBit]
  cases e : J.testBit i with
  | false => rfl
  | true => have := (h.mem i).1 e; simp at this
theorem IsSet.pos {J a : Nat} {cs : List Nat} (h : IsSet J (a :: cs)) : J ≠ 0 := by
  intro e
  have := (h.mem a).2 List.mem_cons_self
  rw [e, Nat.zero_testBit] at this
  cases this
theorem IsSet.least {J a : Nat} {cs : List Nat} (h : IsSet J (a :: cs)) : Lib.ctz 16 J = a := by
  have hp := h.pos
  have hs := h.small
  obtain ⟨m, hm, hk⟩ := Lib.ctzFrom_spec 16 J (by omega) hs
  have e : Lib.ctz 16 J = Lib.ctzFrom 16 J := by simp [Lib.ctz, hp]
  rw [e]
  generalize Lib.ctzFrom 16 J = c at *
  have hb : ∀ b, J.testBit b = (decide (c ≤ b) && (2 * m + 1).testBit (b - c)) := fun b => by rw [hm, Nat.testBit_two_pow_mul]
  have h1 : J.testBit c = true := by rw [hb]; simp
  have h2 := (h.mem c).1 h1
  have h3 := (h.mem a).2 List.mem_cons_self
  rw [hb] at h3
  have h4 : c ≤ a := by simp only [Bool.and_eq_true, decide_eq_true_eq] at h3; exact h3.1
  rcases List.mem_cons.1 h2 with h5 | h5
  · exact h5
  · have := (List.pairwise_cons.1 h.up).1 c h5
    omega
theorem bit_off : ∀ a : Fin 16, ∀ b : Fin 16, (65535 - 2 ^ a.val).testBit b.val = decide (b.val ≠ a.val) := by decide
theorem IsSet.tail {J a : Nat} {cs : List Nat} (h : IsSet J (a :: cs)) : IsSet (J &&& (65535 - 2 ^ a)) cs := by
  have ha := h.lt a List.mem_cons_self
  have hp := List.pairwise_cons.1 h.up
  refine ⟨hp.2, fun b hb => h.lt b (List.mem_cons_of_mem _ hb), fun b => ?_⟩
  rw [Nat.testBit_and, Bool.and_eq_true, h.mem, List.mem_cons]
  constructor
  · rintro ⟨h1, h2⟩
    rcases h1 with rfl | h1
    · have := bit_off ⟨b, ha⟩ ⟨b, ha⟩
      simp only [ne_eq, not_true_eq_false, decide_false] at this
      rw [this] at h2
      cases h2
    · exact h1
  · intro hb
    have hb16 := h.lt b (List.mem_cons_of_mem _ hb)
    have := hp.1 b hb
    refine ⟨.inr hb, ?_⟩
    rw [bit_off ⟨a, ha⟩ ⟨b, hb16⟩]
    simp only [ne_eq, decide_eq_true_eq]
    omega
theorem IsSet.inter {J T : Nat} {cs : List Nat} {f : Nat → Bool} (h : IsSet J cs) (hT : ∀ b, b < 16 → T.testBit b = f b) : IsSet (J &&& T) (cs.filter f) := by
  refine ⟨h.up.filter _, fun b hb => h.lt b (List.mem_filter.1 hb).1, fun b => ?_⟩
  rw [Nat.testBit_and, Bool.and_eq_true, h.mem, List.mem_filter]
  constructor
  · rintro ⟨h1, h2⟩
    rw [hT b (h.lt b h1)] at h2
    exact ⟨h1, h2⟩
  · rintro ⟨h1, h2⟩
    exact ⟨h1, by rw [hT b (h.lt b h1)]; exact h2⟩
theorem IsSet.people {n : Nat} (hn : n ≤ 16) : IsSet (2 ^ n - 1) (List.range n) := by
  refine ⟨List.pairwise_lt_range, fun b hb => by have := List.mem_range.1 hb; omega, fun b => ?_⟩
  rw [Nat.testBit_two_pow_sub_one, decide_eq_true_eq, List.mem_range]
end Go.Proofs.YtefkcfkicmfhlaaDoor
/-
  math/bits.TrailingZeros16 by its contract, where the library's table lies as its initialiser lays it.
-/
namespace Go.Proofs.YtefkcfkicmfhlaaDoor
open Go.RowKit

def sliceLen : Value → Nat | .slice _ n _ => n | _ => 0
/-- The table in its variable (its block's number). -/
def TabW (w : World) : Prop := ∀ j, j < 32 → w.cell? ⟨4, j, none⟩ = some (.int .u8 (Lib.deBruijn32tab.getD j 0))
theorem TabW.below {B : Nat} {w w' : World} (h : TabW w) (hb : Below B w w') (hB : 4 < B) : TabW w' := fun j hj => (hb.cell (p := ⟨4, j, none⟩) hB).trans (h j hj)
theorem TabW.pos {w : World} (h : TabW w) : 4 < w.heap.size := World.block_lt_of_cell? w _ (h 0 (by omega))

theorem tz16_key (x a : Nat) (hx : x < 65536) (hx0 : x ≠ 0) (hlow : x &&& (65536 - x) = 2 ^ a) (ha : a < 16) :
    bits BinOp.and IntKind.u16 (x : Int) (IntKind.u16.wrap (-(x : Int))) % 4294967296 * 125613361 % 4294967296 / 134217728 = ((2 ^ a * 125613361 % 4294967296 / 134217728 : Nat) : Int) := by
  have e1 : IntKind.u16.wrap (-(x : Int)) = ((65536 - x : Nat) : Int) := by rw [IntKind.wrap_u16]; omega
  have h2 : 2 ^ a < 2 ^ 16 := Nat.pow_lt_pow_right (by omega) ha
  rw [show (2 : Nat) ^ 16 = 65536 from rfl] at h2
  rw [e1, u16_and_nat x _ hx (by omega), hlow]
  omega

set_option maxHeartbeats 1000000 in
theorem tz16_core (x k idx : Nat) (w : World) (hx0 : ((x : Int) == 0) = false)
    (key : bits BinOp.and IntKind.u16 (x : Int) (IntKind.u16.wrap (-(x : Int))) % 4294967296 * 125613361 % 4294967296 / 134217728 = (idx : Int))
    (hi : idx < 32) (hk : k < 32) (hcell : w.cell? ⟨4, idx, none⟩ = some (.int .u8 k)) :
    Calls Tryd.prog 191 #[.int .u16 x] w fun e w' => e = .returned (.int .i64 k) ∧ w = w' := by
  go_enter Tryd.func191, Tryd.ntmps191
  go_wp2_with (simp only [key])
  go_ret
  exact ⟨rfl, rfl⟩
/-- the least person of a set -/
theorem tz16_any {J a : Nat} {cs : List Nat} (h : IsSet J (a :: cs)) (w : World) (hT : TabW w) :
    Calls Tryd.prog 191 #[.int .u16 J] w fun e w' => e = .returned (.int .i64 a) ∧ w = w' := by
  have hp := h.pos
  have hs := h.small
  have ha := h.lt a List.mem_cons_self
  obtain ⟨hlow, _⟩ := Lib.lowest_bit 16 J hp hs
  rw [h.least] at hlow
  obtain ⟨hi, htab⟩ := Lib.deBruijn32_at a (by omega)
  have hcell := hT _ hi
  rw [htab] at hcell
  exact tz16_core J a _ w (by simp; omega) (tz16_key J a hs hp hlow ha) hi (by omega) hcell
end Go.Proofs.YtefkcfkicmfhlaaDoor
/-
  THE PROGRAM's RECURSIVE CLOSURE THAT GOES THROUGH THE LISTS OF PEOPLE WHO ARE TIED ('look' in 'allTied'), by its contract: induction on how many are still to come.
-/
namespace Go.Proofs.YtefkcfkicmfhlaaDoor
open Go.RowKit

/-- the closure's value -/
abbrev lookV (bs yb bl bt : Nat) : Value := .func (.func 190) #[] #[.pointer (some ⟨bs, 0, none⟩), .pointer (some ⟨yb, 0, none⟩), .pointer (some ⟨bl, 0, none⟩), .pointer (some ⟨bt, 0, none⟩)]
/-- what the closure's boxes hold -/
structure LookAt (w : World) (l : Nat) (size : Int) (T : Nat → Nat) (bs yb bl bt : Nat) : Prop where
  s : w.cell? ⟨bs, 0, none⟩ = some (.int .i64 size)
  y : w.cell? ⟨yb, 0, none⟩ = some (.func (.yield l) #[] #[])
  k : w.cell? ⟨bl, 0, none⟩ = some (lookV bs yb bl bt)
  t : ∀ a, a < 12 → w.cell? ⟨bt, a, none⟩ = some (.int .u16 (T a))
  tab : TabW w
theorem LookAt.of {w w' : World} {l : Nat} {size : Int} {T : Nat → Nat} {bs yb bl bt : Nat} {R : Nat → Prop} (h : LookAt w l size T bs yb bl bt) (hR : ∀ j, R j → w'.heap[j]? = w.heap[j]?)
    (h1 : R bs) (h2 : R yb) (h3 : R bl) (h4 : R bt) (h5 : R 4) : LookAt w' l size T bs yb bl bt := by
  have e : ∀ b o v, R b → w.cell? ⟨b, o, none⟩ = some v → w'.cell? ⟨b, o, none⟩ = some v := fun b o v hb hc => (World.cell?_of_block (w := w) (a := ⟨b, o, none⟩) (hR b hb)).trans hc
  exact ⟨e _ _ _ h1 h.s, e _ _ _ h2 h.y, e _ _ _ h3 h.k, fun a ha => e _ _ _ h4 (h.t a ha), fun j hj => e _ _ _ h5 (h.tab j hj)⟩
theorem told_kept {w w' : World} {A : Option Addr} {c : Nat} {l : List Int} (h : World.told w A c l) (hk : ∀ k, (Value.slice A l.length c).ownBlock = some k → w'.heap[k]? = w.heap[k]?) : World.told w' A c l := by
  refine ⟨h.1, ?_⟩
  rcases h.2 with h' | ⟨g, cap, cur, hv, hb, hg, rest⟩
  · exact .inl h'
  · exact .inr ⟨g, cap, cur, hv, hb, (hk g (by rw [hv]; rfl)).trans hg, rest⟩

/-- All lists have come. -/
structure LookYes (J : (Nat → Prop) → List (List Int) → World → Prop) (R S : Nat → Prop) (A : Option Addr) (c : Nat) (l : List Int) (xs : List (List Int)) (W W' : World) : Prop where
  ex : ∃ S', J S' xs W' ∧ (∀ j, S j → S' j) ∧ (∀ j, S' j → S j ∨ W.heap.size ≤ j)
  below : Below 0 W W'
  ro : ∀ j, R j → W'.heap[j]? = W.heap[j]?
  other : ∀ j, S j → j < W.heap.size → (Value.slice A l.length c).ownBlock ≠ some j → W'.heap[j]? = W.heap[j]?
  told : World.told W' A c l
/-- How a call of the closure ends. -/
def LookPost (J Jx : (Nat → Prop) → List (List Int) → World → Prop) (R S : Nat → Prop) (A : Option Addr) (c : Nat) (l : List Int) (pre L : List (List Int)) (W : World) : Bool → World → Prop
  | true, W' => LookYes J R S A c l (pre ++ L) W W'
  | false, W' => ∃ S' q x, q ++ [x] <+: L ∧ Jx S' (pre ++ (q ++ [x])) W'

section
variable {J Jx : (Nat → Prop) → List (List Int) → World → Prop} {R S S1 : Nat → Prop} {A A' : Option Addr} {c c' B : Nat} {l : List Int} {xs pre : List (List Int)} {W wr X w1 w2 : World}
theorem LookYes.start (hJ : J S xs W) (ht : World.told W A c l) : LookYes J R S A c l xs W W := ⟨⟨S, hJ, fun _ h => h, fun _ h => .inl h⟩, Below.refl _ _, fun _ _ => rfl, fun _ _ _ _ => rfl, ht⟩
/-- one person more: what holds where the closure is called again -/
theorem LookYes.step {x : Int} (hh : Held J) (h : LookYes J R S A c l xs W wr) (hA : ∀ k, (Value.slice A l.length c).ownBlock = some k → S k) (hS : ∀ j, S j → B ≤ j) (hR : ∀ j, R j → j < B) (hB : B ≤ W.heap.size)
    (hX : Below wr.heap.size wr X) (g : Grew X w1 A A' c c' l x) :
    (∃ S2, J S2 xs w1 ∧ (∀ j, S j → S2 j) ∧ (∀ j, S2 j → S j ∨ W.heap.size ≤ j) ∧ (∀ k, (Value.slice A' (l ++ [x]).length c').ownBlock = some k → S2 k)) ∧ (∀ j, R j → w1.heap[j]? = wr.heap[j]?) ∧ B ≤ w1.heap.size ∧ W.heap.size ≤ w1.heap.size := by
  obtain ⟨S1, hJ1, hs1, hs2⟩ := h.ex
  have hsz := h.below.size
  have hsX := hX.size
  have hs3 := g.grow.size
  have hap : Apart S1 wr w1 := ⟨(hX.mono (Nat.zero_le _)).trans ((Below.refl 0 X).grown g.grow (Nat.zero_le _) fun k _ => Nat.zero_le k), fun j hj hn => by
    rw [g.grow.block j (by omega) (fun e => hn (hs1 j (hA j e.symm))), hX.block j hj]⟩
  refine ⟨⟨fun j => S1 j ∨ (wr.heap.size ≤ j ∧ j < w1.heap.size), hh _ _ _ _ _ hJ1 hap (fun j hj => hj), fun j hj => .inl (hs1 j hj), fun j hj => ?_, fun k hk => ?_⟩, fun j hj => ?_, by omega, by omega⟩
  · rcases hj with hj | hj
    · exact hs2 j hj
    · exact .inr (by omega)
  · rcases g.same with ⟨rfl, rfl, _⟩ | ⟨_, b, rfl, hb⟩
    · exact .inl (hs1 k (hA k (by
        cases hA' : A' with
        | none => rw [hA'] at hk; simp [Value.ownBlock] at hk
        | some a => rw [hA'] at hk; exact hk)))
    · have hlt := (own_lt g.new).2
      have : b = k := by simpa [Value.ownBlock] using hk
      subst this
      exact .inr ⟨by omega, hlt⟩
  · have h1 := hR j hj
    rw [g.grow.block j (by omega) (fun e => by have := hS j (hA j e.symm); omega), hX.block j (by omega)]
theorem LookYes.next {x : Int} {S2 : Nat → Prop} {L : List (List Int)} (h : LookYes J R S A c l xs W wr) (hA : ∀ k, (Value.slice A l.length c).ownBlock = some k → S k) (hS : ∀ j, S j → B ≤ j) (hR : ∀ j, R j → j < B) (hB : B ≤ W.heap.size)
    (hX : Below wr.heap.size wr X) (g : Grew X w1 A A' c c' l x) (k1 : ∀ j, S j → S2 j) (k2 : ∀ j, S2 j → S j ∨ W.heap.size ≤ j) (h2 : LookYes J R S2 A' c' (l ++ [x]) L w1 w2) : LookYes J R S A c l L W w2 := by
  have hsz := h.below.size
  have hsX := hX.size
  have hs3 := g.grow.size
  have hoA : ∀ j, S j → (Value.slice A l.length c).ownBlock ≠ some j → w1.heap[j]? = wr.heap[j]? ∨ wr.heap.size ≤ j := fun j _ hne => by
    by_cases hlt : j < wr.heap.size
    · exact .inl (by rw [g.grow.block j (by omega) (fun e => hne e.symm), hX.block j hlt])
    · exact .inr (by omega)
  refine ⟨?_, (h.below.trans ((hX.mono (Nat.zero_le _)).trans ((Below.refl 0 X).grown g.grow (Nat.zero_le _) fun k _ => Nat.zero_le k))).trans h2.below, fun j hj => ?_, fun j hj hlt hne => ?_, ?_⟩
  · obtain ⟨S', hJ', e1, e2⟩ := h2.ex
    refine ⟨S', hJ', fun j hj => e1 j (k1 j hj), fun j hj => ?_⟩
    rcases e2 j hj with h' | h'
    · exact k2 j h'
    · exact .inr (by omega)
  · have h1 := hR j hj
    rw [h2.ro j hj, g.grow.block j (by omega) (fun e => by have := hS j (hA j e.symm); omega), hX.block j (by omega), h.ro j hj]
  · rw [h2.other j (k1 j hj) (by omega) ?_]
    · rcases hoA j hj hne with h' | h'
      · rw [h', h.other j hj hlt hne]
      · omega
    · rcases g.same with ⟨rfl, rfl, _⟩ | ⟨_, b, rfl, hb⟩
      · intro e
        refine hne ?_
        cases hA' : A' with
        | none => rw [hA'] at e; simp [Value.ownBlock] at e
        | some a => rw [hA'] at e; exact e
      · intro e
        have : b = j := by simpa [Value.ownBlock] using e
        omega
  · rcases g.same with ⟨rfl, rfl, hne⟩ | ⟨_, b, rfl, hb⟩
    · exact told_front h2.told hne
    · refine told_kept g.old fun k hk => ?_
      have hklt := (own_lies g.old k hk).2
      refine h2.other k (k1 k (hA k hk)) hklt fun e => ?_
      have hbk : b = k := by simpa [Value.ownBlock] using e
      have hkX := (own_lies h.told k hk).2
      omega
end
theorem IsSet.smaller {J a : Nat} {cs : List Nat} (h : IsSet J (a :: cs)) : J &&& (65535 - 2 ^ a) < J := by
  have h1 := Nat.and_le_left (n := J) (m := 65535 - 2 ^ a)
  rcases Nat.lt_or_eq_of_le h1 with h2 | h2
  · exact h2
  · have h3 := (h.mem a).2 List.mem_cons_self
    have h4 := h.tail.mem a
    rw [h2, h3] at h4
    have h5 := h4.1 rfl
    have := (List.pairwise_cons.1 h.up).1 a h5
    omega
end Go.Proofs.YtefkcfkicmfhlaaDoor
