/-
  Texts put together for the claims of 'AddClue' (pack 2): Clue, OpenU, ClueP, ClueS, Ways, ClueI.
-/
import Derived.Test.YtkiobefojckocaaAddClueP1
import Derived.Deep.Slices
import Derived.Deep.Strs
import Derived.BigQuiet
import Derived.Recover
import Derived.Defers
import Derived.Laws.Pointers
import Derived.WalkLawsBesides
/-
  CLUES AND PUZZLES: lists of clues as cells; the laws' own small functions at them (size, copy, comparison, marks), by their contracts.
-/
namespace Go.Proofs.Ytkiobefojckocaa
open Go.RowKit

/-! ## Lists of clues as cells -/
abbrev CT := Int × Int × Int
abbrev CL := List CT
def ccells : CL → List Value
  | [] => []
  | p :: l => .int .i64 p.1 :: .int .i64 p.2.1 :: .int .i64 p.2.2 :: ccells l
theorem ccells_length (l : CL) : (ccells l).length = l.length * 3 := by
  induction l with
  | nil => rfl
  | cons p l ih => simp only [ccells, List.length_cons, ih]; omega
theorem ccells_append (l m : CL) : ccells (l ++ m) = ccells l ++ ccells m := by
  induction l with
  | nil => rfl
  | cons p l ih => simp [ccells, ih]
theorem ccells_at0 {l : CL} {k : Nat} {x y z : Int} (h : l[k]? = some (x, y, z)) : (ccells l)[k * 3]? = some (.int .i64 x) := by
  induction l generalizing k with
  | nil => simp at h
  | cons p l ih =>
    cases k with
    | zero => simp at h; subst h; rfl
    | succ k => rw [show (k + 1) * 3 = k * 3 + 3 from by omega]; simpa [ccells] using ih (by simpa using h)
theorem ccells_at1 {l : CL} {k : Nat} {x y z : Int} (h : l[k]? = some (x, y, z)) : (ccells l)[k * 3 + 1]? = some (.int .i64 y) := by
  induction l generalizing k with
  | nil => simp at h
  | cons p l ih =>
    cases k with
    | zero => simp at h; subst h; rfl
    | succ k => rw [show (k + 1) * 3 + 1 = k * 3 + 1 + 3 from by omega]; simpa [ccells] using ih (by simpa using h)
theorem ccells_at2 {l : CL} {k : Nat} {x y z : Int} (h : l[k]? = some (x, y, z)) : (ccells l)[k * 3 + 2]? = some (.int .i64 z) := by
  induction l generalizing k with
  | nil => simp at h
  | cons p l ih =>
    cases k with
    | zero => simp at h; subst h; rfl
    | succ k => rw [show (k + 1) * 3 + 2 = k * 3 + 2 + 3 from by omega]; simpa [ccells] using ih (by simpa using h)
theorem ccells_set (l : CL) (k : Nat) (x y z : Int) : (((ccells l).set (k * 3) (.int .i64 x)).set (k * 3 + 1) (.int .i64 y)).set (k * 3 + 2) (.int .i64 z) = ccells (l.set k (x, y, z)) := by
  induction l generalizing k with
  | nil => rfl
  | cons p l ih =>
    cases k with
    | zero => rfl
    | succ k =>
      rw [show (k + 1) * 3 = k * 3 + 3 from by omega, show k * 3 + 3 + 1 = k * 3 + 1 + 3 from by omega, show k * 3 + 3 + 2 = k * 3 + 2 + 3 from by omega]
      simp [ccells, ih k]
theorem ccells_one (l : CL) : ∀ u ∈ ccells l, u.oneCell' = true := by
  induction l with
  | nil => intro u h; cases h
  | cons p l ih => intro u h; simp [ccells] at h; rcases h with rfl | rfl | rfl | h <;> first | rfl | exact ih u h
theorem CRead.clue {w : World} {B : Nat} {ad : Option Addr} {l : CL} (h : CRead w B ad (ccells l)) {k : Nat} {x y z : Int} (hk : l[k]? = some (x, y, z)) :
    ∃ b off, ad = some ⟨b, off, none⟩ ∧ b < B ∧ w.cell? ⟨b, off + k * 3, none⟩ = some (.int .i64 x) ∧ w.cell? ⟨b, off + k * 3 + 1, none⟩ = some (.int .i64 y) ∧ w.cell? ⟨b, off + k * 3 + 2, none⟩ = some (.int .i64 z) := by
  obtain ⟨b, off, rfl, hb, h0⟩ := h _ _ (ccells_at0 hk)
  obtain ⟨b', off', e, _, h1⟩ := h _ _ (ccells_at1 hk)
  obtain ⟨b2, off2, e2, _, h2⟩ := h _ _ (ccells_at2 hk)
  simp only [Option.some.injEq, Addr.mk.injEq, and_true] at e e2
  obtain ⟨rfl, rfl⟩ := e
  obtain ⟨rfl, rfl⟩ := e2
  exact ⟨b, off, rfl, hb, h0, h1, h2⟩
section
variable {w w' : World} {base : Nat} {e : TypeId} {size n g cap : Nat} {v : Value} {xs : List Value}
theorem below_set3 {B : Nat} {a : World} (h : Below B a w) (hg : B ≤ g) (i j k : Nat) (x y z : Value) : Below B a (((w.setCell ⟨g, i, none⟩ x).setCell ⟨g, j, none⟩ y).setCell ⟨g, k, none⟩ z) :=
  ((h.setCell (p := ⟨g, i, none⟩) hg x).setCell (p := ⟨g, j, none⟩) hg y).setCell (p := ⟨g, k, none⟩) hg z
theorem own_setClue {l : CL} (h : w.ownsRow base e 3 (.slice (some ⟨g, 0, none⟩) n cap) n (ccells l)) (k : Nat) (x y z : Int) :
    (((w.setCell ⟨g, k * 3, none⟩ (.int .i64 x)).setCell ⟨g, k * 3 + 1, none⟩ (.int .i64 y)).setCell ⟨g, k * 3 + 2, none⟩ (.int .i64 z)).ownsRow base e 3 (.slice (some ⟨g, 0, none⟩) n cap) n (ccells (l.set k (x, y, z))) := by
  rw [← ccells_set]
  exact (((h.stored (k * 3) (.int .i64 x)).1.stored (k * 3 + 1) (.int .i64 y)).1.stored (k * 3 + 2) (.int .i64 z)).1
theorem own_clueAt {l : CL} (h : w.ownsRow base e 3 (.slice (some ⟨g, 0, none⟩) n cap) n (ccells l)) {k : Nat} {x y z : Int} (hk : l[k]? = some (x, y, z)) :
    w.cell? ⟨g, k * 3, none⟩ = some (.int .i64 x) ∧ w.cell? ⟨g, k * 3 + 1, none⟩ = some (.int .i64 y) ∧ w.cell? ⟨g, k * 3 + 2, none⟩ = some (.int .i64 z) := by
  have hl : l.length = n := by have := h.1; rw [ccells_length] at this; omega
  have hkl : k < l.length := (List.getElem?_eq_some_iff.1 hk).1
  exact ⟨(h.cellAt _ (by omega)).trans (ccells_at0 hk), (h.cellAt _ (by omega)).trans (ccells_at1 hk), (h.cellAt _ (by omega)).trans (ccells_at2 hk)⟩
theorem made_clues (n : Nat) : (madeCells #[.int .i64 0, .int .i64 0, .int .i64 0] (n * 3)).toList = ccells (List.replicate n (0, 0, 0)) := by
  have hp : ∀ m j, (ccells (List.replicate m (0, 0, 0)))[j]? = if j < m * 3 then some (.int .i64 0) else none := by
    intro m
    induction m with
    | zero => intro j; simp [ccells]
    | succ m ih =>
      intro j
      match j with
      | 0 => simp [List.replicate_succ, ccells]
      | 1 => simp [List.replicate_succ, ccells]; omega
      | 2 => simp [List.replicate_succ, ccells]; omega
      | j + 3 =>
        simp only [List.replicate_succ, ccells, List.getElem?_cons_succ, ih j]
        congr 1
        apply propext
        omega
  apply List.ext_getElem?
  intro j
  rw [hp]
  by_cases hj : j < n * 3
  · rw [if_pos hj]
    rcases (show j % 3 = 0 ∨ j % 3 = 1 ∨ j % 3 = 2 by omega) with h | h | h <;> simp [madeCells, hj, h]
  · rw [if_neg hj]
    simp [madeCells, hj]
end
def cmarks (k : Int) (n : Nat) : CL := (List.range n).map fun i : Nat => (k + 3 * (i : Int), k + 3 * (i : Int) + 1, k + 3 * (i : Int) + 2)
theorem cmarks_length (k : Int) (n : Nat) : (cmarks k n).length = n := by simp [cmarks]
theorem cmarks_at {k : Int} {n i : Nat} (h : i < n) : (cmarks k n)[i]? = some (k + 3 * i, k + 3 * i + 1, k + 3 * i + 2) := by simp [cmarks, h]

/-! ## The small functions -/
set_option maxHeartbeats 400000 in
theorem szClueS_any (ad : Option Addr) (n cap : Nat) (left : Int) (hn : n ≤ maxLen) (h0 : 0 ≤ left) (h1 : left ≤ 1048576) (w : World) :
    Calls Try.prog 60 #[.slice ad n cap, .int .i64 left] w fun e w' => e = .returned (.int .i64 (szI left n)) ∧ w = w' := by
  unfold maxLen at hn
  by_cases h : left - n < 0
  · have e : szI left n = -1 := if_pos h
    rw [e]
    go_enter Try.func60, Try.ntmps60
    go_wp2
    go_ret
    exact ⟨rfl, rfl⟩
  · have e : szI left n = left - n := if_neg h
    rw [e]
    go_enter Try.func60, Try.ntmps60
    go_wp2
    go_ret
    exact ⟨rfl, rfl⟩

set_option maxHeartbeats 400000 in
theorem szPuzzle_any (p : Int) (ad : Option Addr) (n cap : Nat) (left : Int) (hn : n ≤ maxLen) (h0 : 0 ≤ left) (h1 : left ≤ 1048576) (w : World) :
    Calls Try.prog 31 #[.agg #[.int .i64 p, .slice ad n cap], .int .i64 left] w fun e w' => e = .returned (.int .i64 (szI left n)) ∧ Below w.heap.size w w' := by
  by_cases h : szI left n < 0
  · have hneg : szI left n = -1 := by unfold szI at h ⊢; split <;> simp_all
    have Hn := Lib.hid hneg
    clear hneg
    go_enter Try.func31, Try.ntmps31
    go_wp2_with (go_at_call 60; refine (szClueS_any _ _ _ _ hn h0 h1 _).mono ?_; rintro e w' ⟨rfl, rfl⟩)
    go_ret
    exact ⟨by rw [Hn.out]; rfl, by go_grown⟩
  · go_enter Try.func31, Try.ntmps31
    go_wp2_with (go_at_call 60; refine (szClueS_any _ _ _ _ hn h0 h1 _).mono ?_; rintro e w' ⟨rfl, rfl⟩)
    go_ret
    exact ⟨rfl, by go_grown⟩

set_option maxHeartbeats 400000 in
theorem toClue_any (a b c : Int) (w : World) :
    Calls Try.prog 39 #[.agg #[.int .i64 a, .int .i64 b, .int .i64 c]] w fun e w' => e = .returned (.agg #[.int .i64 a, .int .i64 b, .int .i64 c]) ∧ Below w.heap.size w w' := by
  go_enter Try.func39, Try.ntmps39
  go_wp2
  go_returns
  exact ⟨rfl, by go_grown⟩

def eqClueB (x y : CT) : Bool := decide (x = y)
set_option maxHeartbeats 800000 in
theorem eqClue_any (a b c a' b' c' : Int) (w : World) :
    Calls Try.prog 88 #[.agg #[.int .i64 a, .int .i64 b, .int .i64 c], .agg #[.int .i64 a', .int .i64 b', .int .i64 c']] w fun e w' =>
      e = .returned (.bool (eqClueB (a, b, c) (a', b', c'))) ∧ Below w.heap.size w w' := by
  by_cases h1 : a = a'
  · by_cases h2 : b = b'
    · by_cases h3 : c = c'
      · subst h1 h2 h3
        go_enter Try.func88, Try.ntmps88
        go_wp2
        go_ret
        exact ⟨by simp [eqClueB], by go_grown⟩
      · subst h1 h2
        go_enter Try.func88, Try.ntmps88
        go_wp2
        go_ret
        exact ⟨by simp [eqClueB, h3], by go_grown⟩
    · subst h1
      go_enter Try.func88, Try.ntmps88
      go_wp2
      go_ret
      exact ⟨by simp [eqClueB, h2], by go_grown⟩
  · go_enter Try.func88, Try.ntmps88
    go_wp2
    go_ret
    exact ⟨by simp [eqClueB, h1], by go_grown⟩

set_option maxHeartbeats 2000000 in
theorem eqClueS_any (l m : CL) (A B : Option Addr) (c d : Nat) (w : World) (hl : l.length ≤ maxLen) (hm : m.length ≤ maxLen)
    (hA : CRead w w.heap.size A (ccells l)) (hB : CRead w w.heap.size B (ccells m)) :
    Calls Try.prog 67 #[.slice A l.length c, .slice B m.length d] w fun e w' =>
      e = .returned (.bool (decide (l = m))) ∧ Below w.heap.size w w' := by
  unfold maxLen at hl hm
  by_cases hlen : l.length = m.length
  · generalize hn : l.length = n at *
    have Hn := Lib.hid hn
    have Hm := Lib.hid hlen
    clear hn
    rw [← hlen]
    clear hlen
    go_enter Try.func67, Try.ntmps67
    go_wp2
    go_loopw [5] (fun i wr => ∃ k : Nat, k ≤ n ∧ i = .int .i64 k ∧ l.take k = m.take k ∧ Below w.heap.size w wr) (fun i _ => n - (intOf i).toNat)
    case atStart => exact ⟨0, Nat.zero_le _, rfl, rfl, Below.refl _ _⟩
    case round =>
      obtain ⟨k, hk, rfl, htk, hb⟩ := hrel
      have Htk := Lib.hid htk
      clear htk
      have hs := hb.size
      by_cases hlt : k < n
      · obtain ⟨⟨x, y, z⟩, hx⟩ := getSome l k (by rw [Hn.out]; exact hlt)
        obtain ⟨⟨x', y', z'⟩, hx'⟩ := getSome m k (by rw [← Hm.out]; exact hlt)
        obtain ⟨b, off, rfl, hbb, c0, c1, c2⟩ := (hA.below hb (Nat.le_refl _)).clue hx
        obtain ⟨b', off', rfl, hbb', c0', c1', c2'⟩ := (hB.below hb (Nat.le_refl _)).clue hx'
        have q0 : ∀ z : Ext wr.heap.size wr, z.val.cell? ⟨b, off + k * 3, none⟩ = some (.int .i64 x) := fun z => z.cell c0 (by omega)
        have q1 : ∀ z : Ext wr.heap.size wr, z.val.cell? ⟨b, off + k * 3 + 1, none⟩ = some (.int .i64 y) := fun z => z.cell c1 (by omega)
        have q2 : ∀ v : Ext wr.heap.size wr, v.val.cell? ⟨b, off + k * 3 + 2, none⟩ = some (.int .i64 z) := fun v => v.cell c2 (by omega)
        have q0' : ∀ z : Ext wr.heap.size wr, z.val.cell? ⟨b', off' + k * 3, none⟩ = some (.int .i64 x') := fun z => z.cell c0' (by omega)
        have q1' : ∀ z : Ext wr.heap.size wr, z.val.cell? ⟨b', off' + k * 3 + 1, none⟩ = some (.int .i64 y') := fun z => z.cell c1' (by omega)
        have q2' : ∀ v : Ext wr.heap.size wr, v.val.cell? ⟨b', off' + k * 3 + 2, none⟩ = some (.int .i64 z') := fun v => v.cell c2' (by omega)
        clear c0 c1 c2 c0' c1' c2'
        have hki : (k : Int) < (n : Int) := by omega
        have Hx := Lib.hid hx
        have Hx' := Lib.hid hx'
        clear hx hx'
        go_wp2
        refine wp_region_ext wr.heap.size (by kernel_rfl) (by kernel_rfl) ?_
        repeat (go_big_quiet_step ((go_at_call 88; exact Calls.ext_of ((eqClue_any _ _ _ _ _ _ _).mono fun _ _ h => ⟨h.1, h.2.mono (Ext.size _)⟩))))
        refine wpQuiet_nil ?_
        rintro _ ⟨⟨w1, hb1⟩, rfl⟩
        clear q0 q1 q2 q0' q1' q2'
        have hs1 := hb1.size
        cases hq : eqClueB (x, y, z) (x', y', z')
        · go_wp2
          go_ret
          refine ⟨?_, hb.trans (hb1.mono hs)⟩
          have e : ¬ ((x, y, z) = (x', y', z')) := of_decide_eq_false hq
          have : l ≠ m := by rintro rfl; have h := Hx.out; rw [Hx'.out] at h; exact e (Option.some.inj h).symm
          simp [this]
        · go_wp2
          go_roundw
          case rel =>
            refine ⟨k + 1, by omega, by go_num, ?_, hb.trans (hb1.mono hs)⟩
            have e := of_decide_eq_true hq
            rw [List.take_add_one, List.take_add_one, Htk.out, Hx.out, Hx'.out, e]
          case measure => simp [intOf]; omega
      · have hkl : k = n := by omega
        go_wp2
        go_ret
        refine ⟨?_, hb⟩
        have e := Htk.out
        rw [hkl, List.take_of_length_le (by rw [Hn.out]; exact Nat.le_refl _), List.take_of_length_le (by rw [← Hm.out]; exact Nat.le_refl _)] at e
        simp [e]
  · have hne : l ≠ m := by rintro rfl; exact hlen rfl
    have e : decide (l = m) = false := by simp [hne]
    rw [e]
    clear e
    go_enter Try.func67, Try.ntmps67
    go_wp2
    go_ret
    exact ⟨rfl, Below.refl _ _⟩
theorem Try.infoClue : (Try.prog.info? 65).map (fun i => (i.zero, i.size, i.bytes)) = some (some (.agg #[.int .i64 0, .int .i64 0, .int .i64 0]), 3, 24) := by kernel_rfl

set_option maxHeartbeats 1000000 in
theorem toClueS_any (l : CL) (A : Option Addr) (c : Nat) (w : World) (hl : l.length ≤ 1048576) (hA : CRead w w.heap.size A (ccells l)) :
    Calls Try.prog 64 #[.slice A l.length c] w fun e w' =>
      e = .returned (.slice (some ⟨w.heap.size, 0, none⟩) l.length l.length) ∧ w'.ownsRow w.heap.size 65 3 (.slice (some ⟨w.heap.size, 0, none⟩) l.length l.length) l.length (ccells l) ∧ Below w.heap.size w w' := by
  obtain ⟨i0, hi, hz0, hz1, hz2⟩ := info_parts Try.infoClue
  generalize hn : l.length = n at *
  have Hn := Lib.hid hn
  clear hn
  generalize hg : w.heap.size = g at *
  have Hg := Lib.hid hg
  clear hg
  go_enter Try.func64, Try.ntmps64
  go_wp2_with (at_make; refine wpList_make_full _ rfl _ _ 53 rfl g 65 i0 _ 3 Try.underlying53 hi hz0 hz1 _ _ _ _ n rfl rfl (by omega) (by omega) (by rw [hz2]; omega) (by unfold maxLen; omega) (by rw [Hg.out]; exact Nat.le_refl _) ?_; rw [Hg.out]; intro w1 hown1 hgr1)
  have hs1 : g < w1.heap.size := (own_lt hown1).2
  have hb1 : Below g w w1 := (Below.refl _ _).grown hgr1 (by rw [Hg.out]; exact Nat.le_refl _) (by simp)
  rw [show Value.cells (.agg #[.int .i64 0, .int .i64 0, .int .i64 0]) = #[.int .i64 0, .int .i64 0, .int .i64 0] from rfl, made_clues] at hown1
  have hge : w.heap.size ≤ g := by rw [Hg.out]; exact Nat.le_refl _
  go_loopw [4] (fun i wr => ∃ k : Nat, k ≤ n ∧ i = .int .i64 k ∧ wr.ownsRow g 65 3 (.slice (some ⟨g, 0, none⟩) n n) n (ccells (l.take k ++ List.replicate (n - k) (0, 0, 0))) ∧ Below g w wr) (fun i _ => n - (intOf i).toNat)
  case atStart => exact ⟨0, Nat.zero_le _, rfl, by simpa using hown1, hb1⟩
  case round =>
    obtain ⟨k, hk, rfl, hown, hb⟩ := hrel
    have hs := own_lt hown
    have hki : (k : Int) ≤ n := by omega
    by_cases hlt : k < n
    · obtain ⟨⟨x, y, z⟩, hx⟩ := getSome l k (by rw [Hn.out]; exact hlt)
      obtain ⟨b, off, rfl, hbb, c0, c1, c2⟩ := (hA.below hb (Nat.le_refl _)).clue hx
      have hlt' : (k : Int) < n := by omega
      have hz : (l.take k ++ List.replicate (n - k) (0, 0, 0))[k]? = some (0, 0, 0) := by
        rw [List.getElem?_append_right (by simp; omega)]
        have h1 : min k l.length = k := Nat.min_eq_left (by rw [Hn.out]; exact hk)
        simp only [List.length_take, h1, Nat.sub_self]
        rw [List.getElem?_replicate, if_pos (by omega)]
      have Hx := Lib.hid hx
      clear hx
      have Hz := Lib.hid hz
      clear hz
      go_wp2_with (go_at_call 39; refine (toClue_any _ _ _ _).mono ?_; rintro e w2 ⟨rfl, hb2⟩; have hown2 := own_below hown hb2 (Nat.le_refl _); have ⟨d0, d1, d2⟩ := own_clueAt hown2 Hz.out; have f0 := hown2.frozenAt (k * 3); have f1 := hown2.frozenAt (k * 3 + 1); have f2 := hown2.frozenAt (k * 3 + 2))
      go_roundw
      case rel =>
        refine ⟨k + 1, by omega, by go_num, ?_, ?_⟩
        · have h2 := own_setClue hown2 k x y z
          rwa [take_set_replicate l (0, 0, 0) n k (x, y, z) Hn.out Hx.out] at h2
        · exact below_set3 (hb.trans (hb2.mono (by omega))) (Nat.le_refl _) _ _ _ _ _ _
      case measure => simp [intOf]; omega
    · have hkl : k = n := by omega
      subst hkl
      have hge : ¬ ((k : Int) < k) := by omega
      go_wp2
      go_ret
      refine ⟨rfl, ?_, hb⟩
      rwa [Nat.sub_self, List.replicate_zero, List.append_nil, List.take_of_length_le (by rw [Hn.out]; exact Nat.le_refl _)] at hown

set_option maxHeartbeats 1000000 in
theorem markClueS_any (l : CL) (A : Option Addr) (n c : Nat) (k0 : Int) (base : Nat) (w : World) (hn : l.length = n) (hl : n ≤ 1048576) (hk0 : 0 ≤ k0 ∧ k0 ≤ 16777216) (hown0 : w.ownsRow base 65 3 (.slice A n c) n (ccells l)) :
    Calls Try.prog 68 #[.slice A n c, .int .i64 k0] w fun e w' =>
      e = .returned (.int .i64 (k0 + 3 * n)) ∧ w'.ownsRow base 65 3 (.slice A n c) n (ccells (cmarks k0 n)) ∧ w.grownBy w' (Value.ownBlock (.slice A n c)) := by
  have Hn := Lib.hid hn
  obtain ⟨hk00, hk01⟩ := hk0
  clear hn
  go_enter Try.func68, Try.ntmps68
  go_wp2
  go_loopw [1, 5] (fun q i wr => ∃ k : Nat, k ≤ n ∧ i = .int .i64 k ∧ q = .int .i64 (k0 + 3 * k) ∧ wr.ownsRow base 65 3 (.slice A n c) n (ccells ((cmarks k0 n).take k ++ l.drop k)) ∧ w.grownBy wr (Value.ownBlock (.slice A n c))) (fun _ i _ => n - (intOf i).toNat)
  case atStart => exact ⟨0, Nat.zero_le _, rfl, by simp, by simpa using hown0, World.grownBy.refl _ _⟩
  case round =>
    obtain ⟨k, hk, rfl, rfl, hown, hb⟩ := hrel
    by_cases hlt : k < n
    · obtain ⟨g, rfl⟩ := own_form hown (by omega)
      obtain ⟨⟨x, y, z⟩, hz, hx⟩ := take_drop_at (cmarks k0 n) l n k (cmarks_length _ _) Hn.out hlt
      have hlt' : (k : Int) < n := by omega
      obtain ⟨d0, d1, d2⟩ := own_clueAt hown hz
      have f0 := hown.frozenAt (k * 3)
      have f1 := hown.frozenAt (k * 3 + 1)
      have f2 := hown.frozenAt (k * 3 + 2)
      have Hz := Lib.hid hz
      clear hz hx
      go_wp2
      go_roundw
      case rel =>
        refine ⟨k + 1, by omega, by go_num, by go_num, ?_, ?_⟩
        · rw [show k0 + 3 * (k : Int) + 1 + 1 = k0 + 3 * (k : Int) + 2 by omega]
          have h2 := own_setClue hown k (k0 + 3 * k) (k0 + 3 * k + 1) (k0 + 3 * k + 2)
          rwa [take_set_drop (cmarks k0 n) l n k _ (cmarks_length _ _) Hn.out (cmarks_at hlt)] at h2
        · exact gb_trans (gb_trans (gb_trans hb (hown.stored (k * 3) _).2) ((hown.stored (k * 3) _).1.stored (k * 3 + 1) _).2) (((hown.stored (k * 3) _).1.stored (k * 3 + 1) _).1.stored (k * 3 + 2) _).2
      case measure => simp [intOf]; omega
    · have hkl : k = n := by omega
      subst hkl
      have hge : ¬ ((k : Int) < k) := by omega
      go_wp2
      go_ret
      refine ⟨rfl, ?_, hb⟩
      rwa [List.take_of_length_le (by rw [cmarks_length]; exact Nat.le_refl _), List.drop_of_length_le (by rw [Hn.out]; exact Nat.le_refl _), List.append_nil] at hown

set_option maxHeartbeats 1000000 in
theorem heldClueS_any (A : Option Addr) (n c : Nat) (k0 : Int) (w : World) (hl : n ≤ 1048576) (hk0 : 0 ≤ k0 ∧ k0 ≤ 16777216) (hA : CRead w w.heap.size A (ccells (cmarks k0 n))) :
    Calls Try.prog 69 #[.slice A n c, .int .i64 k0] w fun e w' => e = .returned (.int .i64 (k0 + 3 * n)) ∧ w = w' := by
  obtain ⟨hk00, hk01⟩ := hk0
  go_enter Try.func69, Try.ntmps69
  go_wp2
  go_loop [1, 5] (fun q i => ∃ k : Nat, k ≤ n ∧ i = .int .i64 k ∧ q = .int .i64 (k0 + 3 * k)) (fun _ i => n - (intOf i).toNat)
  case atStart => exact ⟨0, Nat.zero_le _, rfl, by simp⟩
  case round =>
    obtain ⟨k, hk, rfl, rfl⟩ := hrel
    by_cases hlt : k < n
    · obtain ⟨b, off, rfl, hbb, c0, c1, c2⟩ := hA.clue (cmarks_at hlt)
      have hlt' : (k : Int) < n := by omega
      go_wp2
      go_round
      case rel => exact ⟨k + 1, by omega, by go_num, by go_num⟩
      case measure => simp [intOf]; omega
    · have hkl : k = n := by omega
      subst hkl
      have hge : ¬ ((k : Int) < k) := by omega
      go_wp2
      go_ret
      exact ⟨rfl, rfl⟩

/-! ## Puzzles -/
/-- A call came back with a puzzle whose clues lie in memory of its own. -/
def GotPuzzle (w : World) (p : Int) (l : CL) (e : Ending) (w' : World) : Prop :=
  ∃ A c, e = .returned (.agg #[.int .i64 p, .slice A l.length c]) ∧ w'.ownsRow w.heap.size 65 3 (.slice A l.length c) l.length (ccells l) ∧ Below w.heap.size w w'
/-- A call came back with a puzzle and a bool; its clues lie in memory of its own. -/
def GotPuzzleOk (w : World) (p : Int) (l : CL) (ok : Bool) (e : Ending) (w' : World) : Prop :=
  ∃ A c, e = .returned (.tuple #[.agg #[.int .i64 p, .slice A l.length c], .bool ok]) ∧ w'.ownsRow w.heap.size 65 3 (.slice A l.length c) l.length (ccells l) ∧ Below w.heap.size w w'

set_option maxHeartbeats 1000000 in
theorem toPuzzle_any (p : Int) (l : CL) (A : Option Addr) (c : Nat) (w : World) (hl : l.length ≤ 1048576) (hA : CRead w w.heap.size A (ccells l)) :
    Calls Try.prog 33 #[.agg #[.int .i64 p, .slice A l.length c]] w (GotPuzzle w p l) := by
  generalize hn : l.length = n at *
  have Hn := Lib.hid hn
  go_enter Try.func33, Try.ntmps33
  go_wp2_with (go_at_call 64; rw [← Hn.out]; refine (toClueS_any l _ _ _ (by rw [Hn.out]; exact hl) (hA.below (B' := w.heap.size) (by go_grown) (Nat.le_refl _) |>.more (by go_size))).mono ?_; rw [Hn.out]; rintro e w2 ⟨rfl, hown2, hb2⟩; have ⟨hc, hf⟩ := old_cells hb2; have hz := hb2.size; simp only [World.size_alloc] at hc hf hz)
  refine bodyPost_ret (v := .agg #[.int .i64 p, .slice (some ⟨w.heap.size + 1 + 1 + 1, 0, none⟩) n n]) (by simp [results, Try.results33, go_sem, hc]) rfl ?_
  simp only [World.size_alloc] at hown2 hb2
  have hb3 : Below w.heap.size w w2 := Below.trans (b := _) (by go_grown) (hb2.mono (by omega))
  refine ⟨some ⟨w.heap.size + 1 + 1 + 1, 0, none⟩, n, by rw [hn], ?_, ?_⟩
  · rw [hn]
    exact own_far (own_far (own_far (own_lower hown2 (by omega)) (p := ⟨w.heap.size + 1 + 1, 1, none⟩) (by simp) _) (p := ⟨w.heap.size + 1, 0, none⟩) (by simp) _) (p := ⟨w.heap.size + 1, 1, none⟩) (by simp) _
  · exact ((hb3.setCell (p := ⟨w.heap.size + 1 + 1, 1, none⟩) (by simp; omega) _).setCell (p := ⟨w.heap.size + 1, 0, none⟩) (by simp) _).setCell (p := ⟨w.heap.size + 1, 1, none⟩) (by simp) _

set_option maxHeartbeats 1000000 in
theorem eqPuzzle_any (p q : Int) (l m : CL) (A B : Option Addr) (c d : Nat) (w : World) (hl : l.length ≤ maxLen) (hm : m.length ≤ maxLen)
    (hA : CRead w w.heap.size A (ccells l)) (hB : CRead w w.heap.size B (ccells m)) :
    Calls Try.prog 35 #[.agg #[.int .i64 p, .slice A l.length c], .agg #[.int .i64 q, .slice B m.length d]] w fun e w' =>
      e = .returned (.bool (decide (p = q ∧ l = m))) ∧ Below w.heap.size w w' := by
  by_cases hpq : p = q
  · subst hpq
    by_cases hlm : l = m
    · have e : decide (p = p ∧ l = m) = true := by simp [hlm]
      rw [e]
      clear e
      have Hlm := Lib.hid hlm
      clear hlm
      go_enter Try.func35, Try.ntmps35
      go_wp2_with (go_at_call 67; refine (eqClueS_any l m _ _ _ _ _ hl hm ((hA.below (B' := w.heap.size) (by go_grown) (Nat.le_refl _)).more (by go_size)) ((hB.below (B' := w.heap.size) (by go_grown) (Nat.le_refl _)).more (by go_size))).mono ?_; rw [decide_eq_true Hlm.out]; rintro e w2 ⟨rfl, hb2⟩; simp only [World.size_alloc] at hb2)
      go_ret
      exact ⟨rfl, Below.trans (b := _) (by go_grown) (hb2.mono (by omega))⟩
    · have e : decide (p = p ∧ l = m) = false := by simp [hlm]
      rw [e]
      clear e
      have Hlm := Lib.hid hlm
      clear hlm
      go_enter Try.func35, Try.ntmps35
      go_wp2_with (go_at_call 67; refine (eqClueS_any l m _ _ _ _ _ hl hm ((hA.below (B' := w.heap.size) (by go_grown) (Nat.le_refl _)).more (by go_size)) ((hB.below (B' := w.heap.size) (by go_grown) (Nat.le_refl _)).more (by go_size))).mono ?_; rw [decide_eq_false Hlm.out]; rintro e w2 ⟨rfl, hb2⟩; simp only [World.size_alloc] at hb2)
      go_ret
      exact ⟨rfl, Below.trans (b := _) (by go_grown) (hb2.mono (by omega))⟩
  · have e : decide (p = q ∧ l = m) = false := by simp [hpq]
    rw [e]
    clear e
    go_enter Try.func35, Try.ntmps35
    go_wp2
    go_ret
    exact ⟨rfl, by go_grown⟩

set_option maxHeartbeats 1000000 in
theorem markPuzzle_any (p : Int) (l : CL) (A : Option Addr) (n c : Nat) (k0 : Int) (base : Nat) (w : World) (hn : l.length = n) (hl : n ≤ 1048576) (hk0 : 0 ≤ k0 ∧ k0 ≤ 16777216) (hown0 : w.ownsRow base 65 3 (.slice A n c) n (ccells l)) :
    Calls Try.prog 36 #[.agg #[.int .i64 p, .slice A n c], .int .i64 k0] w fun e w' =>
      e = .returned (.int .i64 (k0 + 3 * n)) ∧ w'.ownsRow base 65 3 (.slice A n c) n (ccells (cmarks k0 n)) ∧ w.grownBy w' (Value.ownBlock (.slice A n c)) := by
  have Hn := Lib.hid hn
  clear hn
  have hk1 : 0 ≤ k0 + 3 * (n : Int) := by omega
  go_enter Try.func36, Try.ntmps36
  go_wp2_with (go_at_call 68; refine (markClueS_any l _ _ _ _ _ _ Hn.out hl hk0 (hown0.alloc _)).mono ?_; rintro e w2 ⟨rfl, hown2, hb2⟩)
  go_ret
  exact ⟨rfl, hown2, below_gb (B := w.heap.size) (by go_grown) hb2 (Nat.le_refl _)⟩

set_option maxHeartbeats 1000000 in
theorem heldPuzzle_any (p : Int) (A : Option Addr) (n c : Nat) (k0 : Int) (w : World) (hl : n ≤ 1048576) (hk0 : 0 ≤ k0 ∧ k0 ≤ 16777216) (hA : CRead w w.heap.size A (ccells (cmarks k0 n))) :
    Calls Try.prog 37 #[.agg #[.int .i64 p, .slice A n c], .int .i64 k0] w fun e w' => e = .returned (.int .i64 (k0 + 3 * n)) ∧ Below w.heap.size w w' := by
  have hk1 : 0 ≤ k0 + 3 * (n : Int) := by omega
  go_enter Try.func37, Try.ntmps37
  go_wp2_with (go_at_call 69; refine (heldClueS_any _ _ _ _ _ hl hk0 ((hA.below (B' := w.heap.size) (by go_grown) (Nat.le_refl _)).more (by go_size))).mono ?_; rintro e w2 ⟨rfl, rfl⟩)
  go_ret
  exact ⟨rfl, by go_grown⟩
end Go.Proofs.Ytkiobefojckocaa
/-
  A CLUE, A PUZZLE THAT CAME IN, opened.
-/
namespace Go.Proofs.Ytkiobefojckocaa
open Go.ChangeShapes Go.WideShapes Go.ChangeAt Go.RowKit Go.Deep

theorem Try.cellsClue : Try.prog.cellsOf 63 = 3 := by kernel_rfl
theorem Try.cellsPuzzle : Try.prog.cellsOf 51 = 2 := by kernel_rfl
section
variable {H : Type} {enc : TypeId × Value → H} {W : World}
set_option maxRecDepth 100000 in
/-- A clue that came in. -/
theorem open_clue {v : Value} {d : DataW H} {p : List MemPlace} {r : Reach} {b0 : Nat} (hv : Value.okWide Try.prog W r b0 63 v) (h : DataW.Trod enc Try.prog W 0 (fun _ => true) true 63 v d p) :
    ∃ x y z : Int, v = .agg #[.int .i64 x, .int .i64 y, .int .i64 z] := by
  obtain ⟨v0, v1, v2, y0, y1, y2, n, rfl, _, _, h0, h1, h2⟩ := Joins.open_agg3 Try.underlying63 (by kernel_rfl) Try.cellsClue hv h
  obtain ⟨x, hx, _, _⟩ := DataW.trod_int Try.underlying3 h0
  obtain ⟨y, hy, _, _⟩ := DataW.trod_int Try.underlying3 h1
  obtain ⟨z, hz, _, _⟩ := DataW.trod_int Try.underlying3 h2
  simp only [List.cons.injEq, and_true] at hx hy hz
  subst hx hy hz
  exact ⟨x, y, z, rfl⟩
set_option maxRecDepth 100000 in
/-- A puzzle that came in. -/
theorem open_puzzle {v : Value} {d : DataW H} {p : List MemPlace} {r : Reach} {b0 : Nat} (hv : Value.okWide Try.prog W r b0 51 v) (h : DataW.Trod enc Try.prog W 0 (fun _ => true) true 51 v d p) :
    ∃ (x : Int) (l : CL) (A : Option Addr) (c : Nat), v = .agg #[.int .i64 x, .slice A l.length c] ∧ l.length ≤ maxLen ∧ CRead W W.heap.size A (ccells l) := by
  obtain ⟨v0, v1, y0, y1, n, rfl, _, _, h0, h1⟩ := Joins.open_agg2 Try.underlying51 (by kernel_rfl) Try.cellsPuzzle hv h
  obtain ⟨x, hx, _, _⟩ := DataW.trod_int Try.underlying3 h0
  simp only [List.cons.injEq, and_true] at hx
  subst hx
  rcases open_slice Try.underlying49 h1 with ⟨hcs, _⟩ | ⟨a, len, cap, m, n', D, Pl, hcs, _, hlc, hcm, hm, _, hall⟩
  · simp only [List.cons.injEq, and_true] at hcs
    subst hcs
    exact ⟨x, [], none, 0, rfl, Nat.zero_le _, CRead.nil⟩
  · simp only [List.cons.injEq, and_true] at hcs
    subst hcs
    have hm' : m = cap := by simpa using hm
    subst hm'
    have each : ∀ i, i < len → ∃ a0 a1 a2 : Int, W.cell? (a.add (i * 3)) = some (.int .i64 a0) ∧ W.cell? (a.add (i * 3 + 1)) = some (.int .i64 a1) ∧ W.cell? (a.add (i * 3 + 2)) = some (.int .i64 a2) := by
      intro i hi
      obtain ⟨cs', h1, h2⟩ := hall i (by omega)
      rw [Try.cellsClue] at h1
      obtain ⟨_, hlen, hcell⟩ := World.cells?_some h1
      obtain ⟨y0, y1, y2, n, _, _, g0, g1, g2⟩ := trod_struct3 Try.underlying63 h2
      match cs', hlen with
      | [w0, w1, w2], _ =>
        obtain ⟨a0, e0, _, _⟩ := DataW.trod_int Try.underlying3 g0
        obtain ⟨a1, e1, _, _⟩ := DataW.trod_int Try.underlying3 g1
        obtain ⟨a2, e2, _, _⟩ := DataW.trod_int Try.underlying3 g2
        simp [Try.cellsInt] at e0 e1 e2
        have c0 := hcell 0 (by omega)
        have c1 := hcell 1 (by omega)
        have c2 := hcell 2 (by omega)
        rw [add_add] at c0 c1 c2
        subst e0 e1 e2
        exact ⟨a0, a1, a2, by simpa using c0, by simpa using c1, by simpa using c2⟩
    let num : Option Value → Int := fun | some (.int _ z) => z | _ => 0
    let l : CL := (List.range len).map fun i => (num (W.cell? (a.add (i * 3))), num (W.cell? (a.add (i * 3 + 1))), num (W.cell? (a.add (i * 3 + 2))))
    have hll : l.length = len := by simp [l]
    refine ⟨x, l, some a, m, by rw [hll], by rw [hll]; omega, ?_⟩
    intro j u hu
    have hjl : j < (ccells l).length := (List.getElem?_eq_some_iff.1 hu).1
    rw [ccells_length, hll] at hjl
    have hi : j / 3 < len := by omega
    obtain ⟨a0, a1, a2, c0, c1, c2⟩ := each (j / 3) hi
    have hl : l[j / 3]? = some (a0, a1, a2) := by simp [l, hi, c0, c1, c2, num]
    obtain ⟨z0, _, _, cz, _⟩ := each 0 (by omega)
    have hspot : a.spot = none := by simpa [Addr.add] using World.cell?_spot cz
    obtain ⟨b, off, sp⟩ := a
    simp only at hspot
    subst hspot
    have hb : b < W.heap.size := by
      have := World.block_lt_of_cell? W _ cz
      simpa [Addr.add] using this
    refine ⟨b, off, rfl, hb, ?_⟩
    rw [add_plain] at c0 c1 c2
    rcases (show j % 3 = 0 ∨ j % 3 = 1 ∨ j % 3 = 2 by omega) with h2 | h2 | h2
    · have e : j = j / 3 * 3 := by omega
      have e2 := ccells_at0 hl
      rw [← e] at e2 c0
      rw [hu] at e2
      rw [c0, e2]
    · have e : j = j / 3 * 3 + 1 := by omega
      have e2 := ccells_at1 hl
      rw [← e] at e2 c1
      rw [hu] at e2
      rw [c1, e2]
    · have e : j = j / 3 * 3 + 2 := by omega
      have e2 := ccells_at2 hl
      rw [← e] at e2 c2
      rw [hu] at e2
      rw [c2, e2]
end
end Go.Proofs.Ytkiobefojckocaa
/-
  WHAT A CLUE, A PUZZLE IS (pure), and what the laws on them answer.
-/
namespace Go.Proofs.Ytkiobefojckocaa
open Go.RowKit

def prsI (n : Int) : Int := if n = 1 then 0 else if n = 2 then 1 else if n = 3 then 3 else if n = 4 then 6 else 10
/-- is c a clue of n people? (n in 1..5) -/
def isCB (n : Int) (c : CT) : Bool :=
  if c.1 = 0 ∨ c.1 = 1 then l1InB c.2.1 0 (n - 1) && l1InB c.2.2 (c.2.1 + 1) (n - 1)
  else if c.1 = 2 then l1InB c.2.1 0 (n - 1) && l1InB c.2.2 0 (n - 1)
  else if c.1 = 3 then l1InB c.2.1 0 (prsI n) && decide (c.2.2 = 0)
  else if c.1 = 4 then l1InB c.2.1 0 10 && decide (c.2.2 = 0)
  else if c.1 = 5 then l1InB c.2.1 1 n && decide (c.2.2 = 0)
  else false
def isGuests (n : Int) : Bool := l1InB n 1 5
def isU (p : Int) (l : CL) : Bool := isGuests p && (decide (l.length ≤ 8) && l.all (isCB p))
def resIsClue (n a b c : Int) : Bool := isGuests n && isCB n (a, b, c)
def resIsPuzzle (p : Int) (l : CL) : Bool := isU p l
theorem isU_parts {p : Int} {l : CL} (h : isU p l = true) : 1 ≤ p ∧ p ≤ 5 ∧ l.length ≤ 8 ∧ ∀ c ∈ l, isCB p c = true := by
  unfold isU isGuests l1InB at h
  simp only [Bool.and_eq_true, decide_eq_true_eq, List.all_eq_true] at h
  exact ⟨h.1.1, h.1.2, h.2.1, h.2.2⟩
end Go.Proofs.Ytkiobefojckocaa
/-
  WHAT A CLUE, A PUZZLE IS: the model's functions, by their contracts.
-/
namespace Go.Proofs.Ytkiobefojckocaa
open Go.RowKit

set_option maxHeartbeats 400000 in
theorem pzPeople_any (n : Int) (w : World) : Calls Try.prog 84 #[.int .i64 n] w fun e w' => e = .returned (.bool (isGuests n)) ∧ w = w' := by
  go_enter Try.func84, Try.ntmps84
  go_wp2_with (go_at_call 62; refine (l1In_any _ _ _ _).mono ?_; rintro e w' ⟨rfl, rfl⟩)
  go_ret
  exact ⟨rfl, rfl⟩

set_option maxHeartbeats 4000000 in
set_option maxRecDepth 100000 in
theorem pzClue_any (n k a b : Int) (h1 : 1 ≤ n) (h5 : n ≤ 5) (w : World) :
    Calls Try.prog 70 #[.int .i64 n, .agg #[.int .i64 k, .int .i64 a, .int .i64 b]] w fun e w' => e = .returned (.bool (isCB n (k, a, b))) ∧ Below w.heap.size w w' := by
  by_cases hk0 : k = 0
  · subst hk0
    by_cases ha : 0 ≤ a ∧ a ≤ n - 1
    · by_cases hb : a + 1 ≤ b ∧ b ≤ n - 1
      · rw [show isCB n (0, a, b) = true from by unfold isCB l1InB; simp; omega]
        go_enter Try.func70, Try.ntmps70
        go_wp2_with fail
        refine (l1In_yes a (0) (n - 1) (by omega) (by omega) _).mono ?_
        rintro e w' ⟨rfl, rfl⟩
        go_wp2_with fail
        refine (l1In_yes b (a + 1) (n - 1) (by omega) (by omega) _).mono ?_
        rintro e w' ⟨rfl, rfl⟩
        go_wp2
        go_ret
        exact ⟨rfl, by go_grown⟩
      · rw [show isCB n (0, a, b) = false from by unfold isCB l1InB; simp; omega]
        go_enter Try.func70, Try.ntmps70
        go_wp2_with fail
        refine (l1In_yes a (0) (n - 1) (by omega) (by omega) _).mono ?_
        rintro e w' ⟨rfl, rfl⟩
        go_wp2_with fail
        refine (l1In_no b (a + 1) (n - 1) (by omega) _).mono ?_
        rintro e w' ⟨rfl, rfl⟩
        go_wp2
        go_ret
        exact ⟨rfl, by go_grown⟩
    · rw [show isCB n (0, a, b) = false from by unfold isCB l1InB; simp; omega]
      go_enter Try.func70, Try.ntmps70
      go_wp2_with fail
      refine (l1In_no a (0) (n - 1) (by omega) _).mono ?_
      rintro e w' ⟨rfl, rfl⟩
      go_wp2
      go_ret
      exact ⟨rfl, by go_grown⟩
  by_cases hk1 : k = 1
  · subst hk1
    by_cases ha : 0 ≤ a ∧ a ≤ n - 1
    · by_cases hb : a + 1 ≤ b ∧ b ≤ n - 1
      · rw [show isCB n (1, a, b) = true from by unfold isCB l1InB; simp; omega]
        go_enter Try.func70, Try.ntmps70
        go_wp2_with fail
        refine (l1In_yes a (0) (n - 1) (by omega) (by omega) _).mono ?_
        rintro e w' ⟨rfl, rfl⟩
        go_wp2_with fail
        refine (l1In_yes b (a + 1) (n - 1) (by omega) (by omega) _).mono ?_
        rintro e w' ⟨rfl, rfl⟩
        go_wp2
        go_ret
        exact ⟨rfl, by go_grown⟩
      · rw [show isCB n (1, a, b) = false from by unfold isCB l1InB; simp; omega]
        go_enter Try.func70, Try.ntmps70
        go_wp2_with fail
        refine (l1In_yes a (0) (n - 1) (by omega) (by omega) _).mono ?_
        rintro e w' ⟨rfl, rfl⟩
        go_wp2_with fail
        refine (l1In_no b (a + 1) (n - 1) (by omega) _).mono ?_
        rintro e w' ⟨rfl, rfl⟩
        go_wp2
        go_ret
        exact ⟨rfl, by go_grown⟩
    · rw [show isCB n (1, a, b) = false from by unfold isCB l1InB; simp; omega]
      go_enter Try.func70, Try.ntmps70
      go_wp2_with fail
      refine (l1In_no a (0) (n - 1) (by omega) _).mono ?_
      rintro e w' ⟨rfl, rfl⟩
      go_wp2
      go_ret
      exact ⟨rfl, by go_grown⟩
  by_cases hk2 : k = 2
  · subst hk2
    by_cases ha : 0 ≤ a ∧ a ≤ n - 1
    · by_cases hb : 0 ≤ b ∧ b ≤ n - 1
      · rw [show isCB n (2, a, b) = true from by unfold isCB l1InB; simp; omega]
        go_enter Try.func70, Try.ntmps70
        go_wp2_with fail
        refine (l1In_yes a (0) (n - 1) (by omega) (by omega) _).mono ?_
        rintro e w' ⟨rfl, rfl⟩
        go_wp2_with fail
        refine (l1In_yes b (0) (n - 1) (by omega) (by omega) _).mono ?_
        rintro e w' ⟨rfl, rfl⟩
        go_wp2
        go_ret
        exact ⟨rfl, by go_grown⟩
      · rw [show isCB n (2, a, b) = false from by unfold isCB l1InB; simp; omega]
        go_enter Try.func70, Try.ntmps70
        go_wp2_with fail
        refine (l1In_yes a (0) (n - 1) (by omega) (by omega) _).mono ?_
        rintro e w' ⟨rfl, rfl⟩
        go_wp2_with fail
        refine (l1In_no b (0) (n - 1) (by omega) _).mono ?_
        rintro e w' ⟨rfl, rfl⟩
        go_wp2
        go_ret
        exact ⟨rfl, by go_grown⟩
    · rw [show isCB n (2, a, b) = false from by unfold isCB l1InB; simp; omega]
      go_enter Try.func70, Try.ntmps70
      go_wp2_with fail
      refine (l1In_no a (0) (n - 1) (by omega) _).mono ?_
      rintro e w' ⟨rfl, rfl⟩
      go_wp2
      go_ret
      exact ⟨rfl, by go_grown⟩
  by_cases hk3 : k = 3
  · subst hk3
    obtain rfl | rfl | rfl | rfl | rfl : n = 1 ∨ n = 2 ∨ n = 3 ∨ n = 4 ∨ n = 5 := by omega
    · by_cases ha : 0 ≤ a ∧ a ≤ 0
      · by_cases hb : b = 0
        · subst hb
          rw [show isCB 1 (3, a, 0) = true from by unfold isCB l1InB prsI; simp; omega]
          go_enter Try.func70, Try.ntmps70
          go_wp2_with fail
          refine (l1In_yes a (0) (0) (by omega) (by omega) _).mono ?_
          rintro e w' ⟨rfl, rfl⟩
          go_wp2
          go_ret
          exact ⟨rfl, by go_grown⟩
        · have hb' : (b == 0) = false := by simp [hb]
          rw [show isCB 1 (3, a, b) = false from by unfold isCB l1InB prsI; simp; omega]
          go_enter Try.func70, Try.ntmps70
          go_wp2_with fail
          refine (l1In_yes a (0) (0) (by omega) (by omega) _).mono ?_
          rintro e w' ⟨rfl, rfl⟩
          go_wp2
          go_ret
          exact ⟨rfl, by go_grown⟩
      · rw [show isCB 1 (3, a, b) = false from by unfold isCB l1InB prsI; simp; omega]
        go_enter Try.func70, Try.ntmps70
        go_wp2_with fail
        refine (l1In_no a (0) (0) (by omega) _).mono ?_
        rintro e w' ⟨rfl, rfl⟩
        go_wp2
        go_ret
        exact ⟨rfl, by go_grown⟩
    · by_cases ha : 0 ≤ a ∧ a ≤ 1
      · by_cases hb : b = 0
        · subst hb
          rw [show isCB 2 (3, a, 0) = true from by unfold isCB l1InB prsI; simp; omega]
          go_enter Try.func70, Try.ntmps70
          go_wp2_with fail
          refine (l1In_yes a (0) (1) (by omega) (by omega) _).mono ?_
          rintro e w' ⟨rfl, rfl⟩
          go_wp2
          go_ret
          exact ⟨rfl, by go_grown⟩
        · have hb' : (b == 0) = false := by simp [hb]
          rw [show isCB 2 (3, a, b) = false from by unfold isCB l1InB prsI; simp; omega]
          go_enter Try.func70, Try.ntmps70
          go_wp2_with fail
          refine (l1In_yes a (0) (1) (by omega) (by omega) _).mono ?_
          rintro e w' ⟨rfl, rfl⟩
          go_wp2
          go_ret
          exact ⟨rfl, by go_grown⟩
      · rw [show isCB 2 (3, a, b) = false from by unfold isCB l1InB prsI; simp; omega]
        go_enter Try.func70, Try.ntmps70
        go_wp2_with fail
        refine (l1In_no a (0) (1) (by omega) _).mono ?_
        rintro e w' ⟨rfl, rfl⟩
        go_wp2
        go_ret
        exact ⟨rfl, by go_grown⟩
    · by_cases ha : 0 ≤ a ∧ a ≤ 3
      · by_cases hb : b = 0
        · subst hb
          rw [show isCB 3 (3, a, 0) = true from by unfold isCB l1InB prsI; simp; omega]
          go_enter Try.func70, Try.ntmps70
          go_wp2_with fail
          refine (l1In_yes a (0) (3) (by omega) (by omega) _).mono ?_
          rintro e w' ⟨rfl, rfl⟩
          go_wp2
          go_ret
          exact ⟨rfl, by go_grown⟩
        · have hb' : (b == 0) = false := by simp [hb]
          rw [show isCB 3 (3, a, b) = false from by unfold isCB l1InB prsI; simp; omega]
          go_enter Try.func70, Try.ntmps70
          go_wp2_with fail
          refine (l1In_yes a (0) (3) (by omega) (by omega) _).mono ?_
          rintro e w' ⟨rfl, rfl⟩
          go_wp2
          go_ret
          exact ⟨rfl, by go_grown⟩
      · rw [show isCB 3 (3, a, b) = false from by unfold isCB l1InB prsI; simp; omega]
        go_enter Try.func70, Try.ntmps70
        go_wp2_with fail
        refine (l1In_no a (0) (3) (by omega) _).mono ?_
        rintro e w' ⟨rfl, rfl⟩
        go_wp2
        go_ret
        exact ⟨rfl, by go_grown⟩
    · by_cases ha : 0 ≤ a ∧ a ≤ 6
      · by_cases hb : b = 0
        · subst hb
          rw [show isCB 4 (3, a, 0) = true from by unfold isCB l1InB prsI; simp; omega]
          go_enter Try.func70, Try.ntmps70
          go_wp2_with fail
          refine (l1In_yes a (0) (6) (by omega) (by omega) _).mono ?_
          rintro e w' ⟨rfl, rfl⟩
          go_wp2
          go_ret
          exact ⟨rfl, by go_grown⟩
        · have hb' : (b == 0) = false := by simp [hb]
          rw [show isCB 4 (3, a, b) = false from by unfold isCB l1InB prsI; simp; omega]
          go_enter Try.func70, Try.ntmps70
          go_wp2_with fail
          refine (l1In_yes a (0) (6) (by omega) (by omega) _).mono ?_
          rintro e w' ⟨rfl, rfl⟩
          go_wp2
          go_ret
          exact ⟨rfl, by go_grown⟩
      · rw [show isCB 4 (3, a, b) = false from by unfold isCB l1InB prsI; simp; omega]
        go_enter Try.func70, Try.ntmps70
        go_wp2_with fail
        refine (l1In_no a (0) (6) (by omega) _).mono ?_
        rintro e w' ⟨rfl, rfl⟩
        go_wp2
        go_ret
        exact ⟨rfl, by go_grown⟩
    · by_cases ha : 0 ≤ a ∧ a ≤ 10
      · by_cases hb : b = 0
        · subst hb
          rw [show isCB 5 (3, a, 0) = true from by unfold isCB l1InB prsI; simp; omega]
          go_enter Try.func70, Try.ntmps70
          go_wp2_with fail
          refine (l1In_yes a (0) (10) (by omega) (by omega) _).mono ?_
          rintro e w' ⟨rfl, rfl⟩
          go_wp2
          go_ret
          exact ⟨rfl, by go_grown⟩
        · have hb' : (b == 0) = false := by simp [hb]
          rw [show isCB 5 (3, a, b) = false from by unfold isCB l1InB prsI; simp; omega]
          go_enter Try.func70, Try.ntmps70
          go_wp2_with fail
          refine (l1In_yes a (0) (10) (by omega) (by omega) _).mono ?_
          rintro e w' ⟨rfl, rfl⟩
          go_wp2
          go_ret
          exact ⟨rfl, by go_grown⟩
      · rw [show isCB 5 (3, a, b) = false from by unfold isCB l1InB prsI; simp; omega]
        go_enter Try.func70, Try.ntmps70
        go_wp2_with fail
        refine (l1In_no a (0) (10) (by omega) _).mono ?_
        rintro e w' ⟨rfl, rfl⟩
        go_wp2
        go_ret
        exact ⟨rfl, by go_grown⟩
  by_cases hk4 : k = 4
  · subst hk4
    by_cases ha : 0 ≤ a ∧ a ≤ 10
    · by_cases hb : b = 0
      · subst hb
        rw [show isCB n (4, a, 0) = true from by unfold isCB l1InB prsI; simp; omega]
        go_enter Try.func70, Try.ntmps70
        go_wp2_with fail
        refine (l1In_yes a (0) (10) (by omega) (by omega) _).mono ?_
        rintro e w' ⟨rfl, rfl⟩
        go_wp2
        go_ret
        exact ⟨rfl, by go_grown⟩
      · have hb' : (b == 0) = false := by simp [hb]
        rw [show isCB n (4, a, b) = false from by unfold isCB l1InB prsI; simp; omega]
        go_enter Try.func70, Try.ntmps70
        go_wp2_with fail
        refine (l1In_yes a (0) (10) (by omega) (by omega) _).mono ?_
        rintro e w' ⟨rfl, rfl⟩
        go_wp2
        go_ret
        exact ⟨rfl, by go_grown⟩
    · rw [show isCB n (4, a, b) = false from by unfold isCB l1InB prsI; simp; omega]
      go_enter Try.func70, Try.ntmps70
      go_wp2_with fail
      refine (l1In_no a (0) (10) (by omega) _).mono ?_
      rintro e w' ⟨rfl, rfl⟩
      go_wp2
      go_ret
      exact ⟨rfl, by go_grown⟩
  by_cases hk5 : k = 5
  · subst hk5
    by_cases ha : 1 ≤ a ∧ a ≤ n
    · by_cases hb : b = 0
      · subst hb
        rw [show isCB n (5, a, 0) = true from by unfold isCB l1InB prsI; simp; omega]
        go_enter Try.func70, Try.ntmps70
        go_wp2_with fail
        refine (l1In_yes a (1) (n) (by omega) (by omega) _).mono ?_
        rintro e w' ⟨rfl, rfl⟩
        go_wp2
        go_ret
        exact ⟨rfl, by go_grown⟩
      · have hb' : (b == 0) = false := by simp [hb]
        rw [show isCB n (5, a, b) = false from by unfold isCB l1InB prsI; simp; omega]
        go_enter Try.func70, Try.ntmps70
        go_wp2_with fail
        refine (l1In_yes a (1) (n) (by omega) (by omega) _).mono ?_
        rintro e w' ⟨rfl, rfl⟩
        go_wp2
        go_ret
        exact ⟨rfl, by go_grown⟩
    · rw [show isCB n (5, a, b) = false from by unfold isCB l1InB prsI; simp; omega]
      go_enter Try.func70, Try.ntmps70
      go_wp2_with fail
      refine (l1In_no a (1) (n) (by omega) _).mono ?_
      rintro e w' ⟨rfl, rfl⟩
      go_wp2
      go_ret
      exact ⟨rfl, by go_grown⟩
  rw [show isCB n (k, a, b) = false from by unfold isCB; simp [hk0, hk1, hk2, hk3, hk4, hk5]]
  go_enter Try.func70, Try.ntmps70
  go_wp2
  go_ret
  exact ⟨rfl, by go_grown⟩

set_option maxHeartbeats 4000000 in
set_option maxRecDepth 100000 in
theorem pzGood_any (p : Int) (l : CL) (A : Option Addr) (c : Nat) (w : World) (hl : l.length ≤ 1048576) (hA : CRead w w.heap.size A (ccells l)) :
    Calls Try.prog 61 #[.agg #[.int .i64 p, .slice A l.length c]] w fun e w' => e = .returned (.bool (isU p l)) ∧ Below w.heap.size w w' := by
  cases hg : isGuests p with
  | false =>
    rw [show isU p l = false from by unfold isU; rw [hg]; rfl]
    have Hg := Lib.hid hg
    clear hg
    go_enter Try.func61, Try.ntmps61
    go_wp2_with (go_at_call 84; refine (pzPeople_any _ _).mono ?_; rw [Hg.out]; rintro e w' ⟨rfl, rfl⟩)
    go_ret
    exact ⟨rfl, by go_grown⟩
  | true =>
    have hp : 1 ≤ p ∧ p ≤ 5 := by simpa [isGuests, l1InB] using hg
    obtain ⟨h1, h5⟩ := hp
    have Hg := Lib.hid hg
    by_cases h8 : 8 < (l.length : Int)
    · rw [show isU p l = false from by unfold isU; rw [show decide (l.length ≤ 8) = false from decide_eq_false (by omega)]; simp]
      clear hg
      go_enter Try.func61, Try.ntmps61
      go_wp2_with (go_at_call 84; refine (pzPeople_any _ _).mono ?_; rw [Hg.out]; rintro e w' ⟨rfl, rfl⟩)
      go_ret
      exact ⟨rfl, by go_grown⟩
    · have he : isU p l = l.all (isCB p) := by unfold isU; rw [hg, show decide (l.length ≤ 8) = true from decide_eq_true (by omega)]; simp
      rw [he]
      clear hg he
      generalize hn : l.length = n at *
      have Hn := Lib.hid hn
      clear hn
      go_enter Try.func61, Try.ntmps61
      go_wp2_with (go_at_call 84; refine (pzPeople_any _ _).mono ?_; rw [Hg.out]; rintro e w' ⟨rfl, rfl⟩)
      have hbw : Below (w.heap.size + 1) (w.alloc (Obj.cells #[.int .i64 p, .slice A n c] 55)) (w.alloc (Obj.cells #[.int .i64 p, .slice A n c] 55)) := Below.refl _ _
      go_loopw [18] (fun i wr => ∃ k : Nat, k ≤ n ∧ i = .int .i64 k ∧ (l.take k).all (isCB p) = true ∧ Below (w.heap.size + 1) (w.alloc (Obj.cells #[.int .i64 p, .slice A n c] 55)) wr) (fun i _ => n - (intOf i).toNat)
      case atStart => exact ⟨0, Nat.zero_le _, rfl, rfl, hbw⟩
      case round =>
        obtain ⟨k, hk, rfl, hgood, hb⟩ := hrel
        have Hgood := Lib.hid hgood
        clear hgood hbw
        have hs := hb.size
        simp only [World.size_alloc] at hs
        have hbw : Below w.heap.size w wr := Below.trans (b := _) (by go_grown) (hb.mono (by omega))
        have u0 : wr.cell? ⟨w.heap.size, 0, none⟩ = some (.int .i64 p) := (hb.cell (p := ⟨w.heap.size, 0, none⟩) (by simp)).trans (by simp)
        have u1 : wr.cell? ⟨w.heap.size, 1, none⟩ = some (.slice A n c) := (hb.cell (p := ⟨w.heap.size, 1, none⟩) (by simp)).trans (by simp)
        by_cases hlt : k < n
        · obtain ⟨⟨x, y, z⟩, hx⟩ := getSome l k (by rw [Hn.out]; exact hlt)
          obtain ⟨b, off, rfl, hbb, c0, c1, c2⟩ := (hA.below hbw (Nat.le_refl _)).clue hx
          have hki : (k : Int) < (n : Int) := by omega
          have Hx := Lib.hid hx
          clear hx
          have v0 : (wr.alloc (Obj.cells #[.int .i64 x, .int .i64 y, .int .i64 z] 65)).cell? ⟨w.heap.size, 0, none⟩ = some (.int .i64 p) := (World.cell?_alloc_lt _ _ _ (by show w.heap.size < wr.heap.size; omega)).trans u0
          go_wp2_with fail
          refine (pzClue_any p x y z h1 h5 _).mono ?_
          rintro e w2 ⟨rfl, hb2⟩
          have hb3 : Below (w.heap.size + 1) (w.alloc (Obj.cells #[.int .i64 p, .slice (some ⟨b, off, none⟩) n c] 55)) w2 := hb.trans (Below.trans (b := _) (by go_grown) (hb2.mono (by simp; omega)))
          have hb4 : Below w.heap.size w w2 := hbw.trans (Below.trans (b := _) (by go_grown) (hb2.mono (by simp; omega)))
          clear c0 c1 c2 u0 u1 v0
          cases hq : isCB p (x, y, z)
          · go_wp2
            go_ret
            refine ⟨?_, hb4⟩
            have : l.all (isCB p) = false := by
              rw [List.all_eq_false]
              exact ⟨_, List.mem_of_getElem? Hx.out, by simp [hq]⟩
            rw [this]
            rfl
          · go_wp2
            go_roundw
            case rel =>
              refine ⟨k + 1, by omega, by go_num, ?_, hb3⟩
              rw [List.take_add_one, Hx.out, List.all_append, Hgood.out]
              simp [hq]
            case measure => simp [intOf]; omega
        · have hkl : k = n := by omega
          subst hkl
          have hge : ¬ ((k : Int) < k) := by omega
          go_wp2
          go_ret
          refine ⟨?_, hbw⟩
          have e := Hgood.out
          rw [List.take_of_length_le (by rw [Hn.out]; exact Nat.le_refl _)] at e
          rw [e]
          rfl
end Go.Proofs.Ytkiobefojckocaa
/-
  WAYS TO CHOOSE: the program's 'waysToChoose' and the model's 'trChoose', by their contracts; 'GroupBound', 'LeastMustHave', 'LeastOneKind'.
-/
namespace Go.Proofs.Ytkiobefojckocaa
open Go.RowKit

/-- the product of the first steps, as the program takes them -/
def waysI (n : Int) : Nat → Int
  | 0 => 1
  | i + 1 => (waysI n i * (n - i)).tdiv (i + 1)
/-- as the model takes them -/
def stepsI (n k : Int) : Nat → Int
  | 0 => 1
  | i + 1 => (stepsI n k i * (n - k + (i + 1))).tdiv (i + 1)
def InWays (n : Int) (k : Nat) : Prop := (0 ≤ n ∧ n ≤ 12 ∧ k ≤ 12) ∨ (0 ≤ n ∧ n ≤ 132 ∧ k ≤ 2)
theorem waysI_all : (∀ n : Fin 13, ∀ k : Fin 13, 0 ≤ waysI (n.val : Int) k.val ∧ waysI (n.val : Int) k.val ≤ 10000) ∧ (∀ n : Fin 133, ∀ k : Fin 3, 0 ≤ waysI (n.val : Int) k.val ∧ waysI (n.val : Int) k.val ≤ 10000) := by
  constructor <;> decide +kernel
theorem waysI_bound {n : Int} {k : Nat} (h : InWays n k) : 0 ≤ waysI n k ∧ waysI n k ≤ 10000 := by
  rcases h with ⟨h0, h1, h2⟩ | ⟨h0, h1, h2⟩
  · have := waysI_all.1 ⟨n.toNat, by omega⟩ ⟨k, by omega⟩
    rwa [show ((n.toNat : Nat) : Int) = n from by omega] at this
  · have := waysI_all.2 ⟨n.toNat, by omega⟩ ⟨k, by omega⟩
    rwa [show ((n.toNat : Nat) : Int) = n from by omega] at this
theorem InWays.less {n : Int} {k i : Nat} (h : InWays n k) (hi : i ≤ k) : InWays n i := by unfold InWays at *; omega
theorem stepsI_all : (∀ n : Fin 13, ∀ k : Fin 13, k.val ≤ n.val → ∀ i : Fin 13, i.val ≤ k.val → 0 ≤ stepsI (n.val : Int) (k.val : Int) i.val ∧ stepsI (n.val : Int) (k.val : Int) i.val ≤ 10000) ∧ (∀ n : Fin 133, ∀ k : Fin 3, k.val ≤ n.val → ∀ i : Fin 3, i.val ≤ k.val → 0 ≤ stepsI (n.val : Int) (k.val : Int) i.val ∧ stepsI (n.val : Int) (k.val : Int) i.val ≤ 10000) := by
  constructor <;> decide +kernel
theorem stepsI_bound {n : Int} {k i : Nat} (h : InWays n k) (hk : (k : Int) ≤ n) (hi : i ≤ k) : 0 ≤ stepsI n k i ∧ stepsI n k i ≤ 10000 := by
  rcases h with ⟨h0, h1, h2⟩ | ⟨h0, h1, h2⟩
  · have := stepsI_all.1 ⟨n.toNat, by omega⟩ ⟨k, by omega⟩ (by show k ≤ n.toNat; omega) ⟨i, by omega⟩ hi
    rwa [show ((n.toNat : Nat) : Int) = n from by omega] at this
  · have := stepsI_all.2 ⟨n.toNat, by omega⟩ ⟨k, by omega⟩ (by show k ≤ n.toNat; omega) ⟨i, by omega⟩ hi
    rwa [show ((n.toNat : Nat) : Int) = n from by omega] at this
theorem ways_steps_all : (∀ n : Fin 13, ∀ k : Fin 13, waysI (n.val : Int) k.val = if k.val > n.val then 0 else stepsI (n.val : Int) (k.val : Int) k.val) ∧ (∀ n : Fin 133, ∀ k : Fin 3, waysI (n.val : Int) k.val = if k.val > n.val then 0 else stepsI (n.val : Int) (k.val : Int) k.val) := by
  constructor <;> decide +kernel
theorem ways_steps {n : Int} {k : Nat} (h : InWays n k) : waysI n k = if (k : Int) > n then 0 else stepsI n k k := by
  rcases h with ⟨h0, h1, h2⟩ | ⟨h0, h1, h2⟩
  · have := ways_steps_all.1 ⟨n.toNat, by omega⟩ ⟨k, by omega⟩
    rw [show ((n.toNat : Nat) : Int) = n from by omega] at this
    rw [this]
    by_cases hk : k > n.toNat
    · rw [if_pos hk, if_pos (by omega)]
    · rw [if_neg hk, if_neg (by omega)]
  · have := ways_steps_all.2 ⟨n.toNat, by omega⟩ ⟨k, by omega⟩
    rw [show ((n.toNat : Nat) : Int) = n from by omega] at this
    rw [this]
    by_cases hk : k > n.toNat
    · rw [if_pos hk, if_pos (by omega)]
    · rw [if_neg hk, if_neg (by omega)]
/-- what a step's product is within -/
theorem mul_within {a b : Int} (ha : 0 ≤ a ∧ a ≤ 10000) (hb : -200 ≤ b ∧ b ≤ 200) : -2000000 ≤ a * b ∧ a * b ≤ 2000000 := by
  constructor
  · have h1 : a * (-200) ≤ a * b := Int.mul_le_mul_of_nonneg_left hb.1 ha.1
    omega
  · have h1 : a * b ≤ a * 200 := Int.mul_le_mul_of_nonneg_left hb.2 ha.1
    omega
theorem wrap_small {x : Int} (h : -9223372036854775808 ≤ x ∧ x ≤ 9223372036854775807) : IntKind.i64.wrap x = x := by simp [IntKind.wrap, IntKind.bits, IntKind.signed]; omega

set_option maxHeartbeats 1000000 in
set_option maxRecDepth 100000 in
theorem waysToChoose_any (n : Int) (k : Nat) (w : World) (h : InWays n k) :
    Calls Try.prog 106 #[.int .i64 n, .int .i64 k] w fun e w' => e = .returned (.int .i64 (waysI n k)) ∧ w = w' := by
  have hk12 : k ≤ 12 := by unfold InWays at h; omega
  have hn0 : 0 ≤ n ∧ n ≤ 132 := by unfold InWays at h; omega
  obtain ⟨hn0, hn1⟩ := hn0
  have H := Lib.hid h
  clear h
  go_enter Try.func106, Try.ntmps106
  go_wp2
  go_loop [5, 8] (fun v i => ∃ (j : Nat) (u : Int), j ≤ k ∧ i = .int .i64 j ∧ v = .int .i64 u ∧ u = waysI n j) (fun _ i => k - (intOf i).toNat)
  case atStart => exact ⟨0, 1, Nat.zero_le _, rfl, rfl, rfl⟩
  case round =>
    obtain ⟨j, u, hj, rfl, rfl, hu⟩ := hrel
    have hub := waysI_bound (H.out.less hj)
    rw [← hu] at hub
    obtain ⟨hu0, hu1⟩ := hub
    have Hu := Lib.hid hu
    by_cases hlt : j < k
    · have hnx := waysI_bound (H.out.less hlt)
      have e : waysI n (j + 1) = (u * (n - j)).tdiv ((j : Int) + 1) := by rw [hu]; rfl
      rw [e] at hnx
      have He := Lib.hid e
      obtain ⟨hm0, hm1⟩ := mul_within (a := u) (b := n - j) ⟨hu0, hu1⟩ (by omega)
      have hw1 : IntKind.i64.wrap (u * (n - j)) = u * (n - j) := wrap_small (by omega)
      have hw2 : IntKind.i64.wrap ((u * (n - j)).tdiv ((j : Int) + 1)) = (u * (n - j)).tdiv ((j : Int) + 1) := wrap_small (by omega)
      have hji : (j : Int) < (k : Int) := by omega
      have hj1 : ¬ ((j : Int) + 1 = 0) := by omega
      clear hu e hnx
      go_wp2
      go_round
      case rel => exact ⟨j + 1, _, by omega, by go_num, rfl, He.out.symm⟩
      case measure => simp [intOf]; omega
    · have hjk : j = k := by omega
      have hge : ¬ ((j : Int) < (k : Int)) := by omega
      clear hu
      go_wp2
      go_ret
      exact ⟨by rw [Hu.out, hjk]; rfl, rfl⟩

end Go.Proofs.Ytkiobefojckocaa
/-
  WHAT A CLUE, A PUZZLE IS: the program's functions, by their contracts: 'requireClue' panics with a clue that is none; 'areClues' recovers.
-/
namespace Go.Proofs.Ytkiobefojckocaa
open Go.RowKit

set_option maxHeartbeats 400000 in
theorem areGuests_any (n : Int) (w : World) : Calls Try.prog 85 #[.int .i64 n] w fun e w' => e = .returned (.bool (isGuests n)) ∧ w = w' := by
  by_cases h1 : 1 ≤ n
  · by_cases h5 : n ≤ 5
    · rw [show isGuests n = true from by simp [isGuests, l1InB, h1, h5]]
      go_enter Try.func85, Try.ntmps85
      go_wp2
      go_ret
      exact ⟨rfl, rfl⟩
    · rw [show isGuests n = false from by simp [isGuests, l1InB, h5]]
      go_enter Try.func85, Try.ntmps85
      go_wp2
      go_ret
      exact ⟨rfl, rfl⟩
  · rw [show isGuests n = false from by simp [isGuests, l1InB, h1]]
    go_enter Try.func85, Try.ntmps85
    go_wp2
    go_ret
    exact ⟨rfl, rfl⟩

/-- how 'requireClue' ends -/
def ReqPost (n k a b : Int) (w : World) (e : Ending) (w' : World) : Prop :=
  (if isCB n (k, a, b) = true then e = .returned (.tuple #[]) else e = .panicked [{ v := .iface 65 (.agg #[.int .i64 k, .int .i64 a, .int .i64 b]), recovered := false }]) ∧ Below w.heap.size w w'
theorem ReqPost.yes {n k a b : Int} {w w' : World} (h : isCB n (k, a, b) = true) (hb : Below w.heap.size w w') : ReqPost n k a b w (.returned (.tuple #[])) w' := ⟨by rw [if_pos h], hb⟩
theorem ReqPost.no {n k a b : Int} {w w' : World} (h : isCB n (k, a, b) = false) (hb : Below w.heap.size w w') : ReqPost n k a b w (.panicked [{ v := .iface 65 (.agg #[.int .i64 k, .int .i64 a, .int .i64 b]), recovered := false }]) w' := ⟨by rw [h]; rfl, hb⟩
set_option maxHeartbeats 8000000 in
set_option maxRecDepth 100000 in
theorem requireClue_any (n k a b : Int) (h1 : 1 ≤ n) (h5 : n ≤ 5) (w : World) :
    Calls Try.prog 100 #[.int .i64 n, .agg #[.int .i64 k, .int .i64 a, .int .i64 b]] w (ReqPost n k a b w) := by
  by_cases hk0 : k = 0
  · subst hk0
    by_cases g0 : 0 ≤ a
    rotate_left
    · have e : isCB n (0, a, b) = false := by unfold isCB l1InB; simp; omega
      go_enter Try.func100, Try.ntmps100
      go_wp2
      exact ⟨rfl, .no e (by go_grown)⟩
    · skip
      by_cases g1 : a < b
      rotate_left
      · have e : isCB n (0, a, b) = false := by unfold isCB l1InB; simp; omega
        go_enter Try.func100, Try.ntmps100
        go_wp2
        exact ⟨rfl, .no e (by go_grown)⟩
      · skip
        by_cases g2 : b < n
        rotate_left
        · have e : isCB n (0, a, b) = false := by unfold isCB l1InB; simp; omega
          go_enter Try.func100, Try.ntmps100
          go_wp2
          exact ⟨rfl, .no e (by go_grown)⟩
        · skip
          have e : isCB n (0, a, b) = true := by unfold isCB l1InB; simp; omega
          go_enter Try.func100, Try.ntmps100
          go_wp2
          go_end0
          exact .yes e (by go_grown)
  by_cases hk1 : k = 1
  · subst hk1
    by_cases g0 : 0 ≤ a
    rotate_left
    · have e : isCB n (1, a, b) = false := by unfold isCB l1InB; simp; omega
      go_enter Try.func100, Try.ntmps100
      go_wp2
      exact ⟨rfl, .no e (by go_grown)⟩
    · skip
      by_cases g1 : a < b
      rotate_left
      · have e : isCB n (1, a, b) = false := by unfold isCB l1InB; simp; omega
        go_enter Try.func100, Try.ntmps100
        go_wp2
        exact ⟨rfl, .no e (by go_grown)⟩
      · skip
        by_cases g2 : b < n
        rotate_left
        · have e : isCB n (1, a, b) = false := by unfold isCB l1InB; simp; omega
          go_enter Try.func100, Try.ntmps100
          go_wp2
          exact ⟨rfl, .no e (by go_grown)⟩
        · skip
          have e : isCB n (1, a, b) = true := by unfold isCB l1InB; simp; omega
          go_enter Try.func100, Try.ntmps100
          go_wp2
          go_end0
          exact .yes e (by go_grown)
  by_cases hk2 : k = 2
  · subst hk2
    by_cases g0 : 0 ≤ a
    rotate_left
    · have e : isCB n (2, a, b) = false := by unfold isCB l1InB; simp; omega
      go_enter Try.func100, Try.ntmps100
      go_wp2
      exact ⟨rfl, .no e (by go_grown)⟩
    · skip
      by_cases g1 : a < n
      rotate_left
      · have e : isCB n (2, a, b) = false := by unfold isCB l1InB; simp; omega
        go_enter Try.func100, Try.ntmps100
        go_wp2
        exact ⟨rfl, .no e (by go_grown)⟩
      · skip
        by_cases g2 : 0 ≤ b
        rotate_left
        · have e : isCB n (2, a, b) = false := by unfold isCB l1InB; simp; omega
          go_enter Try.func100, Try.ntmps100
          go_wp2
          exact ⟨rfl, .no e (by go_grown)⟩
        · skip
          by_cases g3 : b < n
          rotate_left
          · have e : isCB n (2, a, b) = false := by unfold isCB l1InB; simp; omega
            go_enter Try.func100, Try.ntmps100
            go_wp2
            exact ⟨rfl, .no e (by go_grown)⟩
          · skip
            have e : isCB n (2, a, b) = true := by unfold isCB l1InB; simp; omega
            go_enter Try.func100, Try.ntmps100
            go_wp2
            go_end0
            exact .yes e (by go_grown)
  by_cases hk3 : k = 3
  · subst hk3
    have W1 : Hid (∀ X : World, Calls Try.prog 106 #[.int .i64 1, .int .i64 2] X fun e w' => e = .returned (.int .i64 0) ∧ X = w') := Lib.hid fun X => by
      have h := waysToChoose_any 1 2 X (by unfold InWays; omega)
      rwa [show waysI 1 2 = 0 from by decide +kernel] at h
    have W2 : Hid (∀ X : World, Calls Try.prog 106 #[.int .i64 2, .int .i64 2] X fun e w' => e = .returned (.int .i64 1) ∧ X = w') := Lib.hid fun X => by
      have h := waysToChoose_any 2 2 X (by unfold InWays; omega)
      rwa [show waysI 2 2 = 1 from by decide +kernel] at h
    have W3 : Hid (∀ X : World, Calls Try.prog 106 #[.int .i64 3, .int .i64 2] X fun e w' => e = .returned (.int .i64 3) ∧ X = w') := Lib.hid fun X => by
      have h := waysToChoose_any 3 2 X (by unfold InWays; omega)
      rwa [show waysI 3 2 = 3 from by decide +kernel] at h
    have W4 : Hid (∀ X : World, Calls Try.prog 106 #[.int .i64 4, .int .i64 2] X fun e w' => e = .returned (.int .i64 6) ∧ X = w') := Lib.hid fun X => by
      have h := waysToChoose_any 4 2 X (by unfold InWays; omega)
      rwa [show waysI 4 2 = 6 from by decide +kernel] at h
    have W5 : Hid (∀ X : World, Calls Try.prog 106 #[.int .i64 5, .int .i64 2] X fun e w' => e = .returned (.int .i64 10) ∧ X = w') := Lib.hid fun X => by
      have h := waysToChoose_any 5 2 X (by unfold InWays; omega)
      rwa [show waysI 5 2 = 10 from by decide +kernel] at h
    obtain rfl | rfl | rfl | rfl | rfl : n = 1 ∨ n = 2 ∨ n = 3 ∨ n = 4 ∨ n = 5 := by omega
    · by_cases g0 : 0 ≤ a
      rotate_left
      · have e : isCB 1 (3, a, b) = false := by unfold isCB l1InB prsI; simp; omega
        have g' : decide (0 ≤ a) = false := decide_eq_false g0
        go_enter Try.func100, Try.ntmps100
        go_wp2
        go_quiet (fail)
        go_wp2
        exact ⟨rfl, .no e (Below.trans (b := w.alloc _) (by go_grown) ⟨rfl, rfl, rfl, Nat.le_refl _, fun _ _ => rfl⟩)⟩
      · skip
        by_cases g1 : a ≤ 0
        rotate_left
        · have e : isCB 1 (3, a, b) = false := by unfold isCB l1InB prsI; simp; omega
          have gz : decide (0 ≤ a) = true := decide_eq_true g0
          have gy : decide (a ≤ 0) = false := decide_eq_false g1
          go_enter Try.func100, Try.ntmps100
          go_wp2
          go_quiet (first | (go_at_call 106; refine Calls.quiet_of_same (((W1.out) _).mono fun _ _ ⟨he, hw⟩ => ⟨he, hw.symm⟩)))
          go_wp2
          exact ⟨rfl, .no e (Below.trans (b := w.alloc _) (by go_grown) ⟨rfl, rfl, rfl, Nat.le_refl _, fun _ _ => rfl⟩)⟩
        · skip
          by_cases g2 : b = 0
          rotate_left
          · have e : isCB 1 (3, a, b) = false := by unfold isCB l1InB prsI; simp; omega
            have g' : (b == 0) = false := by simp [g2]
            have gz : decide (0 ≤ a) = true := decide_eq_true g0
            have gy : decide (a ≤ 0) = true := decide_eq_true g1
            go_enter Try.func100, Try.ntmps100
            go_wp2
            go_quiet (first | (go_at_call 106; refine Calls.quiet_of_same (((W1.out) _).mono fun _ _ ⟨he, hw⟩ => ⟨he, hw.symm⟩)))
            go_wp2
            exact ⟨rfl, .no e (Below.trans (b := w.alloc _) (by go_grown) ⟨rfl, rfl, rfl, Nat.le_refl _, fun _ _ => rfl⟩)⟩
          · skip
            have e : isCB 1 (3, a, b) = true := by unfold isCB l1InB prsI; simp; omega
            have g' : (b == 0) = true := by simp; omega
            have gz : decide (0 ≤ a) = true := decide_eq_true g0
            have gy : decide (a ≤ 0) = true := decide_eq_true g1
            go_enter Try.func100, Try.ntmps100
            go_wp2
            go_quiet (first | (go_at_call 106; refine Calls.quiet_of_same (((W1.out) _).mono fun _ _ ⟨he, hw⟩ => ⟨he, hw.symm⟩)))
            go_wp2
            go_end0
            exact .yes e (Below.trans (b := w.alloc _) (by go_grown) ⟨rfl, rfl, rfl, Nat.le_refl _, fun _ _ => rfl⟩)
    · by_cases g0 : 0 ≤ a
      rotate_left
      · have e : isCB 2 (3, a, b) = false := by unfold isCB l1InB prsI; simp; omega
        have g' : decide (0 ≤ a) = false := decide_eq_false g0
        go_enter Try.func100, Try.ntmps100
        go_wp2
        go_quiet (fail)
        go_wp2
        exact ⟨rfl, .no e (Below.trans (b := w.alloc _) (by go_grown) ⟨rfl, rfl, rfl, Nat.le_refl _, fun _ _ => rfl⟩)⟩
      · skip
        by_cases g1 : a ≤ 1
        rotate_left
        · have e : isCB 2 (3, a, b) = false := by unfold isCB l1InB prsI; simp; omega
          have gz : decide (0 ≤ a) = true := decide_eq_true g0
          have gy : decide (a ≤ 1) = false := decide_eq_false g1
          go_enter Try.func100, Try.ntmps100
          go_wp2
          go_quiet (first | (go_at_call 106; refine Calls.quiet_of_same (((W2.out) _).mono fun _ _ ⟨he, hw⟩ => ⟨he, hw.symm⟩)))
          go_wp2
          exact ⟨rfl, .no e (Below.trans (b := w.alloc _) (by go_grown) ⟨rfl, rfl, rfl, Nat.le_refl _, fun _ _ => rfl⟩)⟩
        · skip
          by_cases g2 : b = 0
          rotate_left
          · have e : isCB 2 (3, a, b) = false := by unfold isCB l1InB prsI; simp; omega
            have g' : (b == 0) = false := by simp [g2]
            have gz : decide (0 ≤ a) = true := decide_eq_true g0
            have gy : decide (a ≤ 1) = true := decide_eq_true g1
            go_enter Try.func100, Try.ntmps100
            go_wp2
            go_quiet (first | (go_at_call 106; refine Calls.quiet_of_same (((W2.out) _).mono fun _ _ ⟨he, hw⟩ => ⟨he, hw.symm⟩)))
            go_wp2
            exact ⟨rfl, .no e (Below.trans (b := w.alloc _) (by go_grown) ⟨rfl, rfl, rfl, Nat.le_refl _, fun _ _ => rfl⟩)⟩
          · skip
            have e : isCB 2 (3, a, b) = true := by unfold isCB l1InB prsI; simp; omega
            have g' : (b == 0) = true := by simp; omega
            have gz : decide (0 ≤ a) = true := decide_eq_true g0
            have gy : decide (a ≤ 1) = true := decide_eq_true g1
            go_enter Try.func100, Try.ntmps100
            go_wp2
            go_quiet (first | (go_at_call 106; refine Calls.quiet_of_same (((W2.out) _).mono fun _ _ ⟨he, hw⟩ => ⟨he, hw.symm⟩)))
            go_wp2
            go_end0
            exact .yes e (Below.trans (b := w.alloc _) (by go_grown) ⟨rfl, rfl, rfl, Nat.le_refl _, fun _ _ => rfl⟩)
    · by_cases g0 : 0 ≤ a
      rotate_left
      · have e : isCB 3 (3, a, b) = false := by unfold isCB l1InB prsI; simp; omega
        have g' : decide (0 ≤ a) = false := decide_eq_false g0
        go_enter Try.func100, Try.ntmps100
        go_wp2
        go_quiet (fail)
        go_wp2
        exact ⟨rfl, .no e (Below.trans (b := w.alloc _) (by go_grown) ⟨rfl, rfl, rfl, Nat.le_refl _, fun _ _ => rfl⟩)⟩
      · skip
        by_cases g1 : a ≤ 3
        rotate_left
        · have e : isCB 3 (3, a, b) = false := by unfold isCB l1InB prsI; simp; omega
          have gz : decide (0 ≤ a) = true := decide_eq_true g0
          have gy : decide (a ≤ 3) = false := decide_eq_false g1
          go_enter Try.func100, Try.ntmps100
          go_wp2
          go_quiet (first | (go_at_call 106; refine Calls.quiet_of_same (((W3.out) _).mono fun _ _ ⟨he, hw⟩ => ⟨he, hw.symm⟩)))
          go_wp2
          exact ⟨rfl, .no e (Below.trans (b := w.alloc _) (by go_grown) ⟨rfl, rfl, rfl, Nat.le_refl _, fun _ _ => rfl⟩)⟩
        · skip
          by_cases g2 : b = 0
          rotate_left
          · have e : isCB 3 (3, a, b) = false := by unfold isCB l1InB prsI; simp; omega
            have g' : (b == 0) = false := by simp [g2]
            have gz : decide (0 ≤ a) = true := decide_eq_true g0
            have gy : decide (a ≤ 3) = true := decide_eq_true g1
            go_enter Try.func100, Try.ntmps100
            go_wp2
            go_quiet (first | (go_at_call 106; refine Calls.quiet_of_same (((W3.out) _).mono fun _ _ ⟨he, hw⟩ => ⟨he, hw.symm⟩)))
            go_wp2
            exact ⟨rfl, .no e (Below.trans (b := w.alloc _) (by go_grown) ⟨rfl, rfl, rfl, Nat.le_refl _, fun _ _ => rfl⟩)⟩
          · skip
            have e : isCB 3 (3, a, b) = true := by unfold isCB l1InB prsI; simp; omega
            have g' : (b == 0) = true := by simp; omega
            have gz : decide (0 ≤ a) = true := decide_eq_true g0
            have gy : decide (a ≤ 3) = true := decide_eq_true g1
            go_enter Try.func100, Try.ntmps100
            go_wp2
            go_quiet (first | (go_at_call 106; refine Calls.quiet_of_same (((W3.out) _).mono fun _ _ ⟨he, hw⟩ => ⟨he, hw.symm⟩)))
            go_wp2
            go_end0
            exact .yes e (Below.trans (b := w.alloc _) (by go_grown) ⟨rfl, rfl, rfl, Nat.le_refl _, fun _ _ => rfl⟩)
    · by_cases g0 : 0 ≤ a
      rotate_left
      · have e : isCB 4 (3, a, b) = false := by unfold isCB l1InB prsI; simp; omega
        have g' : decide (0 ≤ a) = false := decide_eq_false g0
        go_enter Try.func100, Try.ntmps100
        go_wp2
        go_quiet (fail)
        go_wp2
        exact ⟨rfl, .no e (Below.trans (b := w.alloc _) (by go_grown) ⟨rfl, rfl, rfl, Nat.le_refl _, fun _ _ => rfl⟩)⟩
      · skip
        by_cases g1 : a ≤ 6
        rotate_left
        · have e : isCB 4 (3, a, b) = false := by unfold isCB l1InB prsI; simp; omega
          have gz : decide (0 ≤ a) = true := decide_eq_true g0
          have gy : decide (a ≤ 6) = false := decide_eq_false g1
          go_enter Try.func100, Try.ntmps100
          go_wp2
          go_quiet (first | (go_at_call 106; refine Calls.quiet_of_same (((W4.out) _).mono fun _ _ ⟨he, hw⟩ => ⟨he, hw.symm⟩)))
          go_wp2
          exact ⟨rfl, .no e (Below.trans (b := w.alloc _) (by go_grown) ⟨rfl, rfl, rfl, Nat.le_refl _, fun _ _ => rfl⟩)⟩
        · skip
          by_cases g2 : b = 0
          rotate_left
          · have e : isCB 4 (3, a, b) = false := by unfold isCB l1InB prsI; simp; omega
            have g' : (b == 0) = false := by simp [g2]
            have gz : decide (0 ≤ a) = true := decide_eq_true g0
            have gy : decide (a ≤ 6) = true := decide_eq_true g1
            go_enter Try.func100, Try.ntmps100
            go_wp2
            go_quiet (first | (go_at_call 106; refine Calls.quiet_of_same (((W4.out) _).mono fun _ _ ⟨he, hw⟩ => ⟨he, hw.symm⟩)))
            go_wp2
            exact ⟨rfl, .no e (Below.trans (b := w.alloc _) (by go_grown) ⟨rfl, rfl, rfl, Nat.le_refl _, fun _ _ => rfl⟩)⟩
          · skip
            have e : isCB 4 (3, a, b) = true := by unfold isCB l1InB prsI; simp; omega
            have g' : (b == 0) = true := by simp; omega
            have gz : decide (0 ≤ a) = true := decide_eq_true g0
            have gy : decide (a ≤ 6) = true := decide_eq_true g1
            go_enter Try.func100, Try.ntmps100
            go_wp2
            go_quiet (first | (go_at_call 106; refine Calls.quiet_of_same (((W4.out) _).mono fun _ _ ⟨he, hw⟩ => ⟨he, hw.symm⟩)))
            go_wp2
            go_end0
            exact .yes e (Below.trans (b := w.alloc _) (by go_grown) ⟨rfl, rfl, rfl, Nat.le_refl _, fun _ _ => rfl⟩)
    · by_cases g0 : 0 ≤ a
      rotate_left
      · have e : isCB 5 (3, a, b) = false := by unfold isCB l1InB prsI; simp; omega
        have g' : decide (0 ≤ a) = false := decide_eq_false g0
        go_enter Try.func100, Try.ntmps100
        go_wp2
        go_quiet (fail)
        go_wp2
        exact ⟨rfl, .no e (Below.trans (b := w.alloc _) (by go_grown) ⟨rfl, rfl, rfl, Nat.le_refl _, fun _ _ => rfl⟩)⟩
      · skip
        by_cases g1 : a ≤ 10
        rotate_left
        · have e : isCB 5 (3, a, b) = false := by unfold isCB l1InB prsI; simp; omega
          have gz : decide (0 ≤ a) = true := decide_eq_true g0
          have gy : decide (a ≤ 10) = false := decide_eq_false g1
          go_enter Try.func100, Try.ntmps100
          go_wp2
          go_quiet (first | (go_at_call 106; refine Calls.quiet_of_same (((W5.out) _).mono fun _ _ ⟨he, hw⟩ => ⟨he, hw.symm⟩)))
          go_wp2
          exact ⟨rfl, .no e (Below.trans (b := w.alloc _) (by go_grown) ⟨rfl, rfl, rfl, Nat.le_refl _, fun _ _ => rfl⟩)⟩
        · skip
          by_cases g2 : b = 0
          rotate_left
          · have e : isCB 5 (3, a, b) = false := by unfold isCB l1InB prsI; simp; omega
            have g' : (b == 0) = false := by simp [g2]
            have gz : decide (0 ≤ a) = true := decide_eq_true g0
            have gy : decide (a ≤ 10) = true := decide_eq_true g1
            go_enter Try.func100, Try.ntmps100
            go_wp2
            go_quiet (first | (go_at_call 106; refine Calls.quiet_of_same (((W5.out) _).mono fun _ _ ⟨he, hw⟩ => ⟨he, hw.symm⟩)))
            go_wp2
            exact ⟨rfl, .no e (Below.trans (b := w.alloc _) (by go_grown) ⟨rfl, rfl, rfl, Nat.le_refl _, fun _ _ => rfl⟩)⟩
          · skip
            have e : isCB 5 (3, a, b) = true := by unfold isCB l1InB prsI; simp; omega
            have g' : (b == 0) = true := by simp; omega
            have gz : decide (0 ≤ a) = true := decide_eq_true g0
            have gy : decide (a ≤ 10) = true := decide_eq_true g1
            go_enter Try.func100, Try.ntmps100
            go_wp2
            go_quiet (first | (go_at_call 106; refine Calls.quiet_of_same (((W5.out) _).mono fun _ _ ⟨he, hw⟩ => ⟨he, hw.symm⟩)))
            go_wp2
            go_end0
            exact .yes e (Below.trans (b := w.alloc _) (by go_grown) ⟨rfl, rfl, rfl, Nat.le_refl _, fun _ _ => rfl⟩)
  by_cases hk4 : k = 4
  · subst hk4
    by_cases g0 : 0 ≤ a
    rotate_left
    · have e : isCB n (4, a, b) = false := by unfold isCB l1InB; simp; omega
      go_enter Try.func100, Try.ntmps100
      go_wp2
      exact ⟨rfl, .no e (by go_grown)⟩
    · skip
      by_cases g1 : a ≤ 10
      rotate_left
      · have e : isCB n (4, a, b) = false := by unfold isCB l1InB; simp; omega
        go_enter Try.func100, Try.ntmps100
        go_wp2
        exact ⟨rfl, .no e (by go_grown)⟩
      · skip
        by_cases g2 : b = 0
        rotate_left
        · have e : isCB n (4, a, b) = false := by unfold isCB l1InB; simp; omega
          have g' : (b == 0) = false := by simp [g2]
          go_enter Try.func100, Try.ntmps100
          go_wp2
          exact ⟨rfl, .no e (by go_grown)⟩
        · skip
          have e : isCB n (4, a, b) = true := by unfold isCB l1InB; simp; omega
          have g' : (b == 0) = true := by simp; omega
          go_enter Try.func100, Try.ntmps100
          go_wp2
          go_end0
          exact .yes e (by go_grown)
  by_cases hk5 : k = 5
  · subst hk5
    by_cases g0 : 1 ≤ a
    rotate_left
    · have e : isCB n (5, a, b) = false := by unfold isCB l1InB; simp; omega
      go_enter Try.func100, Try.ntmps100
      go_wp2
      exact ⟨rfl, .no e (by go_grown)⟩
    · skip
      by_cases g1 : a ≤ n
      rotate_left
      · have e : isCB n (5, a, b) = false := by unfold isCB l1InB; simp; omega
        go_enter Try.func100, Try.ntmps100
        go_wp2
        exact ⟨rfl, .no e (by go_grown)⟩
      · skip
        by_cases g2 : b = 0
        rotate_left
        · have e : isCB n (5, a, b) = false := by unfold isCB l1InB; simp; omega
          have g' : (b == 0) = false := by simp [g2]
          go_enter Try.func100, Try.ntmps100
          go_wp2
          exact ⟨rfl, .no e (by go_grown)⟩
        · skip
          have e : isCB n (5, a, b) = true := by unfold isCB l1InB; simp; omega
          have g' : (b == 0) = true := by simp; omega
          go_enter Try.func100, Try.ntmps100
          go_wp2
          go_end0
          exact .yes e (by go_grown)
  have e : isCB n (k, a, b) = false := by unfold isCB; simp [hk0, hk1, hk2, hk3, hk4, hk5]
  go_enter Try.func100, Try.ntmps100
  go_wp2
  exact ⟨rfl, .no e (by go_grown)⟩
end Go.Proofs.Ytkiobefojckocaa
