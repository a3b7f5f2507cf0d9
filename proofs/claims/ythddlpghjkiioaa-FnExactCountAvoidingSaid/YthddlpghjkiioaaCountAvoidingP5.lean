/-
  Texts put together for the claims of 'CountAvoiding' (pack 5): Lists, RowsG, RowsH, Mats, TrsP, AreOne, PBox, KBox, PaintOf, AvC, AvI.
-/
import Derived.Test.YthddlpghjkiioaaCountAvoidingP1
import Derived.Test.YthddlpghjkiioaaCountAvoidingP2
import Derived.Test.YthddlpghjkiioaaCountAvoidingP3
import Derived.Test.YthddlpghjkiioaaCountAvoidingP4
import Derived.Deep.RegionLaw
import Derived.BigQuiet
import Derived.ChangeKeysEq
import Derived.Deep.AppendLies
import Derived.WalkMore
/-
  LISTS OF LISTS OF NUMBERS, read; the laws' own comparison of two that are equal.
-/
namespace Go.Proofs.Ythddlpghjkiioaa
open Go.RowKit

/-- a slice of slices of numbers can be read: its headers, and the rows that they name, lie below B -/
def SRead (w : World) (B : Nat) (A : Option Addr) (LL : List (List Int)) : Prop :=
  ∀ i l, LL[i]? = some l → ∃ b off A' c', A = some ⟨b, off, none⟩ ∧ b < B ∧ w.cell? ⟨b, off + i, none⟩ = some (.slice A' l.length c') ∧ CRead w B A' (icells l)
theorem SRead.below {w w' : World} {B B' : Nat} {A : Option Addr} {LL : List (List Int)} (h : SRead w B A LL) (hb : Below B w w') (hB : B ≤ B') : SRead w' B' A LL := by
  intro i l hi
  obtain ⟨b, off, A', c', e, hlt, hc, hr⟩ := h i l hi
  exact ⟨b, off, A', c', e, by omega, carry hb hc hlt, (hr.below hb (Nat.le_refl _)).more hB⟩

set_option maxHeartbeats 2000000 in
set_option maxRecDepth 100000 in
theorem eqIntSS_same (LL : List (List Int)) (A B : Option Addr) (c d : Nat) (w : World) (hl : LL.length ≤ maxLen) (hr : ∀ l ∈ LL, l.length ≤ maxLen)
    (hA : SRead w w.heap.size A LL) (hB : SRead w w.heap.size B LL) :
    Calls Try.prog 32 #[.slice A LL.length c, .slice B LL.length d] w fun e w' => e = .returned (.bool true) ∧ Below w.heap.size w w' := by
  unfold maxLen at hl
  go_enter Try.func32, Try.ntmps32
  go_wp2_with fail
  go_loopw [5] (fun i wr => ∃ k : Nat, k ≤ LL.length ∧ i = .int .i64 k ∧ Below w.heap.size w wr) (fun i _ => LL.length - (intOf i).toNat)
  case atStart => exact ⟨0, Nat.zero_le _, rfl, Below.refl _ _⟩
  case round =>
    obtain ⟨k, hk, rfl, hb⟩ := hrel
    by_cases hlt : k < LL.length
    · obtain ⟨l, hx⟩ := getSome LL k hlt
      obtain ⟨b, off, A1, c1, rfl, hb1, d1, R1⟩ := (hA.below hb hb.size) k l hx
      obtain ⟨b', off', A2, c2, rfl, hb2, d2, R2⟩ := (hB.below hb hb.size) k l hx
      have hll := hr l (List.mem_of_getElem? hx)
      have hki : (k : Int) < (LL.length : Int) := by omega
      clear hx
      go_wp2_with fail
      go_region_law (first | (go_simp; go_at_call 15; refine (eqIntS_any l l A1 A2 c1 c2 wr.drew hll hll (show CRead wr.drew wr.drew.heap.size A1 (icells l) from R1) (show CRead wr.drew wr.drew.heap.size A2 (icells l) from R2)).mono ?_; rw [decide_eq_true rfl]; rintro e w2 ⟨rfl, hb3⟩; have hb4 : Below w.heap.size w w2 := hb.trans ((Below.drew (Below.refl wr.heap.size wr)).trans hb3 |>.mono hb.size)) | fail)
      all_goals (go_wp2_with fail)
      all_goals (go_roundw)
      all_goals first
        | exact ⟨k + 1, by omega, by go_num, hb4⟩
        | (simp [intOf]; omega)
    · have hge : ¬ ((k : Int) < (LL.length : Int)) := by omega
      go_wp2
      go_ret
      exact ⟨rfl, hb⟩
/-- how many numbers lie in the first rows -/
def lens (ns : List Nat) (k : Nat) : Nat := (ns.take k).sum
theorem lens_succ {ns : List Nat} {k n : Nat} (h : ns[k]? = some n) : lens ns (k + 1) = lens ns k + n := by
  unfold lens
  rw [List.take_add_one, h, Option.toList_some, List.sum_append]
  simp
theorem lens_le (ns : List Nat) : ∀ k, lens ns k ≤ ns.sum := by
  intro k
  unfold lens
  have h := congrArg List.sum (List.take_append_drop k ns)
  rw [List.sum_append] at h
  omega
/-- the marks of rows of such lengths, counted on from row to row -/
def rowMarks (k0 : Int) (ns : List Nat) : List (List Int) := (List.range ns.length).map fun i => imarks (k0 + lens ns i) (ns.getD i 0)
theorem rowMarks_length (k0 : Int) (ns : List Nat) : (rowMarks k0 ns).length = ns.length := by simp [rowMarks]
theorem rowMarks_at {k0 : Int} {ns : List Nat} {k n : Nat} (h : ns[k]? = some n) : (rowMarks k0 ns)[k]? = some (imarks (k0 + lens ns k) n) := by
  have hk := (List.getElem?_eq_some_iff.1 h).1
  simp [rowMarks, hk, List.getD_eq_getElem?_getD]
  have := (List.getElem?_eq_some_iff.1 h).2
  rw [this]

set_option maxHeartbeats 2000000 in
set_option maxRecDepth 100000 in
theorem heldIntSS_any (ns : List Nat) (A : Option Addr) (c : Nat) (k0 : Int) (w : World) (hl : ns.length ≤ 1048576) (hs : ns.sum ≤ 1048576) (hk0 : 0 ≤ k0 ∧ k0 ≤ 8388608) (hA : SRead w w.heap.size A (rowMarks k0 ns)) :
    Calls Try.prog 34 #[.slice A ns.length c, .int .i64 k0] w fun e w' => e = .returned (.int .i64 (k0 + ns.sum)) ∧ w = w' := by
  obtain ⟨hk00, hk01⟩ := hk0
  go_enter Try.func34, Try.ntmps34
  go_wp2_with fail
  go_loopw [1, 5] (fun q i wr => ∃ k : Nat, k ≤ ns.length ∧ i = .int .i64 k ∧ q = .int .i64 (k0 + lens ns k) ∧ w = wr) (fun _ i _ => ns.length - (intOf i).toNat)
  case atStart => exact ⟨0, Nat.zero_le _, rfl, by simp [lens], rfl⟩
  case round =>
    obtain ⟨k, hk, rfl, rfl, rfl⟩ := hrel
    have hs1 := lens_le ns k
    by_cases hlt : k < ns.length
    · obtain ⟨n, hx⟩ := getSome ns k hlt
      have hs2 := lens_le ns (k + 1)
      have hsc := lens_succ hx
      obtain ⟨b, off, A1, c1, rfl, hb1, d1, R1⟩ := hA k _ (rowMarks_at hx)
      rw [imarks_length] at d1
      have hki : (k : Int) < (ns.length : Int) := by omega
      have Hsc := Lib.hid hsc
      generalize hm : k0 + (lens ns k : Int) = m at *
      have hm0 : 0 ≤ m := by omega
      have hm1 : m ≤ 16777216 := by omega
      have hnn : n ≤ 1048576 := by omega
      have hneg : ¬ (m + (n : Int) < 0) := by omega
      have Hm := Lib.hid hm
      clear hx hm hsc
      go_wp2_with fail
      refine (heldIntS_any A1 n c1 m _ hnn ⟨hm0, hm1⟩ R1).mono ?_
      rintro e w2 ⟨rfl, rfl⟩
      go_wp2
      go_roundw
      case rel => exact ⟨k + 1, by omega, by go_num, by rw [Hsc.out, ← Hm.out]; congr 1; omega, trivial⟩
      case measure => simp [intOf]; omega
    · have hkl : k = ns.length := by omega
      have hge : ¬ ((k : Int) < (ns.length : Int)) := by omega
      have e : lens ns k = ns.sum := by unfold lens; rw [List.take_of_length_le (by omega)]
      rw [e]
      go_wp2
      go_ret
      exact ⟨rfl, rfl⟩
end Go.Proofs.Ythddlpghjkiioaa
/-
  A LIST OF LISTS OF NUMBERS OF THE CALL's OWN: its headers a row, each of its rows a row, all in blocks of their own; 'laws.markIntSS' by its contract.
-/
namespace Go.Proofs.Ythddlpghjkiioaa
open Go.RowKit

theorem own_apart {w : World} {B B' : Nat} {e e' : TypeId} {s s' n n' : Nat} {v v' : Value} {xs xs' : List Value} (h1 : w.ownsRow B e s v n xs) (h2 : w.ownsRow B' e' s' v' n' xs') (hne : e ≠ e') : v.ownBlock = none ∨ v.ownBlock ≠ v'.ownBlock := by
  rcases h1.2 with ⟨rfl, _⟩ | ⟨g, cap, cur, rfl, _, hh, _⟩
  · left; simp [Value.ownBlock]
  · right
    rcases h2.2 with ⟨rfl, _⟩ | ⟨g', cap', cur', rfl, _, hh', _⟩
    · simp [Value.ownBlock]
    · intro e3
      have e4 : g = g' := by simpa [Value.ownBlock] using e3
      subst e4
      rw [hh] at hh'
      injection hh' with h
      injection h with _ ht
      exact hne ht

/-- n rows of numbers, row i under the slice (R i, N i, C i) -/
structure RowsG (w : World) (B : Nat) (v : Value) (n : Nat) (R : Nat → Option Addr) (C N : Nat → Nat) (F : Nat → List Int) : Prop where
  own : w.ownsRow B 22 1 v n ((List.range n).map fun i => Value.slice (R i) (N i) (C i))
  row : ∀ i, i < n → (F i).length = N i ∧ w.ownsRow B 3 1 (.slice (R i) (N i) (C i)) (N i) (icells (F i))
  apart : ∀ i j, i < n → j < n → i ≠ j → (Value.slice (R i) (N i) (C i)).ownBlock = none ∨ (Value.slice (R i) (N i) (C i)).ownBlock ≠ (Value.slice (R j) (N j) (C j)).ownBlock
section
variable {w w' : World} {B n : Nat} {v : Value} {R : Nat → Option Addr} {C N : Nat → Nat} {F F' : Nat → List Int}
theorem RowsG.congr (h : RowsG w B v n R C N F) (e : ∀ i, i < n → F i = F' i) : RowsG w B v n R C N F' :=
  ⟨h.own, fun i hi => by rw [← e i hi]; exact h.row i hi, h.apart⟩
theorem RowsG.kept (h : RowsG w B v n R C N F) (hg : w.grownBy w' none) : RowsG w' B v n R C N F :=
  ⟨h.own.kept hg (by cases v.ownBlock <;> simp), fun i hi => ⟨(h.row i hi).1, (h.row i hi).2.kept hg (by cases (Value.slice (R i) (N i) (C i)).ownBlock <;> simp)⟩, h.apart⟩
/-- another row i of the same length -/
theorem RowsG.set (h : RowsG w B v n R C N F) {k : Nat} (hk : k < n) {l : List Int} (hl : l.length = N k) (hg : w.grownBy w' (Value.slice (R k) (N k) (C k)).ownBlock) (ho : w'.ownsRow B 3 1 (.slice (R k) (N k) (C k)) (N k) (icells l)) :
    RowsG w' B v n R C N (fun i => if i = k then l else F i) := by
  refine ⟨h.own.kept hg (own_apart h.own (h.row k hk).2 (by decide)), fun i hi => ?_, h.apart⟩
  by_cases e : i = k
  · subst e
    simp only [if_true]
    exact ⟨hl, ho⟩
  · simp only [if_neg e]
    exact ⟨(h.row i hi).1, (h.row i hi).2.kept hg (h.apart i k hi hk e)⟩
theorem RowsG.read {A : Option Addr} {c : Nat} {LL : List (List Int)} (h : RowsG w B (.slice A n c) n R C N F) (hn : LL.length = n) (hL : ∀ i l, LL[i]? = some l → F i = l) : SRead w w.heap.size A LL := by
  intro i l hi
  have hin : i < n := by have := (List.getElem?_eq_some_iff.1 hi).1; omega
  obtain ⟨g, rfl⟩ := own_form h.own (by omega)
  obtain ⟨h1, h2⟩ := h.row i hin
  rw [hL i l hi] at h1 h2
  refine ⟨g, 0, R i, C i, rfl, (own_lt h.own).2, ?_, CRead.of_own h2⟩
  rw [Nat.zero_add, h.own.cellAt i (by omega)]
  simp [hin, h1]
end

set_option maxHeartbeats 2000000 in
set_option maxRecDepth 100000 in
theorem markIntSS_any (ns : List Nat) (A : Option Addr) (c : Nat) (k0 : Int) (B : Nat) (R : Nat → Option Addr) (C : Nat → Nat) (F : Nat → List Int) (w : World) (hl : ns.length ≤ 1048576) (hs : ns.sum ≤ 1048576) (hk0 : 0 ≤ k0 ∧ k0 ≤ 8388608) (hB : B ≤ w.heap.size)
    (h : RowsG w B (.slice A ns.length c) ns.length R C (fun i => ns.getD i 0) F) :
    Calls Try.prog 33 #[.slice A ns.length c, .int .i64 k0] w fun e w' => e = .returned (.int .i64 (k0 + ns.sum)) ∧ RowsG w' B (.slice A ns.length c) ns.length R C (fun i => ns.getD i 0) (fun i => imarks (k0 + lens ns i) (ns.getD i 0)) ∧ Below B w w' := by
  obtain ⟨hk00, hk01⟩ := hk0
  go_enter Try.func33, Try.ntmps33
  go_wp2_with fail
  go_loopw [1, 5] (fun q i wr => ∃ k : Nat, k ≤ ns.length ∧ i = .int .i64 k ∧ q = .int .i64 (k0 + lens ns k) ∧ RowsG wr B (.slice A ns.length c) ns.length R C (fun i => ns.getD i 0) (fun i => if i < k then imarks (k0 + lens ns i) (ns.getD i 0) else F i) ∧ Below B w wr) (fun _ i _ => ns.length - (intOf i).toNat)
  case atStart => exact ⟨0, Nat.zero_le _, rfl, by simp [lens], h.congr fun i _ => by rw [if_neg (Nat.not_lt_zero _)], Below.refl _ _⟩
  case round =>
    clear h
    obtain ⟨k, hk, rfl, rfl, hG, hb⟩ := hrel
    have hs1 := lens_le ns k
    have hBr : B ≤ wr.heap.size := Nat.le_trans hB hb.size
    by_cases hlt : k < ns.length
    · obtain ⟨n, hx⟩ := getSome ns k hlt
      have hs2 := lens_le ns (k + 1)
      have hsc := lens_succ hx
      have hgd : ns.getD k 0 = n := by rw [List.getD_eq_getElem?_getD, hx]; rfl
      obtain ⟨g, rfl⟩ := own_form hG.own (by omega)
      have d1 : wr.cell? ⟨g, k, none⟩ = some (.slice (R k) n (C k)) := by
        rw [hG.own.cellAt k (by omega)]
        simp only [List.getElem?_map, List.getElem?_range hlt, Option.map_some, hgd]
      obtain ⟨h1, h2⟩ := hG.row k hlt
      rw [if_neg (Nat.lt_irrefl k)] at h1 h2
      rw [hgd] at h1 h2
      have hki : (k : Int) < (ns.length : Int) := by omega
      have HG := Lib.hid hG
      have Hsc := Lib.hid hsc
      have Hgd := Lib.hid hgd
      generalize hm : k0 + (lens ns k : Int) = m at *
      have hm0 : 0 ≤ m := by omega
      have hm1 : m ≤ 16777216 := by omega
      have hnn : n ≤ 1048576 := by omega
      have Hm := Lib.hid hm
      clear hx hm hsc hG hgd
      go_wp2_with fail
      refine (markIntS_any (F k) (R k) n (C k) m B _ h1 hnn ⟨hm0, hm1⟩ h2).mono ?_
      rintro e w2 ⟨rfl, own2, hg2⟩
      have hb2 := hb.grown hg2 hBr (fun i hi => (h2.lt i hi).1)
      have G2 := Lib.hid ((HG.out.set hlt (l := imarks m n) (by rw [imarks_length]; exact Hgd.out.symm) (by simp only [Hgd.out]; exact hg2) (by simp only [Hgd.out]; exact own2)).congr (F' := fun i => if i < k + 1 then imarks (k0 + lens ns i) (ns.getD i 0) else F i) fun i _ => by
        by_cases e : i = k
        · subst e
          simp only [if_true, if_pos (Nat.lt_succ_self i), Hm.out, Hgd.out]
        · simp only [if_neg e]
          by_cases h3 : i < k
          · simp only [if_pos h3, if_pos (Nat.lt_succ_of_lt h3)]
          · simp only [if_neg h3, if_neg (show ¬ i < k + 1 by omega)])
      clear own2 hg2 h2 h1
      go_wp2
      go_roundw
      case rel => exact ⟨k + 1, by omega, by go_num, by rw [Hsc.out, ← Hm.out]; congr 1; omega, G2.out, hb2⟩
      case measure => simp [intOf]; omega
    · have hkl : k = ns.length := by omega
      have hge : ¬ ((k : Int) < (ns.length : Int)) := by omega
      have e : lens ns k = ns.sum := by unfold lens; rw [List.take_of_length_le (by omega)]
      rw [e]
      have HG := Lib.hid (hG.congr (F' := fun i => imarks (k0 + lens ns i) (ns.getD i 0)) fun i hi => by rw [if_pos (by omega)])
      clear hG
      go_wp2
      go_ret
      exact ⟨rfl, HG.out, hb⟩
end Go.Proofs.Ythddlpghjkiioaa
/-
  A LIST OF LISTS OF NUMBERS OF THE CALL's OWN: a row of none put behind it, and a number put behind one of its rows.
-/
namespace Go.Proofs.Ythddlpghjkiioaa
open Go.RowKit

section
variable {w w' w2 : World} {B n : Nat} {v v' : Value} {R : Nat → Option Addr} {C N : Nat → Nat} {F : Nat → List Int}
def upN {α : Type} (f : Nat → α) (k : Nat) (x : α) : Nat → α := fun i => if i = k then x else f i
theorem upN_self {α : Type} (f : Nat → α) (k : Nat) (x : α) : upN f k x k = x := by simp [upN]
theorem upN_ne {α : Type} (f : Nat → α) {k i : Nat} (x : α) (h : i ≠ k) : upN f k x i = f i := by simp [upN, h]
/-- behind an append of one header, nil -/
theorem RowsG.push (h : RowsG w B v n R C N F) (hg : w.grownBy w' v.ownBlock) (ho : w'.ownsRow B 22 1 v' (n + 1) (((List.range n).map fun i => Value.slice (R i) (N i) (C i)) ++ [.slice none 0 0])) :
    RowsG w' B v' (n + 1) (upN R n none) (upN C n 0) (upN N n 0) (upN F n []) := by
  refine ⟨?_, fun i hi => ?_, fun i j hi hj hij => ?_⟩
  · rw [List.range_succ, List.map_append, List.map_singleton, upN_self, upN_self, upN_self]
    rw [List.map_congr_left (g := fun i => Value.slice (R i) (N i) (C i)) fun i hi => by
      have : i ≠ n := by have := List.mem_range.1 hi; omega
      rw [upN_ne _ _ this, upN_ne _ _ this, upN_ne _ _ this]]
    exact ho
  · by_cases e : i = n
    · subst e
      simp only [upN_self]
      exact ⟨rfl, World.ownsRow_nil _ _ _ _⟩
    · simp only [upN_ne _ _ e]
      have hin : i < n := by omega
      exact ⟨(h.row i hin).1, (h.row i hin).2.kept hg (own_apart (h.row i hin).2 h.own (by decide))⟩
  · by_cases e : i = n
    · subst e
      simp only [upN_self]
      left; simp [Value.ownBlock]
    · simp only [upN_ne _ _ e]
      by_cases e2 : j = n
      · subst e2
        simp only [upN_self]
        cases hq : (Value.slice (R i) (N i) (C i)).ownBlock with
        | none => exact .inl rfl
        | some b => right; simp [Value.ownBlock]
      · simp only [upN_ne _ _ e2]
        exact h.apart i j (by omega) (by omega) hij
theorem map_range_set {α : Type} (f : Nat → α) (k : Nat) (x : α) (n : Nat) : ((List.range n).map f).set k x = (List.range n).map (upN f k x) := by
  apply List.ext_getElem (by simp)
  intro j h1 h2
  rw [List.getElem_set]
  simp only [List.getElem_map, List.getElem_range]
  by_cases e : k = j
  · subst e; simp [upN]
  · rw [if_neg e, upN_ne _ _ (fun h => e h.symm)]
/-- behind an append of a number to row k and the store of its header -/
theorem RowsG.grow {g c : Nat} (h : RowsG w B (.slice (some ⟨g, 0, none⟩) n c) n R C N F) {k : Nat} (hk : k < n) {x : Int} {b d : Nat}
    (hg : w.grownBy w2 (Value.slice (R k) (N k) (C k)).ownBlock) (ho : w2.ownsRow B 3 1 (.slice (some ⟨b, 0, none⟩) (N k + 1) d) (N k + 1) (icells (F k) ++ [.int .i64 x]))
    (hat : (Value.slice (R k) (N k) (C k)).ownBlock = some b ∨ b = w.heap.size) :
    RowsG (w2.setCell ⟨g, k, none⟩ (.slice (some ⟨b, 0, none⟩) (N k + 1) d)) B (.slice (some ⟨g, 0, none⟩) n c) n (upN R k (some ⟨b, 0, none⟩)) (upN C k d) (upN N k (N k + 1)) (upN F k (F k ++ [x])) := by
  have own2 := h.own.kept hg (own_apart h.own (h.row k hk).2 (by decide))
  have hst := own2.stored k (.slice (some ⟨b, 0, none⟩) (N k + 1) d)
  have hob : (Value.slice (some ⟨g, 0, none⟩) n c).ownBlock = some g := by simp [Value.ownBlock]
  refine ⟨?_, fun i hi => ?_, fun i j hi hj hij => ?_⟩
  · have h1 := hst.1
    rw [map_range_set] at h1
    rw [List.map_congr_left (g := upN (fun i => Value.slice (R i) (N i) (C i)) k (.slice (some ⟨b, 0, none⟩) (N k + 1) d)) fun i _ => by
      by_cases e : i = k
      · subst e; simp only [upN_self]
      · simp only [upN_ne _ _ e]]
    exact h1
  · by_cases e : i = k
    · subst e
      simp only [upN_self]
      refine ⟨by rw [List.length_append, (h.row i hi).1]; rfl, ?_⟩
      rw [icells_append]
      refine World.ownsRow.kept ho hst.2 ?_
      rw [← hob]
      exact own_apart ho own2 (by decide)
    · simp only [upN_ne _ _ e]
      have hr := (h.row i hi).2.kept hg (h.apart i k hi hk e)
      refine ⟨(h.row i hi).1, hr.kept hst.2 ?_⟩
      rw [← hob]
      exact own_apart hr own2 (by decide)
  · have hlt : ∀ i, i < n → ∀ m, (Value.slice (R i) (N i) (C i)).ownBlock = some m → m < w.heap.size := fun i hi m hm => ((h.row i hi).2.lt m hm).2
    have hbn : (Value.slice (some ⟨b, 0, none⟩) (N k + 1) d).ownBlock = some b := by simp [Value.ownBlock]
    by_cases e : i = k
    · subst e
      simp only [upN_self, upN_ne _ _ (fun h => hij h.symm), hbn]
      right
      intro e2
      rcases hat with h1 | h1
      · rcases h.apart i j hi hj hij with h2 | h2
        · rw [h1] at h2; cases h2
        · exact h2 (h1.trans e2)
      · have := hlt j hj b e2.symm
        omega
    · by_cases e2 : j = k
      · subst e2
        simp only [upN_self, upN_ne _ _ e, hbn]
        cases hq : (Value.slice (R i) (N i) (C i)).ownBlock with
        | none => exact .inl rfl
        | some m =>
          right
          intro e3
          have e4 : m = b := by simpa using e3
          subst e4
          rcases hat with h1 | h1
          · rcases h.apart i j hi hj hij with h2 | h2
            · rw [hq] at h2; cases h2
            · exact h2 (hq.trans h1.symm)
          · have := hlt i hi m hq
            omega
      · simp only [upN_ne _ _ e, upN_ne _ _ e2]
        exact h.apart i j hi hj hij
end
end Go.Proofs.Ythddlpghjkiioaa
/-
  LISTS OF LISTS OF NUMBERS AS RESULTS: rows of the call's own, apart from each other; what the laws' marking and counting need of them.
-/
namespace Go.Proofs.Ythddlpghjkiioaa
open Go.RowKit

/-- the rows of a list of lists, each in a block of its own -/
def RowsL (w : World) (B : Nat) (v : Value) (LL : List (List Int)) (R : Nat → Option Addr) (C : Nat → Nat) : Prop :=
  RowsG w B v LL.length R C (fun i => (LL.getD i []).length) (fun i => LL.getD i [])
section
variable {w w' : World} {B n : Nat} {v v' : Value} {R : Nat → Option Addr} {C N : Nat → Nat} {F F' : Nat → List Int} {LL : List (List Int)}
theorem RowsG.below (h : RowsG w B v n R C N F) (hb : Below w.heap.size w w') : RowsG w' B v n R C N F :=
  ⟨own_below h.own hb (Nat.le_refl _), fun i hi => ⟨(h.row i hi).1, own_below (h.row i hi).2 hb (Nat.le_refl _)⟩, h.apart⟩
theorem RowsG.lower {B' : Nat} (h : RowsG w B v n R C N F) (hB : B' ≤ B) : RowsG w B' v n R C N F :=
  ⟨own_lower h.own hB, fun i hi => ⟨(h.row i hi).1, own_lower (h.row i hi).2 hB⟩, h.apart⟩
theorem own_from {e : TypeId} {s m : Nat} {u : Value} {xs : List Value} (h : w.ownsRow B e s u m xs) {x : Value} {lo hi : Nat} (hl : Lies x lo hi) (hB : hi ≤ B) : u.ownBlock = none ∨ u.ownBlock ≠ x.ownBlock := by
  cases e1 : u.ownBlock with
  | none => exact .inl rfl
  | some k =>
    right
    intro e2
    have h1 := (h.lt k e1).1
    have h2 := (hl k e2.symm).2
    omega
theorem RowsG.keptG (h : RowsG w B v n R C N F) {x : Value} {lo hi : Nat} (hg : w.grownBy w' x.ownBlock) (hl : Lies x lo hi) (hB : hi ≤ B) : RowsG w' B v n R C N F :=
  ⟨h.own.kept hg (own_from h.own hl hB), fun i hi => ⟨(h.row i hi).1, (h.row i hi).2.kept hg (own_from (h.row i hi).2 hl hB)⟩, h.apart⟩
theorem RowsL.none (w : World) (B : Nat) : RowsL w B (Value.slice Option.none 0 0) [] (fun _ => Option.none) (fun _ => 0) :=
  ⟨World.ownsRow_nil _ _ _ _, fun _ hi => absurd hi (Nat.not_lt_zero _), fun _ _ hi => absurd hi (Nat.not_lt_zero _)⟩
theorem getD_of {i : Nat} {l : List Int} (h : LL[i]? = some l) : LL.getD i [] = l := by rw [List.getD_eq_getElem?_getD, h]; rfl
theorem RowsL.below (h : RowsL w B v LL R C) (hb : Below w.heap.size w w') : RowsL w' B v LL R C := RowsG.below h hb
theorem RowsL.lower {B' : Nat} (h : RowsL w B v LL R C) (hB : B' ≤ B) : RowsL w B' v LL R C := RowsG.lower h hB
theorem RowsL.keptG (h : RowsL w B v LL R C) {x : Value} {lo hi : Nat} (hg : w.grownBy w' x.ownBlock) (hl : Lies x lo hi) (hB : hi ≤ B) : RowsL w' B v LL R C := RowsG.keptG h hg hl hB
theorem SRead.more {A : Option Addr} {B' : Nat} (h : SRead w B A LL) (hB : B ≤ B') : SRead w B' A LL := by
  intro i l hi
  obtain ⟨b, off, A', c', e, hlt, hc, hr⟩ := h i l hi
  exact ⟨b, off, A', c', e, by omega, hc, hr.more hB⟩
theorem RowsL.read {A : Option Addr} {c : Nat} (h : RowsL w B (.slice A LL.length c) LL R C) : SRead w w.heap.size A LL := RowsG.read h rfl fun _ _ hi => getD_of hi
/-- a row of its own put behind them, and its header -/
theorem RowsL.push (h : RowsL w B v LL R C) {l : List Int} {A : Option Addr} {c : Nat} (hr : w.ownsRow B 3 1 (.slice A l.length c) l.length (icells l))
    (hap : ∀ i, i < LL.length → (Value.slice (R i) (LL.getD i []).length (C i)).ownBlock = Option.none ∨ (Value.slice (R i) (LL.getD i []).length (C i)).ownBlock ≠ (Value.slice A l.length c).ownBlock)
    (hg : w.grownBy w' v.ownBlock) (ho : w'.ownsRow B 22 1 v' (LL.length + 1) (((List.range LL.length).map fun i => Value.slice (R i) (LL.getD i []).length (C i)) ++ [.slice A l.length c])) :
    RowsL w' B v' (LL ++ [l]) (upN R LL.length A) (upN C LL.length c) := by
  have hne : ∀ i, i < LL.length → (LL ++ [l]).getD i [] = LL.getD i [] := fun i hi => by
    rw [List.getD_eq_getElem?_getD, List.getD_eq_getElem?_getD, List.getElem?_append_left hi]
  have heq : (LL ++ [l]).getD LL.length [] = l := by rw [List.getD_eq_getElem?_getD]; simp
  unfold RowsL
  rw [List.length_append, List.length_singleton]
  refine ⟨?_, fun i hi => ?_, fun i j hi hj hij => ?_⟩
  · rw [List.range_succ, List.map_append, List.map_singleton, upN_self, upN_self, heq]
    rw [List.map_congr_left (g := fun i => Value.slice (R i) (LL.getD i []).length (C i)) fun i hi => by
      have := List.mem_range.1 hi
      rw [upN_ne _ _ (by omega), upN_ne _ _ (by omega), hne i this]]
    exact ho
  · by_cases e : i = LL.length
    · subst e
      simp only [upN_self, heq]
      exact ⟨trivial, hr.kept hg (own_apart hr h.own (by decide))⟩
    · have hin : i < LL.length := by omega
      simp only [upN_ne _ _ e, hne i hin]
      exact ⟨trivial, (h.row i hin).2.kept hg (own_apart (h.row i hin).2 h.own (by decide))⟩
  · by_cases e : i = LL.length
    · subst e
      have hjn : j < LL.length := by omega
      simp only [upN_self, upN_ne _ _ (show j ≠ LL.length by omega), heq, hne j hjn]
      cases hq : (Value.slice A l.length c).ownBlock with
      | none => exact .inl rfl
      | some b =>
        right
        intro e2
        rcases hap j hjn with h3 | h3
        · rw [h3] at e2; cases e2
        · rw [hq] at h3; exact h3 e2.symm
    · have hin : i < LL.length := by omega
      by_cases e2 : j = LL.length
      · subst e2
        simp only [upN_self, upN_ne _ _ e, heq, hne i hin]
        exact hap i hin
      · have hjn : j < LL.length := by omega
        simp only [upN_ne _ _ e, upN_ne _ _ e2, hne i hin, hne j hjn]
        exact h.apart i j hin hjn hij
/-- a row made behind a world is apart from the rows of that world -/
theorem RowsL.fresh (h : RowsL w B v LL R C) {x : Value} {lo hi : Nat} (hx : Lies x lo hi) (hlo : w.heap.size ≤ lo) : ∀ i, i < LL.length → (Value.slice (R i) (LL.getD i []).length (C i)).ownBlock = Option.none ∨ (Value.slice (R i) (LL.getD i []).length (C i)).ownBlock ≠ x.ownBlock := by
  intro i hi
  cases e1 : (Value.slice (R i) (LL.getD i []).length (C i)).ownBlock with
  | none => exact .inl rfl
  | some k =>
    right
    intro e2
    have h1 := ((h.row i hi).2.lt k e1).2
    have h2 := (hx k e2.symm).1
    omega
theorem LRows.read {A : Option Addr} {c : Nat} {hs : List Value} (h : LRows w B (.slice A LL.length c) LL hs) : SRead w w.heap.size A LL := by
  intro i l hi
  have hin : i < LL.length := (List.getElem?_eq_some_iff.1 hi).1
  obtain ⟨g, rfl⟩ := own_form h.own (by omega)
  obtain ⟨A', c', e, o⟩ := h.row i l hi
  refine ⟨g, 0, A', c', rfl, (own_lt h.own).2, ?_, CRead.of_own o⟩
  rw [Nat.zero_add, h.own.cellAt i (by omega)]
  exact e
end
/-- how many numbers lie in all rows -/
def sumL (LL : List (List Int)) : Nat := (LL.map List.length).sum
theorem sumL_row {LL : List (List Int)} {l : List Int} (h : l ∈ LL) : l.length ≤ sumL LL := by
  unfold sumL
  induction LL with
  | nil => cases h
  | cons x LL ih =>
    simp only [List.map_cons, List.sum_cons]
    rcases List.mem_cons.1 h with rfl | h
    · omega
    · have := ih h; omega
theorem sumL_le {LL : List (List Int)} {m : Nat} (h : ∀ l ∈ LL, l.length ≤ m) : sumL LL ≤ LL.length * m := by
  unfold sumL
  induction LL with
  | nil => simp
  | cons x LL ih =>
    simp only [List.map_cons, List.sum_cons, List.length_cons]
    have h1 := h x List.mem_cons_self
    have h2 := ih fun l hl => h l (List.mem_cons_of_mem _ hl)
    rw [Nat.add_mul]
    omega
theorem lens_at (LL : List (List Int)) (i : Nat) : (LL.map List.length).getD i 0 = (LL.getD i []).length := by
  rw [List.getD_eq_getElem?_getD, List.getD_eq_getElem?_getD, List.getElem?_map]
  cases LL[i]? <;> rfl
/-- the rows are marked, counted on from k0 -/
def MarkedL (w : World) (B : Nat) (v : Value) (LL : List (List Int)) (k0 : Int) (R : Nat → Option Addr) (C : Nat → Nat) : Prop :=
  RowsG w B v LL.length R C (fun i => (LL.getD i []).length) (fun i => imarks (k0 + lens (LL.map List.length) i) (LL.getD i []).length)
theorem MarkedL.below {w w' : World} {B : Nat} {v : Value} {LL : List (List Int)} {k0 : Int} {R : Nat → Option Addr} {C : Nat → Nat} (h : MarkedL w B v LL k0 R C) (hb : Below w.heap.size w w') : MarkedL w' B v LL k0 R C := RowsG.below h hb
theorem markIntSS_rows (LL : List (List Int)) (A : Option Addr) (c : Nat) (k0 : Int) (B : Nat) (R : Nat → Option Addr) (C : Nat → Nat) (w : World) (hl : LL.length ≤ 1048576) (hs : sumL LL ≤ 1048576) (hk0 : 0 ≤ k0 ∧ k0 ≤ 8388608) (hB : B ≤ w.heap.size)
    (h : RowsL w B (.slice A LL.length c) LL R C) :
    Calls Try.prog 33 #[.slice A LL.length c, .int .i64 k0] w fun e w' => e = .returned (.int .i64 (k0 + sumL LL)) ∧ MarkedL w' B (.slice A LL.length c) LL k0 R C ∧ Below B w w' := by
  have g := markIntSS_any (LL.map List.length) A c k0 B R C (fun i => LL.getD i []) w (by simpa using hl) hs hk0 hB (by simp only [List.length_map, lens_at]; exact h)
  simp only [List.length_map, lens_at] at g
  exact g
theorem heldIntSS_rows (LL : List (List Int)) (A : Option Addr) (c : Nat) (k0 : Int) (B : Nat) (R : Nat → Option Addr) (C : Nat → Nat) (w : World) (hl : LL.length ≤ 1048576) (hs : sumL LL ≤ 1048576) (hk0 : 0 ≤ k0 ∧ k0 ≤ 8388608)
    (h : MarkedL w B (.slice A LL.length c) LL k0 R C) :
    Calls Try.prog 34 #[.slice A LL.length c, .int .i64 k0] w fun e w' => e = .returned (.int .i64 (k0 + sumL LL)) ∧ w = w' := by
  have g := heldIntSS_any (LL.map List.length) A c k0 w (by simpa using hl) hs hk0 (RowsG.read (LL := rowMarks k0 (LL.map List.length)) h (by simp [rowMarks_length]) fun i l hi => by
    have hlt := (List.getElem?_eq_some_iff.1 hi).1
    rw [rowMarks_length, List.length_map] at hlt
    have e := rowMarks_at (k0 := k0) (ns := LL.map List.length) (k := i) (n := (LL.getD i []).length) (by rw [List.getElem?_map, List.getD_eq_getElem?_getD, List.getElem?_eq_getElem hlt]; rfl)
    rw [e] at hi
    exact (Option.some.inj hi))
  simp only [List.length_map] at g
  exact g
/-- A call came back with lists of numbers, and whether it did. -/
def GotRowsOk (w : World) (LL : List (List Int)) (ok : Bool) (e : Ending) (w' : World) : Prop :=
  ∃ A c R C, e = .returned (.tuple #[.slice A LL.length c, .bool ok]) ∧ RowsL w' w.heap.size (.slice A LL.length c) LL R C ∧ Below w.heap.size w w'
/-- the same of the model's: that they can be read is enough -/
def ReadRowsOk (w : World) (LL : List (List Int)) (ok : Bool) (e : Ending) (w' : World) : Prop :=
  ∃ A c, e = .returned (.tuple #[.slice A LL.length c, .bool ok]) ∧ SRead w' w'.heap.size A LL ∧ Below w.heap.size w w'
theorem SRead.nil (w : World) (B : Nat) (A : Option Addr) : SRead w B A [] := fun i l h => by simp at h
end Go.Proofs.Ythddlpghjkiioaa
/-
  TRIPLES IN ORDER, pure: all a < b < c of n people that a test takes, and what is left of them at a place.
-/
namespace Go.Proofs.Ythddlpghjkiioaa

def l1T (P : Nat → Nat → Nat → Bool) (n a b c : Nat) : List (List Int) := ((List.range' c (n - c)).filter (P a b)).map fun c : Nat => [(a : Int), (b : Int), (c : Int)]
def l2T (P : Nat → Nat → Nat → Bool) (n a b : Nat) : List (List Int) := (List.range' b (n - b)).flatMap fun b => l1T P n a b (b + 1)
def l3T (P : Nat → Nat → Nat → Bool) (n a : Nat) : List (List Int) := (List.range' a (n - a)).flatMap fun a => l2T P n a (a + 1)
theorem rangeT {n a : Nat} (h : a < n) : List.range' a (n - a) = a :: List.range' (a + 1) (n - (a + 1)) := by
  rw [show n - a = (n - (a + 1)) + 1 by omega, List.range'_succ]
theorem l1T_step {P : Nat → Nat → Nat → Bool} {n a b c : Nat} (h : c < n) : l1T P n a b c = (if P a b c then [[(a : Int), (b : Int), (c : Int)]] else []) ++ l1T P n a b (c + 1) := by
  unfold l1T
  rw [rangeT h, List.filter_cons]
  split <;> simp
theorem l1T_end {P : Nat → Nat → Nat → Bool} {n a b c : Nat} (h : n ≤ c) : l1T P n a b c = [] := by
  unfold l1T
  rw [show n - c = 0 by omega]
  rfl
theorem l2T_step {P : Nat → Nat → Nat → Bool} {n a b : Nat} (h : b < n) : l2T P n a b = l1T P n a b (b + 1) ++ l2T P n a (b + 1) := by
  unfold l2T
  rw [rangeT h, List.flatMap_cons]
theorem l2T_end {P : Nat → Nat → Nat → Bool} {n a b : Nat} (h : n ≤ b) : l2T P n a b = [] := by
  unfold l2T
  rw [show n - b = 0 by omega]
  rfl
theorem l3T_step {P : Nat → Nat → Nat → Bool} {n a : Nat} (h : a < n) : l3T P n a = l2T P n a (a + 1) ++ l3T P n (a + 1) := by
  unfold l3T
  rw [rangeT h, List.flatMap_cons]
theorem l3T_end {P : Nat → Nat → Nat → Bool} {n a : Nat} (h : n ≤ a) : l3T P n a = [] := by
  unfold l3T
  rw [show n - a = 0 by omega]
  rfl
theorem flat_le {α β : Type} {f : α → List β} {m : Nat} : ∀ (l : List α), (∀ x ∈ l, (f x).length ≤ m) → (l.flatMap f).length ≤ l.length * m
  | [], _ => by simp
  | x :: l, h => by
    rw [List.flatMap_cons, List.length_append, List.length_cons, Nat.add_mul, Nat.one_mul]
    have h1 := h x (by simp)
    have h2 := flat_le l fun y hy => h y (by simp [hy])
    omega
theorem l1T_len (P : Nat → Nat → Nat → Bool) (n a b c : Nat) : (l1T P n a b c).length ≤ n := by
  unfold l1T
  rw [List.length_map]
  have := List.length_filter_le (P a b) (List.range' c (n - c))
  rw [List.length_range'] at this
  omega
theorem l3T_len (P : Nat → Nat → Nat → Bool) (n a : Nat) (hn : n ≤ 8) : (l3T P n a).length ≤ 512 := by
  have h2 : ∀ a b, (l2T P n a b).length ≤ 64 := fun a b => by
    have h := flat_le (f := fun b => l1T P n a b (b + 1)) (m := 8) (List.range' b (n - b)) fun x _ => Nat.le_trans (l1T_len P n a x (x + 1)) hn
    rw [List.length_range'] at h
    unfold l2T
    have : (n - b) * 8 ≤ 8 * 8 := Nat.mul_le_mul_right 8 (by omega)
    omega
  have h := flat_le (f := fun a => l2T P n a (a + 1)) (m := 64) (List.range' a (n - a)) fun x _ => h2 x (x + 1)
  rw [List.length_range'] at h
  unfold l3T
  have : (n - a) * 64 ≤ 8 * 64 := Nat.mul_le_mul_right 64 (by omega)
  omega
theorem l3T_row {P : Nat → Nat → Nat → Bool} {n a : Nat} {l : List Int} (h : l ∈ l3T P n a) : l.length ≤ 3 := by
  unfold l3T l2T l1T at h
  simp only [List.mem_flatMap, List.mem_map] at h
  obtain ⟨x, _, y, _, z, _, rfl⟩ := h
  simp
theorem l3T_sum (P : Nat → Nat → Nat → Bool) (n : Nat) (hn : n ≤ 8) : sumL (l3T P n 0) ≤ 1048576 := by
  have h1 := sumL_le (LL := l3T P n 0) (m := 3) fun l hl => l3T_row hl
  have h2 := l3T_len P n 0 hn
  omega
/-- the three pairs have one colour -/
def oneP (f : Nat → Nat → Int) (a b c : Nat) : Bool := (f a b == f a c) && (f a b == f b c)
end Go.Proofs.Ythddlpghjkiioaa
/-
  'areOne', by its contract.
-/
namespace Go.Proofs.Ythddlpghjkiioaa
open Go.RowKit

theorem eqItems_step {P : Program} {d : Nat} {e : TypeId} {c : Nat} {xs ys : Array Value} {i : Nat} {is : List Nat} {w : World} {va vb : Value} {r : Bool} (h1 : (part e xs (i * c)).run P w = .ok va w) (h2 : (part e ys (i * c)).run P w = .ok vb w) (h3 : (Op.equalIn d e va vb).run P w = .ok r w) :
    (Op.eqItems d e c xs ys (i :: is)).run P w = if r then (Op.eqItems d e c xs ys is).run P w else .ok false w := by
  simp only [Op.eqItems, Sem.run_bind, h1, h2, h3, Result.andThen_ok]
  cases r <;> simp
theorem beq_swap (a b : Int) : (a == b) = (b == a) := by
  rw [Bool.eq_iff_iff, beq_iff_eq, beq_iff_eq]
  exact eq_comm
theorem equal_ints (d : Nat) (a b : Int) (w : World) : (Op.equalIn (d + 1) 3 (.int .i64 a) (.int .i64 b)).run Try.prog w = .ok (a == b) w := by
  simp only [Op.equalIn, Sem.run_bind, run_underlying Try.underlying3, Result.andThen_ok, if_true, Sem.run_pure]
theorem run_equal_three (x y z : Int) (w : World) : (binOp .eql 130 (.agg #[.int .i64 x, .int .i64 y, .int .i64 z]) (.agg #[.int .i64 x, .int .i64 x, .int .i64 x])).run Try.prog w = .ok (.bool ((x == y) && (x == z))) w := by
  obtain ⟨i0, hi, hz0, hz1, hz2⟩ := info_parts Try.infoInt
  have z4 : Try.prog.underlying 130 = some (.array 3 3) := by kernel_rfl
  have z6 : Try.prog.cellsOf 3 = 1 := by kernel_rfl
  have hp : ∀ (xs : Array Value) (i : Nat) (v : Value), xs[i]? = some v → (part 3 xs i).run Try.prog w = .ok v w := fun xs i v hv => run_part_plain w (by kernel_rfl) hv
  have e : ∀ d, (Op.equalIn (d + 1 + 1) 130 (.agg #[.int .i64 x, .int .i64 y, .int .i64 z]) (.agg #[.int .i64 x, .int .i64 x, .int .i64 x])).run Try.prog w = .ok ((x == y) && (x == z)) w := fun d => by
    rw [run_equalIn_array w (d + 1) _ _ z4 hi, z6]
    simp only [List.range_succ, List.range_zero, List.nil_append, List.cons_append]
    rw [eqItems_step (hp _ _ (.int .i64 x) (by rfl)) (hp _ _ (.int .i64 x) (by rfl)) (equal_ints d x x w), beq_self_eq_true, if_pos rfl]
    rw [eqItems_step (hp _ _ (.int .i64 y) (by rfl)) (hp _ _ (.int .i64 x) (by rfl)) (equal_ints d y x w)]
    rw [eqItems_step (hp _ _ (.int .i64 z) (by rfl)) (hp _ _ (.int .i64 x) (by rfl)) (equal_ints d z x w)]
    rw [beq_swap y x, beq_swap z x]
    cases (x == y) <;> cases (x == z) <;> simp [Op.eqItems]
  have e2 := e 9998
  have e3 : (Op.equal 130 (.agg #[.int .i64 x, .int .i64 y, .int .i64 z]) (.agg #[.int .i64 x, .int .i64 x, .int .i64 x])).run Try.prog w = .ok ((x == y) && (x == z)) w := e2
  simp [binOp, go_sem, e3]
set_option maxHeartbeats 4000000 in
set_option maxRecDepth 100000 in
theorem areOne_any (f : Nat → Nat → Int) (a b c : Nat) (ha : a < 8) (hb : b < 8) (hc : c < 8) (w : World) :
    Calls Try.prog 101 #[.agg (shC f), .int .i64 a, .int .i64 b, .int .i64 c] w fun e w' => e = .returned (.bool (oneP f a b c)) ∧ Below w.heap.size w w' := by
  obtain ⟨W, hW⟩ : ∃ W, w.alloc (Obj.cells (shC f) 90) = W := ⟨_, rfl⟩
  have kW : Below w.heap.size w W := by rw [← hW]; go_grown
  have row0 : W.rowIs w.heap.size 90 64 (fun q => .int .i64 (f (q / 8) (q % 8))) := by rw [← hW]; exact rowIs_sh w f _
  have c1 := row0.cell (show a * 8 + b < 64 by omega)
  have c2 := row0.cell (show a * 8 + c < 64 by omega)
  have c3 := row0.cell (show b * 8 + c < 64 by omega)
  have e1 : (a * 8 + b) / 8 = a := by omega
  have e2 : (a * 8 + b) % 8 = b := by omega
  have e3 : (a * 8 + c) / 8 = a := by omega
  have e4 : (a * 8 + c) % 8 = c := by omega
  have e5 : (b * 8 + c) / 8 = b := by omega
  have e6 : (b * 8 + c) % 8 = c := by omega
  simp only [e1, e2, e3, e4, e5, e6] at c1 c2 c3
  obtain ⟨x, hx⟩ : ∃ x, f a b = x := ⟨_, rfl⟩
  obtain ⟨y, hy⟩ : ∃ y, f a c = y := ⟨_, rfl⟩
  obtain ⟨z, hz⟩ : ∃ z, f b c = z := ⟨_, rfl⟩
  have e : oneP f a b c = ((x == y) && (x == z)) := by unfold oneP; rw [hx, hy, hz]
  rw [e]
  rw [hx] at c1
  rw [hy] at c2
  rw [hz] at c3
  have hai : (a : Int) < 8 := by omega
  have hbi : (b : Int) < 8 := by omega
  have hci : (c : Int) < 8 := by omega
  have HW := Lib.hid hW
  clear e e1 e2 e3 e4 e5 e6 hx hy hz hW row0
  go_enter Try.func101, Try.ntmps101
  go_upto_region 1 with fail
  rw [HW.out]
  go_wp2_with fail
  have heq := run_equal_three x y z
  go_quiet (fail)
  go_wp2
  go_ret
  exact ⟨rfl, ⟨kW.os, kW.tape, kW.output, kW.size, kW.block⟩⟩
end Go.Proofs.Ythddlpghjkiioaa
/-
  A PAINTING IN A BOX OF THE CALL's OWN, whose colours are appended one by one.
-/
namespace Go.Proofs.Ythddlpghjkiioaa
open Go.RowKit

/-- The worlds above w0: a box at g holds a painting of n people and k colours, whose colours so far, L, lie in a row of the call's own. -/
structure PBox (B : Nat) (w0 wr : World) (n k : Int) (g : Nat) (v : Value) (L : List Int) : Prop where
  below : Below B w0 wr
  gB : B ≤ g
  box : wr.heap[g]? = some (.cells #[.int .i64 n, .int .i64 k, v] 52 (0, 0))
  own : wr.ownsRow B 3 1 v L.length (icells L)
section
variable {B g : Nat} {w0 wr W1 w1 : World} {n k : Int} {v v' : Value} {L : List Int}
theorem PBox.lt (h : PBox B w0 wr n k g v L) : g < wr.heap.size := lt_of_heap h.box
theorem ne_of_pbox (h : wr.heap[g]? = some (.cells #[.int .i64 n, .int .i64 k, v] 52 (0, 0))) {m : Nat} {xs : List Value} (ho : wr.ownsRow B 3 1 v' m xs) : v'.ownBlock ≠ some g := by
  rcases ho.2 with ⟨rfl, _⟩ | ⟨g', cap, cur, rfl, _, hh, _⟩
  · simp [Value.ownBlock]
  · intro e
    have hgb : g' = g := by simpa [Value.ownBlock] using e
    subst hgb
    rw [hh] at h
    injection h with h
    injection h with _ ht
    exact absurd ht (by decide)
theorem PBox.ne (h : PBox B w0 wr n k g v L) : v.ownBlock ≠ some g := ne_of_pbox h.box h.own
theorem PBox.cells (h : PBox B w0 wr n k g v L) : wr.cell? ⟨g, 0, none⟩ = some (.int .i64 n) ∧ wr.cell? ⟨g, 1, none⟩ = some (.int .i64 k) ∧ wr.cell? ⟨g, 2, none⟩ = some v ∧ ∀ j, wr.frozen? ⟨g, j, none⟩ = false :=
  ⟨by rw [cell_of_row _ _ _ _ _ _ h.box]; rfl, by rw [cell_of_row _ _ _ _ _ _ h.box]; rfl, by rw [cell_of_row _ _ _ _ _ _ h.box]; rfl, fun j => frozen_of_row _ _ j _ _ h.box⟩
theorem PBox.kept (h : PBox B w0 wr n k g v L) (hW : Below wr.heap.size wr W1) (hB : B ≤ wr.heap.size) : PBox B w0 W1 n k g v L :=
  ⟨h.below.trans (hW.mono hB), h.gB, (hW.block _ h.lt).trans h.box, own_below h.own hW (Nat.le_refl _)⟩
theorem PBox.le (h : PBox B w0 wr n k g v L) : B ≤ wr.heap.size := Nat.le_trans h.gB (Nat.le_of_lt h.lt)
/-- what stands behind an append -/
theorem PBox.grown (h : PBox B w0 wr n k g v L) (hW : Below wr.heap.size wr W1) (hg : W1.grownBy w1 v.ownBlock) :
    w1.heap[g]? = some (.cells #[.int .i64 n, .int .i64 k, v] 52 (0, 0)) ∧ w1.cell? ⟨g, 0, none⟩ = some (.int .i64 n) ∧ w1.cell? ⟨g, 1, none⟩ = some (.int .i64 k) ∧ w1.cell? ⟨g, 2, none⟩ = some v ∧ (∀ j, w1.frozen? ⟨g, j, none⟩ = false) ∧ Below B w0 w1 ∧ wr.heap.size ≤ w1.heap.size := by
  have hlt := h.lt
  have e : w1.heap[g]? = some (.cells #[.int .i64 n, .int .i64 k, v] 52 (0, 0)) := by
    rw [hg.block g (Nat.lt_of_lt_of_le hlt hW.size) (fun e => h.ne e.symm), hW.block g hlt]
    exact h.box
  refine ⟨e, by rw [cell_of_row _ _ _ _ _ _ e]; rfl, by rw [cell_of_row _ _ _ _ _ _ e]; rfl, by rw [cell_of_row _ _ _ _ _ _ e]; rfl, fun j => frozen_of_row _ _ j _ _ e, ?_, Nat.le_trans hW.size hg.size⟩
  exact (h.below.trans (hW.mono h.le)).grown hg (Nat.le_trans h.le hW.size) (fun k hk => (h.own.lt k hk).1)
/-- one colour more -/
theorem PBox.push {x : Int} (h : PBox B w0 wr n k g v L) (hW : Below wr.heap.size wr W1) (hg : W1.grownBy w1 v.ownBlock) (hown : w1.ownsRow B 3 1 v' (L.length + 1) (icells L ++ [.int .i64 x])) :
    PBox B w0 (w1.setCell ⟨g, 2, none⟩ v') n k g v' (L ++ [x]) := by
  obtain ⟨e, _, _, _, _, hb, _⟩ := h.grown hW hg
  have hne := ne_of_pbox e hown
  refine ⟨hb.setCell (p := ⟨g, 2, none⟩) h.gB _, h.gB, heap_setCell_same w1 g 2 _ _ v' e, ?_⟩
  have el : (L ++ [x]).length = L.length + 1 := by simp
  have ec : icells (L ++ [x]) = icells L ++ [.int .i64 x] := by simp [icells]
  rw [el, ec]
  exact hown.kept (row := some g) ⟨rfl, rfl, rfl, by simp, fun k _ hk => heap_setCell_other _ _ _ _ (fun e => hk (by rw [e]))⟩ (.inr hne)
/-- a colour is set -/
theorem PBox.set {g' m cap : Nat} (h : PBox B w0 wr n k g (.slice (some ⟨g', 0, none⟩) m cap) L) (hm : m = L.length) (j : Nat) (x : Int) :
    PBox B w0 (wr.setCell ⟨g', j, none⟩ (.int .i64 x)) n k g (.slice (some ⟨g', 0, none⟩) m cap) (L.set j x) := by
  subst hm
  have hne : g' ≠ g := fun e => h.ne (by rw [e]; rfl)
  have hlt := (h.own.lt g' rfl).1
  refine ⟨h.below.setCell (p := ⟨g', j, none⟩) hlt _, h.gB, (heap_setCell_other _ _ _ _ (fun e => hne e.symm)).trans h.box, ?_⟩
  rw [List.length_set]
  exact own_setInt h.own j x
end
end Go.Proofs.Ythddlpghjkiioaa
/-
  A STRUCT IN A BOX OF THE CALL's OWN that was laid ahead of what is read: its slice is appended to, all else that was there is kept.
-/
namespace Go.Proofs.Ythddlpghjkiioaa
open Go.RowKit

/-- behind w1, in which the box at g lies: the box holds a slice of the call's own, made later than w1; all other blocks of w1 are as they were -/
structure KBox (ty e : TypeId) (s : Nat) (mk : Value → Array Value) (w1 wr : World) (g : Nat) (v : Value) (m : Nat) (xs : List Value) : Prop where
  keep : ∀ j, j ≠ g → j < w1.heap.size → wr.heap[j]? = w1.heap[j]?
  below : Below g w1 wr
  size : w1.heap.size ≤ wr.heap.size
  lt : g < w1.heap.size
  box : wr.heap[g]? = some (.cells (mk v) ty (0, 0))
  own : wr.ownsRow w1.heap.size e s v m xs
section
variable {ty e : TypeId} {s : Nat} {mk : Value → Array Value} {w1 wr W1 w2 : World} {g : Nat} {v v' : Value} {m m' : Nat} {xs xs' : List Value}
theorem KBox.cell (h : KBox ty e s mk w1 wr g v m xs) {i : Nat} {u : Value} (hi : (mk v)[i]? = some u) : wr.cell? ⟨g, i, none⟩ = some u := by
  rw [cell_of_row _ _ _ _ _ _ h.box]; exact hi
theorem KBox.frozen (h : KBox ty e s mk w1 wr g v m xs) (i : Nat) : wr.frozen? ⟨g, i, none⟩ = false := frozen_of_row _ _ i _ _ h.box
theorem KBox.other (h : KBox ty e s mk w1 wr g v m xs) {b o : Nat} {u : Value} (hb : b ≠ g) (hlt : b < w1.heap.size) (hc : w1.cell? ⟨b, o, none⟩ = some u) : wr.cell? ⟨b, o, none⟩ = some u := by
  rw [← hc]
  simp [World.cell?, h.keep b hb hlt]
/-- what stands behind an append -/
theorem KBox.grown (h : KBox ty e s mk w1 wr g v m xs) (hW : Below wr.heap.size wr W1) (hg : W1.grownBy w2 v.ownBlock) : w2.heap[g]? = some (.cells (mk v) ty (0, 0)) ∧ Below g w1 w2 ∧ (∀ j, j < w1.heap.size → w2.heap[j]? = wr.heap[j]?) := by
  have hl := h.lt
  have hs := h.size
  have hb : ∀ j, j < w1.heap.size → w2.heap[j]? = wr.heap[j]? := fun j hj =>
    (hg.block j (by have := hW.size; omega) (fun e => by have := (h.own.lt j e.symm).1; omega)).trans (hW.block j (by omega))
  refine ⟨(hb g hl).trans h.box, ?_, hb⟩
  have h2 : Below g w1 W1 := h.below.trans (hW.mono (by omega))
  exact h2.grown hg (by have := hW.size; omega) (fun k hk => by have := (h.own.lt k hk).1; omega)
/-- the slice behind an append is stored -/
theorem KBox.push (h : KBox ty e s mk w1 wr g v m xs) (hW : Below wr.heap.size wr W1) (hg : W1.grownBy w2 v.ownBlock) (i : Nat) (hmk : (mk v).setIfInBounds i v' = mk v') (hown : w2.ownsRow w1.heap.size e s v' m' xs') :
    KBox ty e s mk w1 (w2.setCell ⟨g, i, none⟩ v') g v' m' xs' := by
  obtain ⟨hbx, hb2, hk⟩ := h.grown hW hg
  have hl := h.lt
  refine ⟨fun j hj hjl => ?_, hb2.setCell (p := ⟨g, i, none⟩) (Nat.le_refl _) _, ?_, hl, ?_, ownsRow_setCell_below hown (a := ⟨g, i, none⟩) hl _⟩
  · rw [heap_setCell_other _ _ _ _ hj, hk j hjl]
    exact h.keep j hj hjl
  · have h1 := h.size; have h2 := hW.size; have h3 := hg.size
    simp only [World.size_setCell]
    omega
  · rw [← hmk]
    exact heap_setCell_same w2 g i _ _ v' hbx
end
end Go.Proofs.Ythddlpghjkiioaa
/-
  A PAINTING made of shades: '(shades).painting', by its contract.
-/
namespace Go.Proofs.Ythddlpghjkiioaa
open Go.RowKit

/-- the colours that a table gives to all pairs, in order -/
def colsP (n : Nat) (f : Nat → Nat → Int) : List Int := (allP n).map fun q => f q.1.toNat q.2.toNat
theorem colsP_len (n : Nat) (f : Nat → Nat → Int) : (colsP n f).length = (allP n).length := by simp [colsP]
def mkX (n k : Int) (v : Value) : Array Value := #[.int .i64 n, .int .i64 k, v]
set_option maxHeartbeats 4000000 in
set_option maxRecDepth 100000 in
theorem painting_any (f : Nat → Nat → Int) (n : Nat) (k : Int) (hn : n ≤ 8) (w : World) :
    Calls Try.prog 67 #[.agg (shC f), .int .i64 n, .int .i64 k] w (GotPaint w n k (colsP n f)) := by
  obtain ⟨i0, hi, hz0, hz1, hz2⟩ := info_parts Try.infoInt
  have hcount := (count_of (p := (n : Int)) (by omega)).2.1
  rw [Int.toNat_natCast] at hcount
  obtain ⟨W, hW⟩ : ∃ W, ((w.alloc (Obj.cells (shC f) 90)).alloc (Obj.cells #[.int .i64 0, .int .i64 0, .slice none 0 0] 52)).alloc (Obj.cells #[.int .i64 n, .int .i64 k, .slice none 0 0] 52) = W := ⟨_, rfl⟩
  have kW : Below w.heap.size w W := by rw [← hW]; go_grown
  have row0 : W.rowIs w.heap.size 90 64 (fun q => .int .i64 (f (q / 8) (q % 8))) := by rw [← hW]; exact ((rowIs_sh w f _).alloc _).alloc _
  have bR : W.heap[w.heap.size + 1]? = some (.cells #[.int .i64 0, .int .i64 0, .slice none 0 0] 52 (0, 0)) := by
    rw [← hW]
    have := heap_alloc_new (w.alloc (Obj.cells (shC f) 90)) (Obj.cells #[.int .i64 0, .int .i64 0, .slice none 0 0] 52)
    simp only [World.size_alloc] at this
    exact (((Below.refl _ ((w.alloc (Obj.cells (shC f) 90)).alloc (Obj.cells #[.int .i64 0, .int .i64 0, .slice none 0 0] 52))).alloc (Nat.le_refl _) _).block _ (by simp)).trans this
  have x0 : W.cell? ⟨w.heap.size + 1, 0, none⟩ = some (.int .i64 0) := by rw [cell_of_row _ _ _ _ _ _ bR]; rfl
  have x1 : W.cell? ⟨w.heap.size + 1, 1, none⟩ = some (.int .i64 0) := by rw [cell_of_row _ _ _ _ _ _ bR]; rfl
  have x2 : W.cell? ⟨w.heap.size + 1, 2, none⟩ = some (.slice none 0 0) := by rw [cell_of_row _ _ _ _ _ _ bR]; rfl
  have z0 : ∀ j, W.frozen? ⟨w.heap.size + 1, j, none⟩ = false := fun j => frozen_of_row _ _ j _ _ bR
  clear bR
  have bx : W.heap[w.heap.size + 1 + 1]? = some (.cells #[.int .i64 n, .int .i64 k, .slice none 0 0] 52 (0, 0)) := by
    rw [← hW]
    have := heap_alloc_new ((w.alloc (Obj.cells (shC f) 90)).alloc (Obj.cells #[.int .i64 0, .int .i64 0, .slice none 0 0] 52)) (Obj.cells #[.int .i64 n, .int .i64 k, .slice none 0 0] 52)
    simp only [World.size_alloc] at this
    exact this
  have sW : w.heap.size + 1 + 1 < W.heap.size := by rw [← hW]; simp
  have HW := Lib.hid hW
  clear hW
  go_enter Try.func67, Try.ntmps67
  go_upto_region 2 with fail
  rw [HW.out]
  go_wp2_with fail
  refine (everyPair_any n (by omega) _).mono ?_
  rintro e w1 ⟨P1, c1, rfl, own1, hb1⟩
  have s1 := hb1.size
  have k1 := kW.trans (hb1.mono kW.size)
  have row1 : w1.rowIs w.heap.size 90 64 (fun q => .int .i64 (f (q / 8) (q % 8))) := row0.of_block (hb1.block _ (by omega))
  have y0 := carry hb1 x0 (by omega)
  have y1 := carry hb1 x1 (by omega)
  have y2 := carry hb1 x2 (by omega)
  have v0 := fun j => (hb1.frozen (p := ⟨w.heap.size + 1, j, none⟩) (by simp; omega)).trans (z0 j)
  have rel0 : KBox 52 3 1 (mkX n k) w1 w1 (w.heap.size + 1 + 1) (.slice none 0 0) ((colsP n f).take 0).length (icells ((colsP n f).take 0)) :=
    ⟨fun _ _ _ => rfl, Below.refl _ _, Nat.le_refl _, by omega, (hb1.block _ sW).trans bx, World.ownsRow_nil _ _ _ _⟩
  have Own1 := Lib.hid own1
  have Row1 := Lib.hid row1
  clear row0 x0 x1 x2 z0 bx own1 row1 hb1
  obtain ⟨N, hN⟩ : ∃ N, (allP n).length = N := ⟨_, rfl⟩
  have HN := Lib.hid hN
  have HC := Lib.hid (colsP_len n f)
  rw [hN] at hcount ⊢
  clear hN
  go_wp2_with fail
  go_loopw [16] (fun i wr => ∃ (q : Nat) (v : Value), q ≤ N ∧ i = .int .i64 q ∧ KBox 52 3 1 (mkX n k) w1 wr (w.heap.size + 1 + 1) v ((colsP n f).take q).length (icells ((colsP n f).take q))) (fun i _ => N - (intOf i).toNat)
  case atStart => exact ⟨0, _, Nat.zero_le _, rfl, rel0⟩
  case round =>
    clear rel0
    obtain ⟨q, v, hq, rfl, rel⟩ := hrel
    have kX : Below w.heap.size w wr := k1.trans (rel.below.mono (by omega))
    have hlen : ((colsP n f).take q).length ≤ 28 := by rw [List.length_take, HC.out, HN.out]; omega
    obtain ⟨L, hL⟩ : ∃ L, (colsP n f).take q = L := ⟨_, rfl⟩
    rw [hL] at rel hlen
    have HL := Lib.hid hL
    clear hL
    have hsz := rel.size
    have hlt2 := rel.lt
    have b2 : wr.cell? ⟨w.heap.size + 1 + 1, 2, none⟩ = some v := rel.cell rfl
    have bf2 := rel.frozen 2
    have rowr : wr.rowIs w.heap.size 90 64 (fun q => .int .i64 (f (q / 8) (q % 8))) := Row1.out.of_block (rel.keep _ (by omega) (by omega))
    by_cases hlt : q < N
    · obtain ⟨a, b, hab, hbn, hat, hpq, _⟩ := pairAt_of hn (show q < (allP n).length by rw [HN.out]; exact hlt)
      obtain ⟨b1, off, rfl, hbb, c0, c1'⟩ := (CRead.of_own Own1.out).pair hpq
      have hgb := (Own1.out.lt b1 rfl).1
      have d0 := rel.other (by omega) hbb c0
      have d1 := rel.other (by omega) hbb c1'
      have hqi : (q : Int) < (N : Int) := by omega
      have hval : (colsP n f)[q]? = some (f a b) := by
        unfold colsP
        rw [List.getElem?_map, hpq]
        simp
      have hs := rowr.cell (show a * 8 + b < 64 by omega)
      have e1 : (a * 8 + b) / 8 = a := by omega
      have e2 : (a * 8 + b) % 8 = b := by omega
      simp only [e1, e2] at hs
      obtain ⟨x, hx⟩ : ∃ x, f a b = x := ⟨_, rfl⟩
      rw [hx] at hs hval
      have hai : (a : Int) < 8 := by omega
      have hbi : (b : Int) < 8 := by omega
      have Hval := Lib.hid hval
      clear c0 c1' hpq hat hval hx e1 e2 rowr
      go_upto_region 5 with fail
      obtain ⟨X, hX⟩ : ∃ X, wr.alloc (Obj.cells #[.int .i64 a, .int .i64 b] 64) = X := ⟨_, rfl⟩
      have kWX : Below wr.heap.size wr X := by rw [← hX]; exact (Below.refl _ _).alloc (Nat.le_refl _) _
      have m0 : X.cell? ⟨wr.heap.size, 0, none⟩ = some (.int .i64 a) := by rw [← hX]; simp
      have m1 : X.cell? ⟨wr.heap.size, 1, none⟩ = some (.int .i64 b) := by rw [← hX]; simp
      have q1 := carry kWX b2 (by omega)
      have hsX := carry kWX hs (by omega)
      rw [hX]
      have kb : Below wr.heap.size wr (X.alloc (Obj.cells #[.int .i64 x] 3)).drew := (kWX.alloc kWX.size _).drew
      have ownX := own_below rel.own kb (Nat.le_refl _)
      have ks : (X.alloc (Obj.cells #[.int .i64 x] 3)).drew.heap.size = X.heap.size + 1 := by
        show (X.alloc (Obj.cells #[.int .i64 x] 3)).heap.size = X.heap.size + 1
        simp
      have kc : ∀ (j : Nat) (u : Value), ([.int .i64 x] : List Value)[j]? = some u → (X.alloc (Obj.cells #[.int .i64 x] 3)).drew.cell? ((⟨X.heap.size, 0, none⟩ : Addr).add j) = some u := by
        refine one_cell ?_
        show (X.alloc (Obj.cells #[.int .i64 x] 3)).cell? ⟨X.heap.size, 0, none⟩ = _
        simp
      have kq : w1.heap.size ≤ (X.alloc (Obj.cells #[.int .i64 x] 3)).drew.heap.size := by rw [ks]; have := kWX.size; omega
      have k63 : L.length + 1 ≤ maxLen := by unfold maxLen; omega
      have kby : (L.length + 1) * 8 ≤ 140737488355328 := by omega
      have kq1 : ∀ o : Obj, (X.alloc o).cell? ⟨w.heap.size + 1 + 1, 2, none⟩ = some v := fun o => (World.cell?_alloc_lt X _ _ (by have := kWX.size; simp; omega)).trans q1
      have Rel := Lib.hid rel
      clear hX d0 d1 b2 hs rel
      go_region_law (first
        | (refine step_append_lies _ (by rfl) _ _ _ (by rfl) w1.heap.size 3 i0 _ 1 8 Try.underlying22 hi hz0 hz1 hz2 (by rfl) (by decide) v L.length (icells L) (by rfl) ownX ⟨X.heap.size, 0, none⟩ 1 1 [.int .i64 x] (by rfl) rfl kc (one_one rfl) (by decide) k63 kby kq (X.heap.size + 1) ks ?_; intro g3 c3 w3 own3 gr3 hat3 hlt3; obtain ⟨mid, _, _⟩ := Rel.out.grown kb gr3; have z1 : w3.cell? ⟨w.heap.size + 1 + 1, 2, none⟩ = some v := (by rw [cell_of_row _ _ _ _ _ _ mid]; rfl); have z2 : w3.frozen? ⟨w.heap.size + 1 + 1, 2, none⟩ = false := frozen_of_row _ _ 2 _ _ mid; have rel3 := Rel.out.push kb gr3 2 rfl own3; clear mid)
        | fail)
      all_goals (go_wp2_with fail)
      all_goals (go_roundw)
      all_goals first
        | exact ⟨q + 1, _, by omega, by go_num, by rw [List.take_add_one, Hval.out, Option.toList_some, HL.out, List.length_append, List.length_singleton, show icells (L ++ [x]) = icells L ++ [.int .i64 x] by simp [icells]]; exact rel3⟩
        | (simp [intOf]; omega)
    · have hqN : q = N := by omega
      subst hqN
      have hge : ¬ ((q : Int) < (q : Int)) := by omega
      have hLL := HL.out
      rw [List.take_of_length_le (by rw [HC.out, HN.out]; exact Nat.le_refl _)] at hLL
      subst hLL
      have hll : (colsP n f).length = q := by rw [HC.out, HN.out]
      obtain ⟨A', c', rfl, _⟩ := own_shape rel.own
      have r0 := rel.other (by omega) (by omega) y0
      have r1 := rel.other (by omega) (by omega) y1
      have r2 := rel.other (by omega) (by omega) y2
      have b0 : wr.cell? ⟨w.heap.size + 1 + 1, 0, none⟩ = some (.int .i64 n) := rel.cell rfl
      have b1 : wr.cell? ⟨w.heap.size + 1 + 1, 1, none⟩ = some (.int .i64 k) := rel.cell rfl
      have hfz : ∀ j, wr.frozen? ⟨w.heap.size + 1, j, none⟩ = false := fun j => by
        rw [← v0 j]
        simp [World.frozen?, rel.keep (w.heap.size + 1) (by omega) (by omega)]
      have f0 := hfz 0
      have f1 := hfz 1
      have f2 := hfz 2
      have Rel := Lib.hid rel
      clear rel hfz y0 y1 y2 v0 hll
      go_wp2
      refine bodyPost_ret (v := .agg #[.int .i64 n, .int .i64 k, .slice A' (colsP n f).length c']) (by simp [results, Try.results67, go_sem, r0, r1, r2]) rfl ?_
      exact ⟨A', c', rfl, own_lower (ownsRow_setCell_below (ownsRow_setCell_below (ownsRow_setCell_below Rel.out.own (a := ⟨w.heap.size + 1, 0, none⟩) (by simp; omega) _) (a := ⟨w.heap.size + 1, 1, none⟩) (by simp; omega) _) (a := ⟨w.heap.size + 1, 2, none⟩) (by simp; omega) _) (by omega),
        ((kX.setCell (p := ⟨w.heap.size + 1, 0, none⟩) (by simp) _).setCell (p := ⟨w.heap.size + 1, 1, none⟩) (by simp) _).setCell (p := ⟨w.heap.size + 1, 2, none⟩) (by simp) _⟩
end Go.Proofs.Ythddlpghjkiioaa
/-
  PAINTINGS WITHOUT A TRIPLE OF ONE COLOUR: the program's 'completesOne', by its contract.
-/
namespace Go.Proofs.Ythddlpghjkiioaa
open Go.RowKit

def closesF (f : Nat → Nat → Int) (a b : Nat) : Bool := (List.range a).any fun c => oneP f c a b
theorem closes_same {n a b : Nat} {l : List Int} (hn : n ≤ 8) (hab : a < b) (hb : b < n) (hl : atP n a b < (allP n).length) : closesF (shK n l (atP n a b + 1)) a b = closesX n l a b := by
  unfold closesF closesX
  have key : ∀ c ∈ List.range a, oneP (shK n l (atP n a b + 1)) c a b = (decide (colX n l c a = colX n l a b) && decide (colX n l c b = colX n l a b)) := fun c hc => by
    have hc := List.mem_range.1 hc
    have hp := atP_before hn hc hab hb
    have e1 := shK_at (l := l) hn (atP n a b + 1) (by omega) c a
    have e2 := shK_at (l := l) hn (atP n a b + 1) (by omega) c b
    have e3 := shK_at (l := l) hn (atP n a b + 1) (by omega) a b
    rw [Nat.min_eq_left (show c ≤ a by omega), Nat.max_eq_right (show c ≤ a by omega), if_pos ⟨by omega, by omega, by omega, by omega⟩] at e1
    rw [Nat.min_eq_left (show c ≤ b by omega), Nat.max_eq_right (show c ≤ b by omega), if_pos ⟨by omega, by omega, by omega, by omega⟩] at e2
    rw [Nat.min_eq_left (show a ≤ b by omega), Nat.max_eq_right (show a ≤ b by omega), if_pos ⟨by omega, by omega, by omega, by omega⟩] at e3
    unfold oneP colX
    rw [e1, e2, e3, Nat.min_eq_left (show c ≤ a by omega), Nat.max_eq_right (show c ≤ a by omega), Nat.min_eq_left (show c ≤ b by omega), Nat.max_eq_right (show c ≤ b by omega), Nat.min_eq_left (show a ≤ b by omega), Nat.max_eq_right (show a ≤ b by omega)]
    generalize l.getD (atP n c a) 0 = x
    generalize l.getD (atP n c b) 0 = y
    generalize l.getD (atP n a b) 0 = z
    rw [Bool.eq_iff_iff]
    simp only [Bool.and_eq_true, beq_iff_eq, decide_eq_true_eq]
    omega
  rw [Bool.eq_iff_iff, List.any_eq_true, List.any_eq_true]
  constructor
  · rintro ⟨c, hc, hx⟩
    exact ⟨c, hc, by rw [← key c hc]; exact hx⟩
  · rintro ⟨c, hc, hx⟩
    exact ⟨c, hc, by rw [key c hc]; exact hx⟩
set_option maxHeartbeats 4000000 in
set_option maxRecDepth 100000 in
theorem completes_any (f : Nat → Nat → Int) (a b : Nat) (ha : a < 8) (hb : b < 8) (w : World) :
    Calls Try.prog 92 #[.agg (shC f), .agg #[.int .i64 a, .int .i64 b]] w fun e w' => e = .returned (.bool (closesF f a b)) ∧ Below w.heap.size w w' := by
  obtain ⟨cl, hcl⟩ : ∃ cl : Nat → Bool, (fun j => (List.range j).any fun c => oneP f c a b) = cl := ⟨_, rfl⟩
  have hend : closesF f a b = cl a := by rw [← hcl]; rfl
  have h0 : cl 0 = false := by rw [← hcl]; rfl
  have hs : ∀ j, cl (j + 1) = (cl j || oneP f j a b) := fun j => by rw [← hcl]; simp [List.range_succ, List.any_append]
  have hmono : ∀ j, j ≤ a → cl j = true → cl a = true := fun j hj h => by
    rw [← hcl] at h ⊢
    rw [List.any_eq_true] at h ⊢
    obtain ⟨x, hx, hy⟩ := h
    exact ⟨x, List.mem_range.2 (by have := List.mem_range.1 hx; omega), hy⟩
  have call := fun (c : Nat) (hc : c < 8) (X : World) => areOne_any f c a b hc ha hb X
  obtain ⟨F, hF⟩ : ∃ F, shC f = F := ⟨_, rfl⟩
  have hFs : F.size = 64 := by rw [← hF]; exact shC_size f
  rw [hF, hend]
  rw [hF] at call
  obtain ⟨W, hW⟩ : ∃ W, (w.alloc (Obj.cells F 90)).alloc (Obj.cells #[.int .i64 a, .int .i64 b] 64) = W := ⟨_, rfl⟩
  have kW : Below w.heap.size w W := by rw [← hW]; go_grown
  have sW : W.heap.size = w.heap.size + 2 := by rw [← hW]; simp
  have bF : W.heap[w.heap.size]? = some (Obj.cells F 90) := by rw [← hW]; exact (Below.heap_alloc _ _ _ (by simp)).trans (World.alloc_heap_new w _)
  have bP : W.heap[w.heap.size + 1]? = some (Obj.cells #[.int .i64 a, .int .i64 b] 64) := by rw [← hW]; have h := World.alloc_heap_new (w.alloc (Obj.cells F 90)) (Obj.cells #[.int .i64 a, .int .i64 b] 64); rwa [World.size_alloc] at h
  have hiF : (Try.prog.info? 90).map (·.size) = some F.size := by rw [hFs]; exact sh_info
  have p0 : W.cell? ⟨w.heap.size + 1, 0, none⟩ = some (.int .i64 a) := by rw [cell_of_row _ _ _ _ _ _ bP]; rfl
  have Call := Lib.hid call
  have Hs := Lib.hid hs
  have Hmono := Lib.hid hmono
  have HW := Lib.hid hW
  have BF := Lib.hid bF
  have BP := Lib.hid bP
  have KW := Lib.hid kW
  clear call hs hmono hcl hend hF hW bF bP kW hFs
  go_enter Try.func92, Try.ntmps92
  go_upto_region 1 with fail
  rw [HW.out]
  go_wp2_with fail
  go_loopw [8] (fun i wr => ∃ j : Nat, j ≤ a ∧ i = .int .i64 j ∧ cl j = false ∧ Below W.heap.size W wr) (fun i _ => a - (intOf i).toNat)
  case atStart => exact ⟨0, Nat.zero_le _, rfl, h0, Below.refl _ _⟩
  case round =>
    obtain ⟨j, hj, rfl, hcj, hb1⟩ := hrel
    have hsz := hb1.size
    by_cases hlt : j < a
    · have hji : (j : Int) < (a : Int) := by omega
      have bFr := (hb1.block _ (show w.heap.size < W.heap.size by omega)).trans BF.out
      have bPr := (hb1.block _ (show w.heap.size + 1 < W.heap.size by omega)).trans BP.out
      have y0 : wr.cell? ⟨w.heap.size + 1, 0, none⟩ = some (.int .i64 a) := by rw [cell_of_row _ _ _ _ _ _ bPr]; rfl
      have y1 : wr.cell? ⟨w.heap.size + 1, 1, none⟩ = some (.int .i64 b) := by rw [cell_of_row _ _ _ _ _ _ bPr]; rfl
      have hst := Hs.out j
      rw [hcj, Bool.false_or] at hst
      have callj := Call.out j (by omega) wr
      rw [← hst] at callj
      have Callj := Lib.hid callj
      have Bg := Lib.hid bFr
      have Hb1 := Lib.hid hb1
      clear callj hst hb1 bFr bPr
      cases hc1 : cl (j + 1) with
      | true =>
        have HcT := Lib.hid (Hmono.out (j + 1) (by omega) hc1)
        rw [hc1] at Callj
        clear hc1
        go_wp2_with (first | (go_at_call 101; refine (Callj.out).mono ?_; rintro e w1 ⟨rfl, hbz⟩) | (refine wpList_load_row rfl 90 _ rfl w.heap.size rfl 90 F (0, 0) _ Bg.out sh_under rfl hiF ?_))
        have KZ := Lib.hid (KW.out.trans ((Hb1.out.trans (hbz.mono hsz)).mono (by omega)))
        clear hbz
        go_wp2
        go_ret
        exact ⟨by rw [HcT.out]; rfl, KZ.out⟩
      | false =>
        rw [hc1] at Callj
        have HcF := Lib.hid hc1
        clear hc1
        go_wp2_with (first | (go_at_call 101; refine (Callj.out).mono ?_; rintro e w1 ⟨rfl, hbz⟩) | (refine wpList_load_row rfl 90 _ rfl w.heap.size rfl 90 F (0, 0) _ Bg.out sh_under rfl hiF ?_))
        have KZ := Lib.hid (Hb1.out.trans (hbz.mono hsz))
        clear hbz
        go_wp2
        go_roundw
        case rel => exact ⟨j + 1, by omega, by go_num, HcF.out, KZ.out⟩
        case measure => simp [intOf]; omega
    · have hje : j = a := by omega
      subst hje
      have hge : ¬ ((j : Int) < (j : Int)) := by omega
      have Hb1 := Lib.hid (KW.out.trans (hb1.mono (by omega)))
      have Hcj := Lib.hid hcj
      clear hb1 hcj
      go_wp2
      go_ret
      exact ⟨by rw [Hcj.out]; rfl, Hb1.out⟩
end Go.Proofs.Ythddlpghjkiioaa
/-
  PAINTINGS WITHOUT A TRIPLE OF ONE COLOUR: the program's recursive closure ('look' in 'allAvoiding'), by its contract.
-/
namespace Go.Proofs.Ythddlpghjkiioaa
open Go.RowKit Go.Shelf
attribute [local go_sem] Oper.semAt_some

theorem shK_told {n : Nat} (hn : n ≤ 8) {t : List Int} (x : Int) (ht : t.length ≤ (allP n).length) : shC (shK n (t ++ [x]) t.length) = shC (shK n t t.length) := by
  refine shC_congr fun i j hi hj => ?_
  rw [shK_at hn _ ht, shK_at hn _ ht]
  split
  · rename_i h
    rw [List.getD_eq_getElem?_getD, List.getD_eq_getElem?_getD, List.getElem?_append_left h.2.2.2]
  · rfl
theorem paint_congr {f g : Nat → Nat → Int} (h : shC f = shC g) (a b : Nat) (x : Int) : shC (paintF f a b x) = shC (paintF g a b x) := by
  refine shC_congr fun i j hi hj => ?_
  unfold paintF
  split
  · rfl
  · have h1 := shC_get f (show i * 8 + j < 64 by omega)
    rw [h, shC_get g (by omega), show (i * 8 + j) / 8 = i by omega, show (i * 8 + j) % 8 = j by omega] at h1
    simp only [Option.some.injEq, Value.int.injEq, true_and] at h1
    exact h1.symm
theorem shK_more {n a b : Nat} (hn : n ≤ 8) {t : List Int} (x : Int) (ht : t.length ≤ (allP n).length) (hp : pairAt n t.length = (a, b)) : shC (shK n (t ++ [x]) (t.length + 1)) = shC (paintF (shK n t t.length) a b x) := by
  rw [shK_next hp (by rw [List.getElem?_concat_length])]
  exact paint_congr (shK_told hn x ht) a b x
theorem wpListIn_load_row {F : Fence} {n : Nat} {P : Program} {w : World} {ops : Array Oper} {rest : List Oper} {o : Oper} {a : Act} {Q : Exit → Act → World → Prop} (hgd : o.guard = none) (ty : TypeId) (x : Operand) (ho : o.op = .load ty x)
    (g : Nat) (hx : a.eval x = .pointer (some ⟨g, 0, none⟩)) (t : TypeId) (cs : Array Value) (fr : Nat × Nat) (d : TypeDesc) (hg : w.heap[g]? = some (.cells cs t fr))
    (hu : P.underlying ty = some d) (hd : (match d with | .struct _ | .array _ _ => true | _ => false) = true) (hi : (P.info? ty).map (·.size) = some cs.size)
    (h : wpListIn F n P ops Q rest (a.put o.dst (.agg cs)) w) : wpListIn F n P ops Q (o :: rest) a w := by
  refine wpListIn_plain hgd fun K hK => ?_
  unfold Oper.wpIn
  refine ⟨?_, ?_⟩
  · intro f hf
    simp [Oper.about, ho] at hf
  · rw [Oper.semAt_plain F _ _ (by rw [ho]; intro c h; cases h)]
    unfold execOp
    simp only [ho, hx, Instr.loadAt, Instr.sureAddr, Sem.run_bind, Sem.run_pure, Result.andThen_ok, run_loadVar_row w g t ty cs fr d hg hu hd hi]
    exact hK _ _ h
theorem LookYes.overA {J : (Nat → Prop) → List (List Int) → World → Prop} {R S : Nat → Prop} {A : Option Addr} {c B : Nat} {l : List Int} {xs : List (List Int)} {W wr X : World} (hh : Held J) (h : LookYes J R S A c l xs W wr) (hR : ∀ j, R j → j < B) (hB : B ≤ W.heap.size)
    (hX : Below wr.heap.size wr X) : LookYes J R S A c l xs W X := by
  have hsz := h.below.size
  obtain ⟨S1, hJ1, hs1, hs2⟩ := h.ex
  exact ⟨⟨S1, hh _ _ _ _ _ hJ1 (Apart.of_below hX) (fun j hj => .inl hj), hs1, hs2⟩, h.below.trans (hX.mono (Nat.zero_le _)), fun j hj => (hX.block j (by have := hR j hj; omega)).trans (h.ro j hj), fun j hj hlt hne => (hX.block j (by omega)).trans (h.other j hj hlt hne), told_kept h.told fun k hk => hX.block k (own_lies h.told k hk).2⟩
theorem LookYes.againA {J : (Nat → Prop) → List (List Int) → World → Prop} {R S S' : Nat → Prop} {A : Option Addr} {c : Nat} {l : List Int} {xs ys : List (List Int)} {W Y W' : World} (h : LookYes J R S A c l xs W Y) (h1 : ∀ j, S j → S' j) (h3 : ∀ j, S' j → S j ∨ W.heap.size ≤ j) (h2 : LookYes J R S' A c l ys Y W') : LookYes J R S A c l ys W W' := by
  have hs := h.below.size
  obtain ⟨S2, hJ, e1, e2⟩ := h2.ex
  exact ⟨⟨S2, hJ, fun j hj => e1 j (h1 j hj), fun j hj => (e2 j hj).elim (h3 j) (fun h => .inr (by omega))⟩, h.below.trans h2.below, fun j hj => (h2.ro j hj).trans (h.ro j hj), fun j hj hlt hne => (h2.other j (h1 j hj) (by omega) hne).trans (h.other j hj hlt hne), h2.told⟩
/-- the closure's value -/
abbrev avV (pb yb cb bl : Nat) : Value := .func (.func 90) #[] #[.pointer (some ⟨pb, 0, none⟩), .pointer (some ⟨yb, 0, none⟩), .pointer (some ⟨cb, 0, none⟩), .pointer (some ⟨bl, 0, none⟩)]
/-- what the closure's boxes hold -/
structure AvBox (w : World) (l n k lo : Nat) (PA : Option Addr) (pc pb yb cb bl : Nat) : Prop where
  p : w.cell? ⟨pb, 0, none⟩ = some (.slice PA (allP n).length pc)
  y : w.cell? ⟨yb, 0, none⟩ = some (.func (.yield l) #[] #[])
  c : w.cell? ⟨cb, 0, none⟩ = some (.int .i64 k)
  k : w.cell? ⟨bl, 0, none⟩ = some (avV pb yb cb bl)
  o : w.ownsRow lo 64 2 (.slice PA (allP n).length pc) (allP n).length (pcells (allP n))
theorem AvBox.of {w w' : World} {l n k lo : Nat} {PA : Option Addr} {pc pb yb cb bl B : Nat} {R : Nat → Prop} (h : AvBox w l n k lo PA pc pb yb cb bl) (hR : ∀ j, R j → w'.heap[j]? = w.heap[j]?)
    (h1 : R pb) (h2 : R yb) (h3 : R cb) (h4 : R bl) (h5 : ∀ j, lo ≤ j → j < B → R j) (h6 : ∀ j, (Value.slice PA (allP n).length pc).ownBlock = some j → j < B) : AvBox w' l n k lo PA pc pb yb cb bl := by
  have e : ∀ b o v, R b → w.cell? ⟨b, o, none⟩ = some v → w'.cell? ⟨b, o, none⟩ = some v := fun b o v hb hc => (World.cell?_of_block (w := w) (a := ⟨b, o, none⟩) (hR b hb)).trans hc
  refine ⟨e _ _ _ h1 h.p, e _ _ _ h2 h.y, e _ _ _ h3 h.c, e _ _ _ h4 h.k, ?_⟩
  obtain ⟨r1, r2⟩ := h.o
  rcases r2 with ⟨hv, h0⟩ | ⟨g, cap, cur, hv, hb, hg, hrest⟩
  · exact ⟨r1, .inl ⟨hv, h0⟩⟩
  · exact ⟨r1, .inr ⟨g, cap, cur, hv, hb, (hR g (h5 g hb (h6 g (by rw [hv]; rfl)))).trans hg, hrest⟩⟩

section
variable {l n k lo : Nat} {PA : Option Addr} {pc pb yb cb bl B : Nat} {R : Nat → Prop} {J Jx : (Nat → Prop) → List (List Int) → World → Prop} {Good : List (List Int) → Prop}
set_option maxHeartbeats 4000000 in
set_option maxRecDepth 100000 in
/-- All are painted: the table is handed to the round. -/
theorem av_zero (hR : ∀ j, R j → j < B)
    (hY : ∀ S pre told W1, J S pre W1 → told.length = (allP n).length → Good (pre ++ [told]) → YieldAt Fence.wide 0 Try.prog l #[.agg (shC (shK n told told.length))] W1 fun e W' =>
      (e = .returned (.bool true) ∧ J S (pre ++ [told]) W' ∧ Stays (fun j => S j ∨ R j) W1 W') ∨ (e = .returned (.bool false) ∧ Jx S (pre ++ [told]) W'))
    (hh : Held J) (told : List Int) (S : Nat → Prop) (pre : List (List Int)) (W : World) (hlen : told.length = (allP n).length) (hgd : Good (pre ++ [told])) (hB : B ≤ W.heap.size) (hL : AvBox W l n k lo PA pc pb yb cb bl) (hJ : J S pre W) :
    Calls Try.prog 90 #[.int .i64 told.length, .agg (shC (shK n told told.length)), .pointer (some ⟨pb, 0, none⟩), .pointer (some ⟨yb, 0, none⟩), .pointer (some ⟨cb, 0, none⟩), .pointer (some ⟨bl, 0, none⟩)] W fun e W' =>
      ∃ ok, e = .returned (.bool ok) ∧ LookPost J Jx R S none 0 [] pre [told] W ok W' := by
  obtain ⟨F, hF⟩ : ∃ F, shC (shK n told told.length) = F := ⟨_, rfl⟩
  have hFs : F.size = 64 := by rw [← hF]; exact shC_size _
  have hiF : (Try.prog.info? 90).map (·.size) = some F.size := by rw [hFs]; exact sh_info
  obtain ⟨X, hX⟩ : ∃ X, W.alloc (Obj.cells F 90) = X := ⟨_, rfl⟩
  have kX : Below W.heap.size W X := by rw [← hX]; go_grown
  have bF : X.heap[W.heap.size]? = some (Obj.cells F 90) := by rw [← hX]; exact World.alloc_heap_new W _
  have hp := carry kX hL.p (World.block_lt_of_cell? W _ hL.p)
  have hy0 := carry kX hL.y (World.block_lt_of_cell? W _ hL.y)
  have hJX := hh _ _ _ _ _ hJ (Apart.of_below (S := S) kX) (fun j hj => .inl hj)
  have hyy := hY S pre told X hJX hlen hgd
  rw [hF] at hyy ⊢
  obtain ⟨m, hm⟩ : ∃ m, (allP n).length = m := ⟨_, rfl⟩
  rw [hm] at hp hlen
  rw [hlen]
  have hne : ((m : Int) == (m : Int)) = true := by simp
  obtain ⟨fn, tmps, assign, body, hy, hRd⟩ := yield_any (m' := 2) hyy
  subst hX
  have KX := Lib.hid kX
  have BF := Lib.hid bF
  have Told : World.told W none 0 [] := World.ownsRow_nil _ _ _ _
  clear kX bF hJX hyy hF hFs hm
  refine (callsIn_wide (n := 3)).1 ?_
  refine callsIn_of_wp Try.func90 rfl trivial ?_ rfl
  simp only [Try.ntmps90, List.size_toArray, List.length_cons, List.length_nil, Nat.reduceAdd, Nat.reduceSub, Array.replicate_succ, Array.replicate_zero, List.push_toArray, List.append_toArray, List.nil_append, List.cons_append]
  gi_wp2_with (refine wpListIn_load_row rfl 90 _ rfl W.heap.size rfl 90 F (0, 0) _ BF.out sh_under rfl hiF ?_)
  refine hRd.mono ?_
  rintro e W' (⟨rfl, hJ', hst⟩ | ⟨rfl, hJx⟩)
  · have hst2 := (Stays.of_below (S := fun j => S j ∨ R j) KX.out).trans hst
    gi_wp2
    go_ret
    exact ⟨true, rfl, ⟨S, hJ', fun _ h => h, fun _ h => .inl h⟩, hst2.below, fun j hj => hst2.same j (by have := hR j hj; omega) (.inr hj), fun j hj hlt _ => hst2.same j hlt (.inl hj), World.ownsRow_nil _ _ _ _⟩
  · gi_wp2
    go_ret
    exact ⟨false, rfl, S, [], told, List.prefix_refl _, hJx⟩
end
end Go.Proofs.Ythddlpghjkiioaa
