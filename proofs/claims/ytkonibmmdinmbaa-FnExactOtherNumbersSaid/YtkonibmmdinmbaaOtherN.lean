/-
  'OtherNumbers': the model's and the program's, by their contracts.
-/
import Derived.Test.YtkonibmmdinmbaaNumsW
namespace Go.Proofs.Ytkonibmmdinmbaa
open Go.RowKit

def othersI (q : List Int) : List Int := q.map fun x => (q.length : Int) - 1 - x
theorem othersI_at {q : List Int} {k : Nat} {x : Int} (hx : q[k]? = some x) : (othersI q)[k]? = some ((q.length : Int) - 1 - x) := by simp [othersI, hx]
theorem othersI_length (q : List Int) : (othersI q).length = q.length := by simp [othersI]
def resOtherNumbers (q : List Int) : List Int × Bool := if isNums q then (othersI q, true) else ([], false)
theorem resOtherNumbers_len (q : List Int) : (resOtherNumbers q).1.length ≤ 1048576 := by
  unfold resOtherNumbers
  split
  · rename_i h
    have := isNums_len h
    rw [othersI_length]
    omega
  · simp

set_option maxHeartbeats 1000000 in
set_option maxRecDepth 100000 in
theorem specOtherNumbers_any (q : List Int) (A : Option Addr) (c : Nat) (w : World) (hl : q.length ≤ 1048576) (hA : CRead w w.heap.size A (icells q)) :
    Calls Try.prog 73 #[.slice A q.length c] w (GotIntsOk w (resOtherNumbers q).1 (resOtherNumbers q).2) := by
  cases hq : isNums q with
  | false =>
    have e : resOtherNumbers q = ([], false) := by simp [resOtherNumbers, hq]
    rw [e]
    have Hq := Lib.hid hq
    clear hq e
    go_enter Try.func73, Try.ntmps73
    go_wp2_with fail
    refine (deGood_any _ _ _ _ hl hA).mono ?_
    rw [Hq.out]
    rintro e w' ⟨rfl, rfl⟩
    go_wp2
    go_ret2
    exact ⟨none, 0, rfl, World.ownsRow_nil _ _ _ _, Below.refl _ _⟩
  | true =>
    obtain ⟨i0, hi, hz0, hz1, hz2⟩ := info_parts Try.infoInt
    have e : resOtherNumbers q = (othersI q, true) := by simp [resOtherNumbers, hq]
    rw [e]
    have hl12 := isNums_len hq
    have Hq := Lib.hid hq
    clear hq e
    go_enter Try.func73, Try.ntmps73
    go_wp2_with fail
    refine (deGood_any _ _ _ _ hl hA).mono ?_
    rw [Hq.out]
    rintro e w' ⟨rfl, rfl⟩
    go_wp2
    go_loopw [4, 12] (fun v i wr => ∃ k : Nat, k ≤ q.length ∧ i = .int .i64 k ∧ wr.ownsRow w.heap.size 3 1 v ((othersI q).take k).length (icells ((othersI q).take k)) ∧ Below w.heap.size w wr) (fun _ i _ => q.length - (intOf i).toNat)
    case atStart => exact ⟨0, Nat.zero_le _, rfl, World.ownsRow_nil _ _ _ _, Below.refl _ _⟩
    case round =>
      obtain ⟨k, hk, rfl, hown, hb⟩ := hrel
      have hs := hb.size
      by_cases hlt : k < q.length
      · obtain ⟨x, hx⟩ := getSome q k hlt
        obtain ⟨b, off, rfl, hbb, c0⟩ := (hA.below hb (Nat.le_refl _)).int hx
        have hki : (k : Int) < (q.length : Int) := by omega
        have hx0 := isNums_at Hq.out hx
        have Ho := Lib.hid (othersI_at hx)
        have htl : ((othersI q).take k).length ≤ 12 := by rw [List.length_take, othersI_length]; omega
        clear hx
        go_wp2_with (at_builtin; refine wpList_append_own _ rfl _ _ 25 rfl w.heap.size 3 i0 _ 1 8 Try.underlying25 hi hz0 hz1 hz2 rfl (by decide) _ _ _ rfl (hown.alloc _) ⟨wr.heap.size, 0, none⟩ 1 1 [.int .i64 ((q.length : Int) - 1 - x)] rfl rfl (one_cell (by simp)) (one_one rfl) (by unfold maxLen; omega) (by omega) (by simp; omega) ?_; intro v1 w3 hown3 hg3 _; obtain ⟨A1, d1', rfl, _⟩ := own_shape hown3)
        go_roundw
        case rel =>
          refine ⟨k + 1, by omega, by go_num, ?_, (hb.alloc hs _).grown hg3 (by simp; omega) (fun k hk => (hown.lt k hk).1)⟩
          rw [List.take_add_one, Ho.out, Option.toList_some]
          have el : min k (othersI q).length = ((othersI q).take k).length := by rw [List.length_take]
          rw [el]
          generalize (othersI q).take k = L at hown3 ⊢
          rw [icells_append, List.length_append]
          exact hown3
        case measure => simp [intOf]; omega
      · have hkl : k = q.length := by omega
        have hge : ¬ ((k : Int) < q.length) := by omega
        rw [List.take_of_length_le (by rw [othersI_length]; omega)] at hown
        obtain ⟨A', c', rfl, _⟩ := own_shape hown
        have Hown := Lib.hid hown
        clear hown
        go_wp2
        go_ret2
        exact ⟨A', c', rfl, Hown.out, hb⟩

set_option maxHeartbeats 1000000 in
set_option maxRecDepth 100000 in
theorem implOtherNumbers_any (q : List Int) (A : Option Addr) (c : Nat) (w : World) (hl : q.length ≤ 1048576) (hA : CRead w w.heap.size A (icells q)) :
    Calls Try.prog 74 #[.slice A q.length c] w (GotIntsOk w (resOtherNumbers q).1 (resOtherNumbers q).2) := by
  cases hq : isNums q with
  | false =>
    have e : resOtherNumbers q = ([], false) := by simp [resOtherNumbers, hq]
    rw [e]
    have Hq := Lib.hid hq
    clear hq e
    go_enter Try.func74, Try.ntmps74
    go_wp2_with fail
    refine (isNumbers_any _ _ _ _ hl hA).mono ?_
    rw [Hq.out]
    rintro e w' ⟨rfl, rfl⟩
    go_wp2
    go_ret2
    exact ⟨none, 0, rfl, World.ownsRow_nil _ _ _ _, Below.refl _ _⟩
  | true =>
    obtain ⟨i0, hi, hz0, hz1, hz2⟩ := info_parts Try.infoInt
    have e : resOtherNumbers q = (othersI q, true) := by simp [resOtherNumbers, hq]
    rw [e]
    have hl12 := isNums_len hq
    have Hq := Lib.hid hq
    clear hq e
    generalize hg : w.heap.size = g at *
    have Hg := Lib.hid hg
    clear hg
    go_enter Try.func74, Try.ntmps74
    go_wp2_with fail
    refine (isNumbers_any q A c _ hl (by rw [Hg.out]; exact hA)).mono ?_
    rw [Hq.out]
    rintro e w' ⟨rfl, rfl⟩
    go_wp2_with (at_make; refine wpList_make_full _ rfl _ _ 25 rfl g 3 i0 _ 1 Try.underlying25 hi hz0 hz1 _ _ _ _ q.length rfl rfl (by omega) (by omega) (by rw [hz2]; omega) (by unfold maxLen; omega) (by rw [Hg.out]; exact Nat.le_refl _) ?_; rw [Hg.out]; intro w1 hown1 hgr1)
    have hs1 : g < w1.heap.size := (own_lt hown1).2
    have hb1 : Below g w w1 := (Below.refl _ _).grown hgr1 (by rw [Hg.out]; exact Nat.le_refl _) (by simp)
    rw [show Value.cells (.int .i64 0) = #[.int .i64 0] from rfl, made_ints] at hown1
    go_loopw [15] (fun i wr => ∃ k : Nat, k ≤ q.length ∧ i = .int .i64 k ∧ wr.ownsRow g 3 1 (.slice (some ⟨g, 0, none⟩) q.length q.length) q.length (icells ((othersI q).take k ++ List.replicate (q.length - k) 0)) ∧ Below g w wr) (fun i _ => q.length - (intOf i).toNat)
    case atStart => exact ⟨0, Nat.zero_le _, rfl, by simpa using hown1, hb1⟩
    case round =>
      obtain ⟨k, hk, rfl, hown, hb⟩ := hrel
      have hs := own_lt hown
      by_cases hlt : k < q.length
      · obtain ⟨x, hx⟩ := getSome q k hlt
        obtain ⟨b, off, rfl, hbb, c0⟩ := (hA.below hb (Nat.le_refl _)).int hx
        have hlt' : (k : Int) < q.length := by omega
        have hx0 := isNums_at Hq.out hx
        have ho := othersI_at hx
        have f0 := hown.frozenAt k
        have hz : ((othersI q).take k ++ List.replicate (q.length - k) 0)[k]? = some 0 := by
          rw [List.getElem?_append_right (by simp; omega)]
          have h1 : min k (othersI q).length = k := Nat.min_eq_left (by rw [othersI_length]; exact hk)
          simp only [List.length_take, h1, Nat.sub_self]
          rw [List.getElem?_replicate, if_pos (by omega)]
        have d0 := own_intAt hown hz
        clear hz
        have Ho := Lib.hid ho
        clear hx ho
        go_wp2
        go_roundw
        case rel =>
          refine ⟨k + 1, by omega, by go_num, ?_, hb.setCell (p := ⟨g, k, none⟩) (Nat.le_refl _) _⟩
          have h2 := own_setInt hown k ((q.length : Int) - 1 - x)
          rwa [take_set_replicate (othersI q) 0 q.length k _ (by rw [othersI_length]) Ho.out] at h2
        case measure => simp [intOf]; omega
      · have hkl : k = q.length := by omega
        subst hkl
        have hge : ¬ ((q.length : Int) < q.length) := by omega
        go_wp2
        go_ret2
        have el : (othersI q).length = q.length := othersI_length q
        rw [Nat.sub_self, List.replicate_zero, List.append_nil, List.take_of_length_le (by rw [el]; exact Nat.le_refl _)] at hown
        refine ⟨some ⟨g, 0, none⟩, q.length, by rw [el]; rfl, ?_, by rw [Hg.out]; exact hb⟩
        rw [el, Hg.out]
        exact hown
end Go.Proofs.Ytkonibmmdinmbaa
