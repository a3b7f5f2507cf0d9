/-
  'HangTogether': the model's and the program's, by their contracts.
-/
import Derived.Test.YtkonibmmdinmbaaCanBe
namespace Go.Proofs.Ytkonibmmdinmbaa
open Go.RowKit

theorem icells_getD {l : List Int} {j : Nat} (h : j < l.length) : (icells l)[j]? = some (.int .i64 (l.getD j 0)) := by
  simp [icells, List.getD_eq_getElem?_getD, List.getElem?_eq_getElem h]
theorem CRead.ints {w : World} {B : Nat} {A : Option Addr} {q : List Int} (h : CRead w B A (icells q)) (hq : 0 < q.length) : ∃ b off, A = some ⟨b, off, none⟩ ∧ b < B ∧ ∀ j, j < q.length → w.cell? ⟨b, off + j, none⟩ = some (.int .i64 (q.getD j 0)) := by
  obtain ⟨b, off, rfl, hb, _⟩ := h 0 _ (icells_getD hq)
  refine ⟨b, off, rfl, hb, fun j hj => ?_⟩
  obtain ⟨b', off', e, _, hc⟩ := h j _ (icells_getD hj)
  simp only [Option.some.injEq, Addr.mk.injEq, and_true] at e
  obtain ⟨rfl, rfl⟩ := e
  exact hc

/-- whether a number is in a list -/
def hasI (q : List Int) (x : Int) : Bool := q.contains x
theorem hasI_mem {q : List Int} {x : Int} : hasI q x = true ↔ x ∈ q := List.contains_iff_mem
set_option maxHeartbeats 1000000 in
theorem l1Has_any (q : List Int) (x : Int) (A : Option Addr) (c : Nat) (w : World) (hl : q.length ≤ 1048576) (hA : CRead w w.heap.size A (icells q)) :
    Calls Try.prog 101 #[.slice A q.length c, .int .i64 x] w fun e w' => e = .returned (.bool (hasI q x)) ∧ w = w' := by
  go_enter Try.func101, Try.ntmps101
  go_wp2
  go_loop [9] (fun i => ∃ k : Nat, k ≤ q.length ∧ i = .int .i64 k ∧ ∀ (j : Nat) (y : Int), j < k → q[j]? = some y → y ≠ x) (fun i => q.length - (intOf i).toNat)
  case atStart => exact ⟨0, Nat.zero_le _, rfl, fun j x hj => by omega⟩
  case round =>
    obtain ⟨k, hk, rfl, hg⟩ := hrel
    have Hg := Lib.hid hg
    clear hg
    by_cases hlt : k < q.length
    · obtain ⟨y, hy⟩ := getSome q k hlt
      obtain ⟨b, off, rfl, hbb, c0⟩ := hA.int hy
      have hki : (k : Int) < (q.length : Int) := by omega
      have Hy := Lib.hid hy
      clear hy
      by_cases hyx : y = x
      · subst hyx
        have He := Lib.hid (show hasI q y = true from hasI_mem.2 (List.mem_of_getElem? Hy.out))
        go_wp2
        go_ret
        exact ⟨by rw [He.out]; rfl, rfl⟩
      · go_wp2
        go_round
        case rel =>
          refine ⟨k + 1, by omega, by go_num, fun j z hj hz => ?_⟩
          by_cases hjk : j = k
          · subst hjk
            rw [Hy.out] at hz
            simp only [Option.some.injEq] at hz
            subst hz
            exact hyx
          · exact Hg.out j z (by omega) hz
        case measure => simp [intOf]; omega
    · have hkl : k = q.length := by omega
      have e : hasI q x = false := by
        rw [Bool.eq_false_iff]
        intro hc
        rw [hasI_mem] at hc
        obtain ⟨i, hi, e⟩ := List.getElem_of_mem hc
        exact Hg.out i _ (by omega) (List.getElem?_eq_getElem hi) e
      have He := Lib.hid e
      clear e
      have hge : ¬ ((k : Int) < (q.length : Int)) := by omega
      go_wp2
      go_ret
      exact ⟨by rw [He.out]; rfl, rfl⟩

set_option maxRecDepth 100000 in
theorem containsI_any (q : List Int) (x : Int) (A : Option Addr) (c : Nat) (w : World) (hl : q.length ≤ 1048576) (hA : CRead w w.heap.size A (icells q)) :
    Calls Try.prog 155 #[.slice A q.length c, .int .i64 x] w fun e w' => e = .returned (.bool (hasI q x)) ∧ w = w' := by
  by_cases h0 : q.length = 0
  · have hq : q = [] := List.eq_nil_of_length_eq_zero h0
    subst hq
    have h := AnyG.slices_Contains_int_empty Try.containsI A c x w
    change Calls Try.prog 155 _ _ _ at h
    exact h.mono fun _ _ ⟨he, hw⟩ => ⟨he, hw.symm⟩
  · obtain ⟨b, off, rfl, hb, hc⟩ := hA.ints (by omega)
    have h := AnyG.slices_Contains_int Try.containsI b off q.length c q x w (Nat.le_refl _) (by omega) hc
    rw [List.take_length] at h
    change Calls Try.prog 155 _ _ _ at h
    exact h.mono fun _ _ ⟨he, hw⟩ => ⟨he, hw.symm⟩

def resHangTogether (q : List Int) : Bool × Bool := if isNums q && decide (0 < q.length) then (canI q && (decide (q.length < 2) || !hasI q 0) && decide (2 * ((q.length : Int) - 1) ≤ sumI q), true) else (false, false)

set_option maxHeartbeats 4000000 in
set_option maxRecDepth 100000 in
theorem specHangTogether_any (q : List Int) (A : Option Addr) (c : Nat) (w : World) (hl : q.length ≤ 1048576) (hA : CRead w w.heap.size A (icells q)) :
    Calls Try.prog 84 #[.slice A q.length c] w fun e w' => e = .returned (.tuple #[.bool (resHangTogether q).1, .bool (resHangTogether q).2]) ∧ Below w.heap.size w w' := by
  cases hq : isNums q with
  | false =>
    have e : resHangTogether q = (false, false) := by simp [resHangTogether, hq]
    rw [e]
    have Hq := Lib.hid hq
    clear hq e
    go_enter Try.func84, Try.ntmps84
    go_wp2_with fail
    refine (deGood_any _ _ _ _ hl hA).mono ?_
    rw [Hq.out]
    rintro e w' ⟨rfl, rfl⟩
    go_wp2
    go_ret2
    exact ⟨rfl, Below.refl _ _⟩
  | true =>
    have hl12 := isNums_len hq
    have hs := sumI_bound hq
    by_cases h0 : q.length = 0
    · have hnil : q = [] := List.eq_nil_of_length_eq_zero h0
      subst hnil
      have e : resHangTogether [] = (false, false) := by simp [resHangTogether]
      rw [e]
      have Hq := Lib.hid hq
      clear hq e hs h0
      go_enter Try.func84, Try.ntmps84
      go_wp2_with fail
      refine (deGood_any _ _ _ _ hl hA).mono ?_
      rw [Hq.out]
      rintro e w' ⟨rfl, rfl⟩
      go_wp2
      go_ret2
      exact ⟨rfl, Below.refl _ _⟩
    obtain ⟨s, hse⟩ : ∃ s, sumI q = s := ⟨_, rfl⟩
    rw [hse] at hs
    obtain ⟨hs0, hs1⟩ := hs
    obtain ⟨z, hz⟩ : ∃ z, hasI q 0 = z := ⟨_, rfl⟩
    obtain ⟨r, hr⟩ : ∃ r, canI q = r := ⟨_, rfl⟩
    have hpos : 0 < q.length := by omega
    have e : resHangTogether q = (r && (decide (q.length < 2) || !z) && decide (2 * ((q.length : Int) - 1) ≤ s), true) := by unfold resHangTogether; rw [hq, hr, hz, hse, decide_eq_true hpos, Bool.true_and, if_pos rfl]
    rw [e]
    have Hq := Lib.hid hq
    have Hs := Lib.hid hse
    have Hz := Lib.hid hz
    have Hr := Lib.hid hr
    clear hq e hse hz hr
    have hne : ¬ (q.length : Int) = 0 := by omega
    have hge1 : ¬ (q.length : Int) < 1 := by omega
    by_cases h1 : q.length = 1
    · have h1j : ¬ (1 < (q.length : Int)) := by omega
      have h1k : (q.length : Int) < 2 := by omega
      rw [decide_eq_true (show q.length < 2 by omega), Bool.true_or, Bool.and_true]
      clear h1 h0 hpos
      cases r with
      | false =>
        go_enter Try.func84, Try.ntmps84
        go_wp2_with fail
        refine (deGood_any _ _ _ _ hl hA).mono ?_
        rw [Hq.out]
        rintro e wa ⟨rfl, rfl⟩
        go_wp2_with fail
        refine (deCan_any q A c _ Hq.out hA).mono ?_
        rw [Hr.out]
        rintro e w2 ⟨rfl, hb2⟩
        go_wp2
        go_ret2
        exact ⟨by first | rfl | simp, hb2⟩

      | true =>
        go_enter Try.func84, Try.ntmps84
        go_wp2_with fail
        refine (deGood_any _ _ _ _ hl hA).mono ?_
        rw [Hq.out]
        rintro e wa ⟨rfl, rfl⟩
        go_wp2_with fail
        refine (deCan_any q A c _ Hq.out hA).mono ?_
        rw [Hr.out]
        rintro e w2 ⟨rfl, hb2⟩
        go_wp2_with fail
        refine (deSum_any q A c _ Hq.out ((hA.below hb2 (Nat.le_refl _)).more hb2.size)).mono ?_
        rw [Hs.out]
        rintro e wc ⟨rfl, rfl⟩
        go_wp2
        go_ret2
        exact ⟨by first | rfl | simp, hb2⟩
    · have h1j : 1 < (q.length : Int) := by omega
      have h1k : ¬ (q.length : Int) < 2 := by omega
      rw [decide_eq_false (show ¬ q.length < 2 by omega), Bool.false_or]
      clear h1 h0 hpos
      cases r with
      | false =>
        cases z with
        | false =>
          go_enter Try.func84, Try.ntmps84
          go_wp2_with fail
          refine (deGood_any _ _ _ _ hl hA).mono ?_
          rw [Hq.out]
          rintro e wa ⟨rfl, rfl⟩
          go_wp2_with fail
          refine (deCan_any q A c _ Hq.out hA).mono ?_
          rw [Hr.out]
          rintro e w2 ⟨rfl, hb2⟩
          go_wp2
          go_ret2
          exact ⟨by first | rfl | simp, hb2⟩
        | true =>
          go_enter Try.func84, Try.ntmps84
          go_wp2_with fail
          refine (deGood_any _ _ _ _ hl hA).mono ?_
          rw [Hq.out]
          rintro e wa ⟨rfl, rfl⟩
          go_wp2_with fail
          refine (deCan_any q A c _ Hq.out hA).mono ?_
          rw [Hr.out]
          rintro e w2 ⟨rfl, hb2⟩
          go_wp2
          go_ret2
          exact ⟨by first | rfl | simp, hb2⟩
      | true =>
        cases z with
        | false =>
          go_enter Try.func84, Try.ntmps84
          go_wp2_with fail
          refine (deGood_any _ _ _ _ hl hA).mono ?_
          rw [Hq.out]
          rintro e wa ⟨rfl, rfl⟩
          go_wp2_with fail
          refine (deCan_any q A c _ Hq.out hA).mono ?_
          rw [Hr.out]
          rintro e w2 ⟨rfl, hb2⟩
          go_wp2_with fail
          refine (l1Has_any q 0 A c _ hl ((hA.below hb2 (Nat.le_refl _)).more hb2.size)).mono ?_
          rw [Hz.out]
          rintro e wb ⟨rfl, rfl⟩
          go_wp2_with fail
          refine (deSum_any q A c _ Hq.out ((hA.below hb2 (Nat.le_refl _)).more hb2.size)).mono ?_
          rw [Hs.out]
          rintro e wc ⟨rfl, rfl⟩
          go_wp2
          go_ret2
          exact ⟨by first | rfl | simp, hb2⟩
        | true =>
          go_enter Try.func84, Try.ntmps84
          go_wp2_with fail
          refine (deGood_any _ _ _ _ hl hA).mono ?_
          rw [Hq.out]
          rintro e wa ⟨rfl, rfl⟩
          go_wp2_with fail
          refine (deCan_any q A c _ Hq.out hA).mono ?_
          rw [Hr.out]
          rintro e w2 ⟨rfl, hb2⟩
          go_wp2_with fail
          refine (l1Has_any q 0 A c _ hl ((hA.below hb2 (Nat.le_refl _)).more hb2.size)).mono ?_
          rw [Hz.out]
          rintro e wb ⟨rfl, rfl⟩
          go_wp2
          go_ret2
          exact ⟨by first | rfl | simp, hb2⟩

set_option maxHeartbeats 4000000 in
set_option maxRecDepth 100000 in
theorem implHangTogether_any (q : List Int) (A : Option Addr) (c : Nat) (w : World) (hl : q.length ≤ 1048576) (hA : CRead w w.heap.size A (icells q)) :
    Calls Try.prog 85 #[.slice A q.length c] w fun e w' => e = .returned (.tuple #[.bool (resHangTogether q).1, .bool (resHangTogether q).2]) ∧ Below w.heap.size w w' := by
  cases hq : isNums q with
  | false =>
    have e : resHangTogether q = (false, false) := by simp [resHangTogether, hq]
    rw [e]
    have Hq := Lib.hid hq
    clear hq e
    go_enter Try.func85, Try.ntmps85
    go_wp2_with fail
    refine (isNumbers_any _ _ _ _ hl hA).mono ?_
    rw [Hq.out]
    rintro e w' ⟨rfl, rfl⟩
    go_wp2
    go_ret2
    exact ⟨rfl, Below.refl _ _⟩
  | true =>
    have hl12 := isNums_len hq
    have hs := sumI_bound hq
    by_cases h0 : q.length = 0
    · have hnil : q = [] := List.eq_nil_of_length_eq_zero h0
      subst hnil
      have e : resHangTogether [] = (false, false) := by simp [resHangTogether]
      rw [e]
      have Hq := Lib.hid hq
      clear hq e hs h0
      go_enter Try.func85, Try.ntmps85
      go_wp2_with fail
      refine (isNumbers_any _ _ _ _ hl hA).mono ?_
      rw [Hq.out]
      rintro e w' ⟨rfl, rfl⟩
      go_wp2
      go_ret2
      exact ⟨rfl, Below.refl _ _⟩
    obtain ⟨s, hse⟩ : ∃ s, sumI q = s := ⟨_, rfl⟩
    rw [hse] at hs
    obtain ⟨hs0, hs1⟩ := hs
    obtain ⟨z, hz⟩ : ∃ z, hasI q 0 = z := ⟨_, rfl⟩
    obtain ⟨r, hr⟩ : ∃ r, canI q = r := ⟨_, rfl⟩
    have hpos : 0 < q.length := by omega
    have e : resHangTogether q = (r && (decide (q.length < 2) || !z) && decide (2 * ((q.length : Int) - 1) ≤ s), true) := by unfold resHangTogether; rw [hq, hr, hz, hse, decide_eq_true hpos, Bool.true_and, if_pos rfl]
    rw [e]
    have Hq := Lib.hid hq
    have Hs := Lib.hid hse
    have Hz := Lib.hid hz
    have Hr := Lib.hid hr
    clear hq e hse hz hr
    have hne : ¬ (q.length : Int) = 0 := by omega
    have hge1 : ¬ (q.length : Int) < 1 := by omega
    by_cases h1 : q.length = 1
    · have h1j : ¬ (1 < (q.length : Int)) := by omega
      have h1k : (q.length : Int) < 2 := by omega
      rw [decide_eq_true (show q.length < 2 by omega), Bool.true_or, Bool.and_true]
      clear h1 h0 hpos
      cases r with
      | false =>
        go_enter Try.func85, Try.ntmps85
        go_wp2_with fail
        refine (isNumbers_any _ _ _ _ hl hA).mono ?_
        rw [Hq.out]
        rintro e wa ⟨rfl, rfl⟩
        go_wp2_with fail
        refine (canBe_any q A c _ Hq.out hA).mono ?_
        rw [Hr.out]
        rintro e w2 ⟨rfl, hb2⟩
        go_wp2
        go_ret2
        exact ⟨by first | rfl | simp, hb2⟩

      | true =>
        go_enter Try.func85, Try.ntmps85
        go_wp2_with fail
        refine (isNumbers_any _ _ _ _ hl hA).mono ?_
        rw [Hq.out]
        rintro e wa ⟨rfl, rfl⟩
        go_wp2_with fail
        refine (canBe_any q A c _ Hq.out hA).mono ?_
        rw [Hr.out]
        rintro e w2 ⟨rfl, hb2⟩
        go_wp2_with fail
        refine (sumOf_any q A c _ Hq.out ((hA.below hb2 (Nat.le_refl _)).more hb2.size)).mono ?_
        rw [Hs.out]
        rintro e wc ⟨rfl, rfl⟩
        go_wp2
        go_ret2
        exact ⟨by first | rfl | simp, hb2⟩
    · have h1j : 1 < (q.length : Int) := by omega
      have h1k : ¬ (q.length : Int) < 2 := by omega
      rw [decide_eq_false (show ¬ q.length < 2 by omega), Bool.false_or]
      clear h1 h0 hpos
      cases r with
      | false =>
        cases z with
        | false =>
          go_enter Try.func85, Try.ntmps85
          go_wp2_with fail
          refine (isNumbers_any _ _ _ _ hl hA).mono ?_
          rw [Hq.out]
          rintro e wa ⟨rfl, rfl⟩
          go_wp2_with fail
          refine (containsI_any q 0 A c _ hl hA).mono ?_
          rw [Hz.out]
          rintro e wb ⟨rfl, rfl⟩
          go_wp2_with fail
          refine (canBe_any q A c _ Hq.out hA).mono ?_
          rw [Hr.out]
          rintro e w2 ⟨rfl, hb2⟩
          go_wp2
          go_ret2
          exact ⟨by first | rfl | simp, hb2⟩
        | true =>
          go_enter Try.func85, Try.ntmps85
          go_wp2_with fail
          refine (isNumbers_any _ _ _ _ hl hA).mono ?_
          rw [Hq.out]
          rintro e wa ⟨rfl, rfl⟩
          go_wp2_with fail
          refine (containsI_any q 0 A c _ hl hA).mono ?_
          rw [Hz.out]
          rintro e wb ⟨rfl, rfl⟩
          go_wp2_with fail
          refine (canBe_any q A c _ Hq.out hA).mono ?_
          rw [Hr.out]
          rintro e w2 ⟨rfl, hb2⟩
          go_wp2
          go_ret2
          exact ⟨by first | rfl | simp, hb2⟩
      | true =>
        cases z with
        | false =>
          go_enter Try.func85, Try.ntmps85
          go_wp2_with fail
          refine (isNumbers_any _ _ _ _ hl hA).mono ?_
          rw [Hq.out]
          rintro e wa ⟨rfl, rfl⟩
          go_wp2_with fail
          refine (containsI_any q 0 A c _ hl hA).mono ?_
          rw [Hz.out]
          rintro e wb ⟨rfl, rfl⟩
          go_wp2_with fail
          refine (canBe_any q A c _ Hq.out hA).mono ?_
          rw [Hr.out]
          rintro e w2 ⟨rfl, hb2⟩
          go_wp2_with fail
          refine (sumOf_any q A c _ Hq.out ((hA.below hb2 (Nat.le_refl _)).more hb2.size)).mono ?_
          rw [Hs.out]
          rintro e wc ⟨rfl, rfl⟩
          go_wp2
          go_ret2
          exact ⟨by first | rfl | simp, hb2⟩
        | true =>
          go_enter Try.func85, Try.ntmps85
          go_wp2_with fail
          refine (isNumbers_any _ _ _ _ hl hA).mono ?_
          rw [Hq.out]
          rintro e wa ⟨rfl, rfl⟩
          go_wp2_with fail
          refine (containsI_any q 0 A c _ hl hA).mono ?_
          rw [Hz.out]
          rintro e wb ⟨rfl, rfl⟩
          go_wp2_with fail
          refine (canBe_any q A c _ Hq.out hA).mono ?_
          rw [Hr.out]
          rintro e w2 ⟨rfl, hb2⟩
          go_wp2
          go_ret2
          exact ⟨by first | rfl | simp, hb2⟩
end Go.Proofs.Ytkonibmmdinmbaa
