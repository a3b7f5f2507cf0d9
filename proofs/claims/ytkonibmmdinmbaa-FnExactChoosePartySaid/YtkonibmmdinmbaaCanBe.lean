/-
  'CanBe', 'FailsAt', 'HangTogether': the model's and the program's, by their contracts.
-/
import Derived.Test.YtkonibmmdinmbaaFails
namespace Go.Proofs.Ytkonibmmdinmbaa
open Go.RowKit

theorem sumI_bound {q : List Int} (h : isNums q = true) : 0 ≤ sumI q ∧ sumI q ≤ 144 := by
  have hl := isNums_len h
  have hall : ∀ x ∈ q, 0 ≤ x ∧ x ≤ 12 := fun x hx => by have := isNums_mem h x hx; omega
  have h1 := sumI_take_bound (q := q) (m := 12) (by omega) hall q.length
  rw [List.take_length] at h1
  omega

set_option maxHeartbeats 1000000 in
theorem deCan_any (q : List Int) (A : Option Addr) (c : Nat) (w : World) (hq : isNums q = true) (hA : CRead w w.heap.size A (icells q)) :
    Calls Try.prog 120 #[.slice A q.length c] w fun e w' => e = .returned (.bool (canI q)) ∧ Below w.heap.size w w' := by
  have hs := sumI_bound hq
  have Hq := Lib.hid hq
  clear hq
  obtain ⟨s, hse⟩ : ∃ s, sumI q = s := ⟨_, rfl⟩
  rw [hse] at hs
  obtain ⟨hs0, hs1⟩ := hs
  obtain ⟨f, hfe⟩ : ∃ f, failsI (fall q) = f := ⟨_, rfl⟩
  have Hs := Lib.hid hse
  have Hf := Lib.hid hfe
  clear hse hfe
  by_cases hev : s % 2 = 0
  · have e : canI q = decide (f = 0) := by unfold canI; rw [Hs.out, Hf.out, decide_eq_true hev, Bool.true_and]
    rw [e]
    clear e
    go_enter Try.func120, Try.ntmps120
    go_wp2_with fail
    refine (deSum_any q A c _ Hq.out hA).mono ?_
    rw [Hs.out]
    rintro e w' ⟨rfl, rfl⟩
    go_wp2_with fail
    refine (deFails_any q A c _ Hq.out hA).mono ?_
    rw [Hf.out]
    rintro e w2 ⟨rfl, hb2⟩
    go_wp2
    go_ret
    exact ⟨by first | rfl | simp, hb2⟩
  · have e : canI q = false := by unfold canI; rw [Hs.out, decide_eq_false hev, Bool.false_and]
    rw [e]
    clear e
    go_enter Try.func120, Try.ntmps120
    go_wp2_with fail
    refine (deSum_any q A c _ Hq.out hA).mono ?_
    rw [Hs.out]
    rintro e w' ⟨rfl, rfl⟩
    go_wp2
    go_ret
    exact ⟨by first | rfl | simp, Below.refl _ _⟩

set_option maxHeartbeats 1000000 in
theorem canBe_any (q : List Int) (A : Option Addr) (c : Nat) (w : World) (hq : isNums q = true) (hA : CRead w w.heap.size A (icells q)) :
    Calls Try.prog 121 #[.slice A q.length c] w fun e w' => e = .returned (.bool (canI q)) ∧ Below w.heap.size w w' := by
  have hs := sumI_bound hq
  have Hq := Lib.hid hq
  clear hq
  obtain ⟨s, hse⟩ : ∃ s, sumI q = s := ⟨_, rfl⟩
  rw [hse] at hs
  obtain ⟨hs0, hs1⟩ := hs
  obtain ⟨f, hfe⟩ : ∃ f, failsI (fall q) = f := ⟨_, rfl⟩
  have Hs := Lib.hid hse
  have Hf := Lib.hid hfe
  clear hse hfe
  by_cases hev : s % 2 = 0
  · have e : canI q = decide (f = 0) := by unfold canI; rw [Hs.out, Hf.out, decide_eq_true hev, Bool.true_and]
    rw [e]
    clear e
    go_enter Try.func121, Try.ntmps121
    go_wp2_with fail
    refine (sumOf_any q A c _ Hq.out hA).mono ?_
    rw [Hs.out]
    rintro e w' ⟨rfl, rfl⟩
    go_wp2_with fail
    refine (firstTooGreat_any q A c _ Hq.out hA).mono ?_
    rw [Hf.out]
    rintro e w2 ⟨rfl, hb2⟩
    go_wp2
    go_ret
    exact ⟨by first | rfl | simp, hb2⟩
  · have e : canI q = false := by unfold canI; rw [Hs.out, decide_eq_false hev, Bool.false_and]
    rw [e]
    clear e
    go_enter Try.func121, Try.ntmps121
    go_wp2_with fail
    refine (sumOf_any q A c _ Hq.out hA).mono ?_
    rw [Hs.out]
    rintro e w' ⟨rfl, rfl⟩
    go_wp2
    go_ret
    exact ⟨by first | rfl | simp, Below.refl _ _⟩

def resCanBe (q : List Int) : Bool × Bool := if isNums q then (canI q, true) else (false, false)
set_option maxHeartbeats 1000000 in
theorem specCanBe_any (q : List Int) (A : Option Addr) (c : Nat) (w : World) (hl : q.length ≤ 1048576) (hA : CRead w w.heap.size A (icells q)) :
    Calls Try.prog 56 #[.slice A q.length c] w fun e w' => e = .returned (.tuple #[.bool (resCanBe q).1, .bool (resCanBe q).2]) ∧ Below w.heap.size w w' := by
  cases hq : isNums q with
  | false =>
    have e : resCanBe q = (false, false) := by simp [resCanBe, hq]
    rw [e]
    have Hq := Lib.hid hq
    clear hq e
    go_enter Try.func56, Try.ntmps56
    go_wp2_with fail
    refine (deGood_any _ _ _ _ hl hA).mono ?_
    rw [Hq.out]
    rintro e w' ⟨rfl, rfl⟩
    go_wp2
    go_ret2
    exact ⟨rfl, Below.refl _ _⟩
  | true =>
    obtain ⟨r, hr⟩ : ∃ r, canI q = r := ⟨_, rfl⟩
    have e : resCanBe q = (r, true) := by simp [resCanBe, hq, hr]
    rw [e]
    have Hq := Lib.hid hq
    have Hr := Lib.hid hr
    clear hq e hr
    go_enter Try.func56, Try.ntmps56
    go_wp2_with fail
    refine (deGood_any _ _ _ _ hl hA).mono ?_
    rw [Hq.out]
    rintro e w' ⟨rfl, rfl⟩
    go_wp2_with fail
    refine (deCan_any q A c _ Hq.out hA).mono ?_
    rw [Hr.out]
    rintro e w2 ⟨rfl, hb2⟩
    go_wp2
    go_ret2
    exact ⟨rfl, hb2⟩
set_option maxHeartbeats 1000000 in
theorem implCanBe_any (q : List Int) (A : Option Addr) (c : Nat) (w : World) (hl : q.length ≤ 1048576) (hA : CRead w w.heap.size A (icells q)) :
    Calls Try.prog 57 #[.slice A q.length c] w fun e w' => e = .returned (.tuple #[.bool (resCanBe q).1, .bool (resCanBe q).2]) ∧ Below w.heap.size w w' := by
  cases hq : isNums q with
  | false =>
    have e : resCanBe q = (false, false) := by simp [resCanBe, hq]
    rw [e]
    have Hq := Lib.hid hq
    clear hq e
    go_enter Try.func57, Try.ntmps57
    go_wp2_with fail
    refine (isNumbers_any _ _ _ _ hl hA).mono ?_
    rw [Hq.out]
    rintro e w' ⟨rfl, rfl⟩
    go_wp2
    go_ret2
    exact ⟨rfl, Below.refl _ _⟩
  | true =>
    obtain ⟨r, hr⟩ : ∃ r, canI q = r := ⟨_, rfl⟩
    have e : resCanBe q = (r, true) := by simp [resCanBe, hq, hr]
    rw [e]
    have Hq := Lib.hid hq
    have Hr := Lib.hid hr
    clear hq e hr
    go_enter Try.func57, Try.ntmps57
    go_wp2_with fail
    refine (isNumbers_any _ _ _ _ hl hA).mono ?_
    rw [Hq.out]
    rintro e w' ⟨rfl, rfl⟩
    go_wp2_with fail
    refine (canBe_any q A c _ Hq.out hA).mono ?_
    rw [Hr.out]
    rintro e w2 ⟨rfl, hb2⟩
    go_wp2
    go_ret2
    exact ⟨rfl, hb2⟩

/-! ## FailsAt -/
def resFailsAt (q : List Int) : Int × Bool := if isNums q then (failsI (fall q), decide (0 < failsI (fall q))) else (0, false)
set_option maxHeartbeats 1000000 in
theorem specFailsAt_any (q : List Int) (A : Option Addr) (c : Nat) (w : World) (hl : q.length ≤ 1048576) (hA : CRead w w.heap.size A (icells q)) :
    Calls Try.prog 58 #[.slice A q.length c] w fun e w' => e = .returned (.tuple #[.int .i64 (resFailsAt q).1, .bool (resFailsAt q).2]) ∧ Below w.heap.size w w' := by
  cases hq : isNums q with
  | false =>
    have e : resFailsAt q = (0, false) := by simp [resFailsAt, hq]
    rw [e]
    have Hq := Lib.hid hq
    clear hq e
    go_enter Try.func58, Try.ntmps58
    go_wp2_with fail
    refine (deGood_any _ _ _ _ hl hA).mono ?_
    rw [Hq.out]
    rintro e w' ⟨rfl, rfl⟩
    go_wp2
    go_ret2
    exact ⟨rfl, Below.refl _ _⟩
  | true =>
    obtain ⟨f, hf⟩ : ∃ f, failsI (fall q) = f := ⟨_, rfl⟩
    have hr := failsI_range (fall q)
    rw [hf] at hr
    have Hq := Lib.hid hq
    have Hf := Lib.hid hf
    by_cases h0 : f = 0
    · have e : resFailsAt q = (0, false) := by simp [resFailsAt, hf, h0]
      rw [e]
      subst h0
      clear hq e hf hr
      go_enter Try.func58, Try.ntmps58
      go_wp2_with fail
      refine (deGood_any _ _ _ _ hl hA).mono ?_
      rw [Hq.out]
      rintro e w' ⟨rfl, rfl⟩
      go_wp2_with fail
      refine (deFails_any q A c _ Hq.out hA).mono ?_
      rw [Hf.out]
      rintro e w2 ⟨rfl, hb2⟩
      go_wp2
      go_ret2
      exact ⟨rfl, hb2⟩
    · have h1 : 0 < f := by omega
      have e : resFailsAt q = (f, true) := by simp [resFailsAt, hq, hf, h1]
      rw [e]
      clear hq e hf hr
      go_enter Try.func58, Try.ntmps58
      go_wp2_with fail
      refine (deGood_any _ _ _ _ hl hA).mono ?_
      rw [Hq.out]
      rintro e w' ⟨rfl, rfl⟩
      go_wp2_with fail
      refine (deFails_any q A c _ Hq.out hA).mono ?_
      rw [Hf.out]
      rintro e w2 ⟨rfl, hb2⟩
      go_wp2_with fail
      refine (deFails_any q A c _ Hq.out ((hA.below hb2 (Nat.le_refl _)).more hb2.size)).mono ?_
      rw [Hf.out]
      rintro e w3 ⟨rfl, hb3⟩
      go_wp2
      go_ret2
      exact ⟨rfl, hb2.trans (hb3.mono hb2.size)⟩
set_option maxHeartbeats 1000000 in
theorem implFailsAt_any (q : List Int) (A : Option Addr) (c : Nat) (w : World) (hl : q.length ≤ 1048576) (hA : CRead w w.heap.size A (icells q)) :
    Calls Try.prog 59 #[.slice A q.length c] w fun e w' => e = .returned (.tuple #[.int .i64 (resFailsAt q).1, .bool (resFailsAt q).2]) ∧ Below w.heap.size w w' := by
  cases hq : isNums q with
  | false =>
    have e : resFailsAt q = (0, false) := by simp [resFailsAt, hq]
    rw [e]
    have Hq := Lib.hid hq
    clear hq e
    go_enter Try.func59, Try.ntmps59
    go_wp2_with fail
    refine (isNumbers_any _ _ _ _ hl hA).mono ?_
    rw [Hq.out]
    rintro e w' ⟨rfl, rfl⟩
    go_wp2
    go_ret2
    exact ⟨rfl, Below.refl _ _⟩
  | true =>
    obtain ⟨f, hf⟩ : ∃ f, failsI (fall q) = f := ⟨_, rfl⟩
    have e : resFailsAt q = (f, decide (0 < f)) := by simp [resFailsAt, hq, hf]
    rw [e]
    have Hq := Lib.hid hq
    have Hf := Lib.hid hf
    clear hq e hf
    go_enter Try.func59, Try.ntmps59
    go_wp2_with fail
    refine (isNumbers_any _ _ _ _ hl hA).mono ?_
    rw [Hq.out]
    rintro e w' ⟨rfl, rfl⟩
    go_wp2_with fail
    refine (firstTooGreat_any q A c _ Hq.out hA).mono ?_
    rw [Hf.out]
    rintro e w2 ⟨rfl, hb2⟩
    go_wp2
    go_ret2
    exact ⟨by first | rfl | simp, hb2⟩
end Go.Proofs.Ytkonibmmdinmbaa
