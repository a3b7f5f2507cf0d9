/-
  'GroupBound', 'LeastMustHave', 'LeastOneKind': the model's and the program's, by their contracts.
-/
import Derived.Test.YtaemodpolopcfaaWays
namespace Go.Proofs.Ytaemodpolopcfaa
open Go.RowKit

def kindsI (r s : Int) : Bool := decide (1 ≤ r ∧ r ≤ 4) && decide (1 ≤ s ∧ s ≤ 4)
theorem kindsI_yes {r s : Int} (h : kindsI r s = true) : (1 ≤ r ∧ r ≤ 4) ∧ (1 ≤ s ∧ s ≤ 4) := by simpa [kindsI] using h
set_option maxHeartbeats 1000000 in
theorem areWanted_any (r s : Int) (w : World) : Calls Try.prog 81 #[.int .i64 r, .int .i64 s] w fun e w' => e = .returned (.bool (kindsI r s)) ∧ w = w' := by
  by_cases h1 : 1 ≤ r
  · by_cases h2 : r ≤ 4
    · by_cases h3 : 1 ≤ s
      · by_cases h4 : s ≤ 4
        · have e : kindsI r s = true := by simp [kindsI, h1, h2, h3, h4]
          rw [e]
          clear e
          go_enter Try.func81, Try.ntmps81
          go_wp2
          go_ret
          exact ⟨rfl, rfl⟩
        · have e : kindsI r s = false := by simp [kindsI, h4]
          rw [e]
          clear e
          go_enter Try.func81, Try.ntmps81
          go_wp2
          go_ret
          exact ⟨rfl, rfl⟩
      · have e : kindsI r s = false := by simp [kindsI, h3]
        rw [e]
        clear e
        go_enter Try.func81, Try.ntmps81
        go_wp2
        go_ret
        exact ⟨rfl, rfl⟩
    · have e : kindsI r s = false := by simp [kindsI, h2]
      rw [e]
      clear e
      go_enter Try.func81, Try.ntmps81
      go_wp2
      go_ret
      exact ⟨rfl, rfl⟩
  · have e : kindsI r s = false := by simp [kindsI, h1]
    rw [e]
    clear e
    go_enter Try.func81, Try.ntmps81
    go_wp2
    go_ret
    exact ⟨rfl, rfl⟩
set_option maxHeartbeats 1000000 in
theorem trKinds_any (r s : Int) (w : World) : Calls Try.prog 80 #[.int .i64 r, .int .i64 s] w fun e w' => e = .returned (.bool (kindsI r s)) ∧ w = w' := by
  by_cases h1 : 1 ≤ r ∧ r ≤ 4
  · by_cases h2 : 1 ≤ s ∧ s ≤ 4
    · have e : kindsI r s = true := by simp [kindsI, h1, h2]
      rw [e]
      clear e
      go_enter Try.func80, Try.ntmps80
      go_wp2_with fail
      refine (l1In_yes r 1 4 h1.1 h1.2 _).mono ?_
      rintro e w' ⟨rfl, rfl⟩
      go_wp2_with fail
      refine (l1In_yes s 1 4 h2.1 h2.2 _).mono ?_
      rintro e w' ⟨rfl, rfl⟩
      go_wp2
      go_ret
      exact ⟨rfl, rfl⟩
    · have e : kindsI r s = false := by simp [kindsI, h2]
      rw [e]
      clear e
      go_enter Try.func80, Try.ntmps80
      go_wp2_with fail
      refine (l1In_yes r 1 4 h1.1 h1.2 _).mono ?_
      rintro e w' ⟨rfl, rfl⟩
      go_wp2_with fail
      refine (l1In_no s 1 4 (by omega) _).mono ?_
      rintro e w' ⟨rfl, rfl⟩
      go_wp2
      go_ret
      exact ⟨rfl, rfl⟩
  · have e : kindsI r s = false := by simp [kindsI, h1]
    rw [e]
    clear e
    go_enter Try.func80, Try.ntmps80
    go_wp2_with fail
    refine (l1In_no r 1 4 (by omega) _).mono ?_
    rintro e w' ⟨rfl, rfl⟩
    go_wp2
    go_ret
    exact ⟨rfl, rfl⟩

/-! ## GroupBound -/
def resGroupBound (r s : Int) : Int × Bool := if kindsI r s then (waysI (r + s - 2) (r - 1).toNat, true) else (0, false)
set_option maxHeartbeats 1000000 in
theorem specGroupBound_any (r s : Int) (w : World) : Calls Try.prog 42 #[.int .i64 r, .int .i64 s] w fun e w' => e = .returned (.tuple #[.int .i64 (resGroupBound r s).1, .bool (resGroupBound r s).2]) ∧ Below w.heap.size w w' := by
  cases h : kindsI r s with
  | false =>
    have e : resGroupBound r s = (0, false) := by simp [resGroupBound, h]
    rw [e]
    have H := Lib.hid h
    clear h e
    go_enter Try.func42, Try.ntmps42
    go_wp2_with fail
    refine (trKinds_any _ _ _).mono ?_
    rw [H.out]
    rintro e w' ⟨rfl, rfl⟩
    go_wp2
    go_ret2
    exact ⟨rfl, Below.refl _ _⟩
  | true =>
    obtain ⟨h1, h2⟩ := kindsI_yes h
    obtain ⟨k, hk⟩ : ∃ k : Nat, r = (k : Int) + 1 := ⟨(r - 1).toNat, by omega⟩
    have e : resGroupBound r s = (waysI (r + s - 2) k, true) := by unfold resGroupBound; rw [h, if_pos rfl, show (r - 1).toNat = k from by omega]
    rw [e]
    have H := Lib.hid h
    clear h e
    subst hk
    have hks : InWays ((k : Int) + 1 + s - 2) k := .inl (by omega)
    have e1 : (k : Int) + 1 - 1 = k := by omega
    go_enter Try.func42, Try.ntmps42
    go_wp2_with fail
    refine (trKinds_any _ _ _).mono ?_
    rw [H.out]
    rintro e w' ⟨rfl, rfl⟩
    go_wp2_with fail
    refine (trChoose_any ((k : Int) + 1 + s - 2) k _ hks).mono ?_
    rintro e w' ⟨rfl, rfl⟩
    go_wp2
    go_ret2
    exact ⟨rfl, Below.refl _ _⟩
set_option maxHeartbeats 1000000 in
theorem implGroupBound_any (r s : Int) (w : World) : Calls Try.prog 43 #[.int .i64 r, .int .i64 s] w fun e w' => e = .returned (.tuple #[.int .i64 (resGroupBound r s).1, .bool (resGroupBound r s).2]) ∧ Below w.heap.size w w' := by
  cases h : kindsI r s with
  | false =>
    have e : resGroupBound r s = (0, false) := by simp [resGroupBound, h]
    rw [e]
    have H := Lib.hid h
    clear h e
    go_enter Try.func43, Try.ntmps43
    go_wp2_with fail
    refine (areWanted_any _ _ _).mono ?_
    rw [H.out]
    rintro e w' ⟨rfl, rfl⟩
    go_wp2
    go_ret2
    exact ⟨rfl, Below.refl _ _⟩
  | true =>
    obtain ⟨h1, h2⟩ := kindsI_yes h
    obtain ⟨k, hk⟩ : ∃ k : Nat, r = (k : Int) + 1 := ⟨(r - 1).toNat, by omega⟩
    have e : resGroupBound r s = (waysI (r + s - 2) k, true) := by unfold resGroupBound; rw [h, if_pos rfl, show (r - 1).toNat = k from by omega]
    rw [e]
    have H := Lib.hid h
    clear h e
    subst hk
    have hks : InWays ((k : Int) + 1 + s - 2) k := .inl (by omega)
    have e1 : (k : Int) + 1 - 1 = k := by omega
    go_enter Try.func43, Try.ntmps43
    go_wp2_with fail
    refine (areWanted_any _ _ _).mono ?_
    rw [H.out]
    rintro e w' ⟨rfl, rfl⟩
    go_wp2_with fail
    refine (waysToChoose_any ((k : Int) + 1 + s - 2) k _ hks).mono ?_
    rintro e w' ⟨rfl, rfl⟩
    go_wp2
    go_ret2
    exact ⟨rfl, Below.refl _ _⟩

/-! ## LeastMustHave -/
def resLeastMustHave (r s : Int) : Int × Bool :=
  if kindsI r s && decide (r + s ≤ 7) then (if min r s = 1 then 1 else if min r s = 2 then max r s else if max r s = 3 then 6 else 9, true) else (0, false)
theorem four_cases {r : Int} (h : 1 ≤ r ∧ r ≤ 4) : r = 1 ∨ r = 2 ∨ r = 3 ∨ r = 4 := by omega
set_option maxHeartbeats 4000000 in
theorem specLeastMustHave_any (r s : Int) (w : World) : Calls Try.prog 38 #[.int .i64 r, .int .i64 s] w fun e w' => e = .returned (.tuple #[.int .i64 (resLeastMustHave r s).1, .bool (resLeastMustHave r s).2]) ∧ Below w.heap.size w w' := by
  cases h : kindsI r s with
  | false =>
    have e : resLeastMustHave r s = (0, false) := by simp [resLeastMustHave, h]
    rw [e]
    have H := Lib.hid h
    clear h e
    go_enter Try.func38, Try.ntmps38
    go_wp2_with fail
    refine (trKinds_any _ _ _).mono ?_
    rw [H.out]
    rintro e w' ⟨rfl, rfl⟩
    go_wp2
    go_ret2
    exact ⟨rfl, Below.refl _ _⟩
  | true =>
    obtain ⟨h1, h2⟩ := kindsI_yes h
    have H := Lib.hid h
    clear h
    rcases four_cases h1 with rfl | rfl | rfl | rfl <;> rcases four_cases h2 with rfl | rfl | rfl | rfl <;>
    · go_enter Try.func38, Try.ntmps38
      go_wp2_with fail
      refine (trKinds_any _ _ _).mono ?_
      rw [H.out]
      rintro e w' ⟨rfl, rfl⟩
      go_wp2
      go_ret2
      exact ⟨rfl, Below.refl _ _⟩
set_option maxHeartbeats 4000000 in
theorem implLeastMustHave_any (r s : Int) (w : World) : Calls Try.prog 39 #[.int .i64 r, .int .i64 s] w fun e w' => e = .returned (.tuple #[.int .i64 (resLeastMustHave r s).1, .bool (resLeastMustHave r s).2]) ∧ Below w.heap.size w w' := by
  cases h : kindsI r s with
  | false =>
    have e : resLeastMustHave r s = (0, false) := by simp [resLeastMustHave, h]
    rw [e]
    have H := Lib.hid h
    clear h e
    go_enter Try.func39, Try.ntmps39
    go_wp2_with fail
    refine (areWanted_any _ _ _).mono ?_
    rw [H.out]
    rintro e w' ⟨rfl, rfl⟩
    go_wp2
    go_ret2
    exact ⟨rfl, Below.refl _ _⟩
  | true =>
    obtain ⟨h1, h2⟩ := kindsI_yes h
    have H := Lib.hid h
    clear h
    rcases four_cases h1 with rfl | rfl | rfl | rfl <;> rcases four_cases h2 with rfl | rfl | rfl | rfl <;>
    · go_enter Try.func39, Try.ntmps39
      go_wp2_with fail
      refine (areWanted_any _ _ _).mono ?_
      rw [H.out]
      rintro e w' ⟨rfl, rfl⟩
      go_wp2
      go_ret2
      exact ⟨rfl, Below.refl _ _⟩

/-! ## LeastOneKind -/
def resLeastOneKind (n : Int) : Int × Bool := if 0 ≤ n ∧ n ≤ 12 then (waysI n 3 - (n * ((n - 1) * (n - 1)).tdiv 4).tdiv 2, true) else (0, false)
theorem thirteen {n : Int} (h : 0 ≤ n ∧ n ≤ 12) : n = 0 ∨ n = 1 ∨ n = 2 ∨ n = 3 ∨ n = 4 ∨ n = 5 ∨ n = 6 ∨ n = 7 ∨ n = 8 ∨ n = 9 ∨ n = 10 ∨ n = 11 ∨ n = 12 := by omega
set_option maxHeartbeats 4000000 in
theorem specLeastOneKind_any (n : Int) (w : World) : Calls Try.prog 34 #[.int .i64 n] w fun e w' => e = .returned (.tuple #[.int .i64 (resLeastOneKind n).1, .bool (resLeastOneKind n).2]) ∧ Below w.heap.size w w' := by
  by_cases h : 0 ≤ n ∧ n ≤ 12
  · rcases thirteen h with rfl | rfl | rfl | rfl | rfl | rfl | rfl | rfl | rfl | rfl | rfl | rfl | rfl <;>
    · go_enter Try.func34, Try.ntmps34
      go_wp2_with fail
      refine (paPeople_yes _ (by decide) (by decide) _).mono ?_
      rintro e w' ⟨rfl, rfl⟩
      go_wp2_with (go_at_call 76; refine (trChoose_any _ 3 _ (.inl (by decide))).mono ?_; rintro e w' ⟨rfl, rfl⟩)
      go_ret2
      exact ⟨by first | rfl | kernel_rfl, Below.refl _ _⟩
  · have e : resLeastOneKind n = (0, false) := by simp only [resLeastOneKind, if_neg h]
    rw [e]
    go_enter Try.func34, Try.ntmps34
    go_wp2_with fail
    refine (paPeople_no n (by omega) _).mono ?_
    rintro e w' ⟨rfl, rfl⟩
    go_wp2
    go_ret2
    exact ⟨rfl, Below.refl _ _⟩
set_option maxHeartbeats 4000000 in
theorem implLeastOneKind_any (n : Int) (w : World) : Calls Try.prog 35 #[.int .i64 n] w fun e w' => e = .returned (.tuple #[.int .i64 (resLeastOneKind n).1, .bool (resLeastOneKind n).2]) ∧ Below w.heap.size w w' := by
  by_cases h : 0 ≤ n ∧ n ≤ 12
  · rcases thirteen h with rfl | rfl | rfl | rfl | rfl | rfl | rfl | rfl | rfl | rfl | rfl | rfl | rfl <;>
    · go_enter Try.func35, Try.ntmps35
      go_wp2_with (go_at_call 78; refine (waysToChoose_any _ 3 _ (.inl (by decide))).mono ?_; rintro e w' ⟨rfl, rfl⟩)
      go_ret2
      exact ⟨by first | rfl | kernel_rfl, Below.refl _ _⟩
  · have e : resLeastOneKind n = (0, false) := by simp only [resLeastOneKind, if_neg h]
    rw [e]
    by_cases h0 : n < 0
    · go_enter Try.func35, Try.ntmps35
      go_wp2
      go_ret2
      exact ⟨by first | rfl | kernel_rfl, Below.refl _ _⟩
    · have h1 : 12 < n := by omega
      go_enter Try.func35, Try.ntmps35
      go_wp2
      go_ret2
      exact ⟨by first | rfl | kernel_rfl, Below.refl _ _⟩
end Go.Proofs.Ytaemodpolopcfaa
