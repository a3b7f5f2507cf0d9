/-
  NUMBERS OF FRIENDS: what they are, by the model's and the program's contracts.
-/
import Derived.Test.YtaemodpolopcfaaTab
import Derived.Test.YtaemodpolopcfaaNums
namespace Go.Proofs.Ytaemodpolopcfaa
open Go.RowKit

def l1AllB (q : List Int) (lo hi : Int) : Bool := q.all fun x => decide (lo ≤ x ∧ x ≤ hi)
theorem l1AllB_yes {q : List Int} {lo hi : Int} (h : ∀ (j : Nat) (x : Int), j < q.length → q[j]? = some x → lo ≤ x ∧ x ≤ hi) : l1AllB q lo hi = true := by
  simp only [l1AllB, List.all_eq_true, decide_eq_true_eq]
  intro x hx
  obtain ⟨i, hi, rfl⟩ := List.getElem_of_mem hx
  exact h i _ hi (List.getElem?_eq_getElem hi)
theorem l1AllB_no {q : List Int} {lo hi : Int} {k : Nat} {x : Int} (hx : q[k]? = some x) (h : ¬ (lo ≤ x ∧ x ≤ hi)) : l1AllB q lo hi = false := by
  cases he : l1AllB q lo hi with
  | false => rfl
  | true =>
    simp only [l1AllB, List.all_eq_true, decide_eq_true_eq] at he
    exact absurd (he x (List.mem_of_getElem? hx)) h

set_option maxHeartbeats 1000000 in
theorem l1All_any (q : List Int) (A : Option Addr) (c : Nat) (lo hi : Int) (w : World) (hl : q.length ≤ 1048576) (hA : CRead w w.heap.size A (icells q)) :
    Calls Try.prog 46 #[.slice A q.length c, .int .i64 lo, .int .i64 hi] w fun e w' => e = .returned (.bool (l1AllB q lo hi)) ∧ w = w' := by
  go_enter Try.func46, Try.ntmps46
  go_wp2
  go_loop [11] (fun i => ∃ k : Nat, k ≤ q.length ∧ i = .int .i64 k ∧ ∀ (j : Nat) (x : Int), j < k → q[j]? = some x → lo ≤ x ∧ x ≤ hi) (fun i => q.length - (intOf i).toNat)
  case atStart => exact ⟨0, Nat.zero_le _, rfl, fun j x hj => by omega⟩
  case round =>
    obtain ⟨k, hk, rfl, hg⟩ := hrel
    have Hg := Lib.hid hg
    clear hg
    by_cases hlt : k < q.length
    · obtain ⟨x, hx⟩ := getSome q k hlt
      obtain ⟨b, off, rfl, hbb, c0⟩ := hA.int hx
      have hki : (k : Int) < (q.length : Int) := by omega
      have Hx := Lib.hid hx
      clear hx
      by_cases hin : lo ≤ x ∧ x ≤ hi
      · go_wp2_with (go_at_call 85; refine (l1In_yes _ _ _ hin.1 hin.2 _).mono ?_; rintro e w' ⟨rfl, rfl⟩)
        go_round
        case rel =>
          refine ⟨k + 1, by omega, by go_num, fun j y hj hy => ?_⟩
          by_cases hjk : j = k
          · subst hjk
            rw [Hx.out] at hy
            simp only [Option.some.injEq] at hy
            subst hy
            exact hin
          · exact Hg.out j y (by omega) hy
        case measure => simp [intOf]; omega
      · have e : l1AllB q lo hi = false := l1AllB_no Hx.out hin
        have He := Lib.hid e
        clear e
        go_wp2_with (go_at_call 85; refine (l1In_no _ _ _ (by omega) _).mono ?_; rintro e w' ⟨rfl, rfl⟩)
        go_ret
        exact ⟨by rw [He.out]; rfl, rfl⟩
    · have hkl : k = q.length := by omega
      have e : l1AllB q lo hi = true := l1AllB_yes fun j x hj hx => Hg.out j x (by omega) hx
      have He := Lib.hid e
      clear e
      have hge : ¬ ((k : Int) < (q.length : Int)) := by omega
      go_wp2
      go_ret
      exact ⟨by rw [He.out]; rfl, rfl⟩

theorem isNums_all {q : List Int} (h : q.length ≤ 12) : l1AllB q 0 ((q.length : Int) - 1) = isNums q := by
  unfold l1AllB isNums
  rw [decide_eq_true h, Bool.true_and]
  congr 1
  funext x
  congr 1
  apply propext
  omega

set_option maxHeartbeats 1000000 in
theorem deGood_any (q : List Int) (A : Option Addr) (c : Nat) (w : World) (hl : q.length ≤ 1048576) (hA : CRead w w.heap.size A (icells q)) :
    Calls Try.prog 66 #[.slice A q.length c] w fun e w' => e = .returned (.bool (isNums q)) ∧ w = w' := by
  by_cases h : q.length ≤ 12
  · have e := isNums_all h
    have He := Lib.hid e
    clear e
    have hi : (q.length : Int) ≤ 12 := by omega
    go_enter Try.func66, Try.ntmps66
    go_wp2_with fail
    refine (l1All_any _ _ _ _ _ _ hl hA).mono ?_
    rw [He.out]
    rintro e w' ⟨rfl, rfl⟩
    go_wp2
    go_ret
    exact ⟨rfl, rfl⟩
  · rw [isNums_many (by omega)]
    have hi : ¬ (q.length : Int) ≤ 12 := by omega
    go_enter Try.func66, Try.ntmps66
    go_wp2
    go_ret
    exact ⟨rfl, rfl⟩

def resIsNumbers (q : List Int) : Bool := isNums q
set_option maxHeartbeats 1000000 in
theorem isNumbers_any (q : List Int) (A : Option Addr) (c : Nat) (w : World) (hl : q.length ≤ 1048576) (hA : CRead w w.heap.size A (icells q)) :
    Calls Try.prog 71 #[.slice A q.length c] w fun e w' => e = .returned (.bool (isNums q)) ∧ w = w' := by
  by_cases h : q.length ≤ 12
  · have hi : ¬ (12 < (q.length : Int)) := by omega
    go_enter Try.func71, Try.ntmps71
    go_wp2
    go_loop [10] (fun i => ∃ k : Nat, k ≤ q.length ∧ i = .int .i64 k ∧ ∀ (j : Nat) (x : Int), j < k → q[j]? = some x → 0 ≤ x ∧ x < q.length) (fun i => q.length - (intOf i).toNat)
    case atStart => exact ⟨0, Nat.zero_le _, rfl, fun j x hj => by omega⟩
    case round =>
      obtain ⟨k, hk, rfl, hg⟩ := hrel
      have Hg := Lib.hid hg
      clear hg
      by_cases hlt : k < q.length
      · obtain ⟨x, hx⟩ := getSome q k hlt
        obtain ⟨b, off, rfl, hbb, c0⟩ := hA.int hx
        have hki : (k : Int) < (q.length : Int) := by omega
        have Hx := Lib.hid hx
        clear hx
        by_cases h0 : x < 0
        · have He := Lib.hid (isNums_bad Hx.out (by omega))
          go_wp2
          go_ret
          exact ⟨by rw [He.out]; rfl, rfl⟩
        · by_cases h1 : (q.length : Int) ≤ x
          · have He := Lib.hid (isNums_bad Hx.out (by omega))
            go_wp2
            go_ret
            exact ⟨by rw [He.out]; rfl, rfl⟩
          · go_wp2
            go_round
            case rel =>
              refine ⟨k + 1, by omega, by go_num, fun j y hj hy => ?_⟩
              by_cases hjk : j = k
              · subst hjk
                rw [Hx.out] at hy
                simp only [Option.some.injEq] at hy
                subst hy
                omega
              · exact Hg.out j y (by omega) hy
            case measure => simp [intOf]; omega
      · have hkl : k = q.length := by omega
        have He := Lib.hid (isNums_of h fun j x hj hx => Hg.out j x (by omega) hx)
        have hge : ¬ ((k : Int) < (q.length : Int)) := by omega
        go_wp2
        go_ret
        exact ⟨by rw [He.out]; rfl, rfl⟩
  · rw [isNums_many (by omega)]
    have hi : (12 : Int) < (q.length : Int) := by omega
    go_enter Try.func71, Try.ntmps71
    go_wp2
    go_ret
    exact ⟨rfl, rfl⟩
theorem implIsNumbers_any (q : List Int) (A : Option Addr) (c : Nat) (w : World) (hl : q.length ≤ 1048576) (hA : CRead w w.heap.size A (icells q)) :
    Calls Try.prog 71 #[.slice A q.length c] w fun e w' => e = .returned (.bool (resIsNumbers q)) ∧ Below w.heap.size w w' :=
  (isNumbers_any q A c w hl hA).mono fun e w' ⟨he, hw⟩ => ⟨he, by subst hw; exact Below.refl _ _⟩

/-! ## Sums -/
set_option maxHeartbeats 1000000 in
theorem deSum_any (q : List Int) (A : Option Addr) (c : Nat) (w : World) (hq : isNums q = true) (hA : CRead w w.heap.size A (icells q)) :
    Calls Try.prog 67 #[.slice A q.length c] w fun e w' => e = .returned (.int .i64 (sumI q)) ∧ w = w' := by
  have hl := isNums_len hq
  have Hq := Lib.hid hq
  clear hq
  go_enter Try.func67, Try.ntmps67
  go_wp2
  go_loop [3, 8] (fun v i => ∃ (k : Nat) (s : Int), k ≤ q.length ∧ i = .int .i64 k ∧ v = .int .i64 s ∧ s = sumI (q.take k) ∧ 0 ≤ s ∧ s ≤ 12 * k) (fun _ i => q.length - (intOf i).toNat)
  case atStart => exact ⟨0, 0, Nat.zero_le _, rfl, rfl, rfl, by omega, by omega⟩
  case round =>
    obtain ⟨k, s, hk, rfl, rfl, hs, hs0, hs1⟩ := hrel
    have Hs := Lib.hid hs
    clear hs
    by_cases hlt : k < q.length
    · obtain ⟨x, hx⟩ := getSome q k hlt
      obtain ⟨b, off, rfl, hbb, c0⟩ := hA.int hx
      have hx0 := isNums_at Hq.out hx
      have hki : (k : Int) < (q.length : Int) := by omega
      have Hx := Lib.hid hx
      clear hx
      go_wp2
      go_round
      case rel =>
        refine ⟨k + 1, s + x, by omega, by go_num, by go_num, ?_, by omega, by omega⟩
        rw [List.take_add_one, Hx.out, Option.toList_some, sumI_snoc, ← Hs.out]
      case measure => simp [intOf]; omega
    · have hkl : k = q.length := by omega
      subst hkl
      have hge : ¬ ((q.length : Int) < (q.length : Int)) := by omega
      go_wp2
      go_ret
      exact ⟨by rw [Hs.out, List.take_length]; rfl, rfl⟩

set_option maxHeartbeats 1000000 in
theorem sumOf_any (q : List Int) (A : Option Addr) (c : Nat) (w : World) (hq : isNums q = true) (hA : CRead w w.heap.size A (icells q)) :
    Calls Try.prog 73 #[.slice A q.length c] w fun e w' => e = .returned (.int .i64 (sumI q)) ∧ w = w' := by
  have hl := isNums_len hq
  have Hq := Lib.hid hq
  clear hq
  go_enter Try.func73, Try.ntmps73
  go_wp2
  go_loop [3, 8] (fun v i => ∃ (k : Nat) (s : Int), k ≤ q.length ∧ i = .int .i64 k ∧ v = .int .i64 s ∧ s = sumI (q.take k) ∧ 0 ≤ s ∧ s ≤ 12 * k) (fun _ i => q.length - (intOf i).toNat)
  case atStart => exact ⟨0, 0, Nat.zero_le _, rfl, rfl, rfl, by omega, by omega⟩
  case round =>
    obtain ⟨k, s, hk, rfl, rfl, hs, hs0, hs1⟩ := hrel
    have Hs := Lib.hid hs
    clear hs
    by_cases hlt : k < q.length
    · obtain ⟨x, hx⟩ := getSome q k hlt
      obtain ⟨b, off, rfl, hbb, c0⟩ := hA.int hx
      have hx0 := isNums_at Hq.out hx
      have hki : (k : Int) < (q.length : Int) := by omega
      have Hx := Lib.hid hx
      clear hx
      go_wp2
      go_round
      case rel =>
        refine ⟨k + 1, s + x, by omega, by go_num, by go_num, ?_, by omega, by omega⟩
        rw [List.take_add_one, Hx.out, Option.toList_some, sumI_snoc, ← Hs.out]
      case measure => simp [intOf]; omega
    · have hkl : k = q.length := by omega
      subst hkl
      have hge : ¬ ((q.length : Int) < (q.length : Int)) := by omega
      go_wp2
      go_ret
      exact ⟨by rw [Hs.out, List.take_length]; rfl, rfl⟩

/-! ## Sorted so that they are falling: the model's -/
end Go.Proofs.Ytaemodpolopcfaa
