/-
  NUMBERS OF FRIENDS: what they are, by the model's and the program's contracts.
-/
import Derived.Test.YtgccapdjhnejcaaDoorTab
import Derived.Test.YtgccapdjhnejcaaDoorNums
namespace Go.Proofs.YtgccapdjhnejcaaDoor
open Go.RowKit

def l1AllB (q : List Int) (lo hi : Int) : Bool := q.all fun x => decide (lo ≤ x ∧ x ≤ hi)
theorem l1AllB_yes {q : List Int} {lo hi : Int} (h : ∀ (j : Nat) (x : Int), j < q.length → q[j]? = some x → lo ≤ x ∧ x ≤ hi) : l1AllB q lo hi = true := by
  simp only [l1AllB, List.all_eq_true, decide_eq_true_eq]
  intro x hx
  obtain ⟨i, hi, rfl⟩ := List.getElem_of_mem hx
  exact h i _ hi (List.getElem?_eq_getElem hi)
theorem l1AllB_no {q : List Int} {lo hi : Int} {k : Nat} {x : Int} (hx : q[k]? = some x) (h : ¬ (lo ≤ x ∧ x ≤ hi)) : l1AllB q lo hi = false := by
  cases he : l1AllB q lo hi with
  | false => rfl
  | true =>
    simp only [l1AllB, List.all_eq_true, decide_eq_true_eq] at he
    exact absurd (he x (List.mem_of_getElem? hx)) h

theorem isNums_all {q : List Int} (h : q.length ≤ 12) : l1AllB q 0 ((q.length : Int) - 1) = isNums q := by
  unfold l1AllB isNums
  rw [decide_eq_true h, Bool.true_and]
  congr 1
  funext x
  congr 1
  apply propext
  omega

def resIsNumbers (q : List Int) : Bool := isNums q
/-! ## Sums -/
set_option maxHeartbeats 1000000 in
theorem sumOf_any (q : List Int) (A : Option Addr) (c : Nat) (w : World) (hq : isNums q = true) (hA : CRead w w.heap.size A (icells q)) :
    Calls Tryd.prog 71 #[.slice A q.length c] w fun e w' => e = .returned (.int .i64 (sumI q)) ∧ w = w' := by
  have hl := isNums_len hq
  have Hq := Lib.hid hq
  clear hq
  go_enter Tryd.func71, Tryd.ntmps71
  go_wp2
  go_loop [3, 8] (fun v i => ∃ (k : Nat) (s : Int), k ≤ q.length ∧ i = .int .i64 k ∧ v = .int .i64 s ∧ s = sumI (q.take k) ∧ 0 ≤ s ∧ s ≤ 12 * k) (fun _ i => q.length - (intOf i).toNat)
  case atStart => exact ⟨0, 0, Nat.zero_le _, rfl, rfl, rfl, by omega, by omega⟩
  case round =>
    obtain ⟨k, s, hk, rfl, rfl, hs, hs0, hs1⟩ := hrel
    have Hs := Lib.hid hs
    clear hs
    by_cases hlt : k < q.length
    · obtain ⟨x, hx⟩ := getSome q k hlt
      obtain ⟨b, off, rfl, hbb, c0⟩ := hA.int hx
      have hx0 := isNums_at Hq.out hx
      have hki : (k : Int) < (q.length : Int) := by omega
      have Hx := Lib.hid hx
      clear hx
      go_wp2
      go_round
      case rel =>
        refine ⟨k + 1, s + x, by omega, by go_num, by go_num, ?_, by omega, by omega⟩
        rw [List.take_add_one, Hx.out, Option.toList_some, sumI_snoc, ← Hs.out]
      case measure => simp [intOf]; omega
    · have hkl : k = q.length := by omega
      subst hkl
      have hge : ¬ ((q.length : Int) < (q.length : Int)) := by omega
      go_wp2
      go_ret
      exact ⟨by rw [Hs.out, List.take_length]; rfl, rfl⟩

/-! ## Sorted so that they are falling: the model's -/
end Go.Proofs.YtgccapdjhnejcaaDoor
