/-
  NUMBERS OF FRIENDS: what they are, by the model's and the program's contracts.
-/
import Derived.Test.YtgccapdjhnejcaaTab
import Derived.Test.YtgccapdjhnejcaaNums
namespace Go.Proofs.Ytgccapdjhnejcaa
open Go.RowKit

def l1AllB (q : List Int) (lo hi : Int) : Bool := q.all fun x => decide (lo ≤ x ∧ x ≤ hi)
theorem l1AllB_yes {q : List Int} {lo hi : Int} (h : ∀ (j : Nat) (x : Int), j < q.length → q[j]? = some x → lo ≤ x ∧ x ≤ hi) : l1AllB q lo hi = true := by
  simp only [l1AllB, List.all_eq_true, decide_eq_true_eq]
  intro x hx
  obtain ⟨i, hi, rfl⟩ := List.getElem_of_mem hx
  exact h i _ hi (List.getElem?_eq_getElem hi)
theorem l1AllB_no {q : List Int} {lo hi : Int} {k : Nat} {x : Int} (hx : q[k]? = some x) (h : ¬ (lo ≤ x ∧ x ≤ hi)) : l1AllB q lo hi = false := by
  cases he : l1AllB q lo hi with
  | false => rfl
  | true =>
    simp only [l1AllB, List.all_eq_true, decide_eq_true_eq] at he
    exact absurd (he x (List.mem_of_getElem? hx)) h

set_option maxHeartbeats 1000000 in
theorem l1All_any (q : List Int) (A : Option Addr) (c : Nat) (lo hi : Int) (w : World) (hl : q.length ≤ 1048576) (hA : CRead w w.heap.size A (icells q)) :
    Calls Try.prog 47 #[.slice A q.length c, .int .i64 lo, .int .i64 hi] w fun e w' => e = .returned (.bool (l1AllB q lo hi)) ∧ w = w' := by
  go_enter Try.func47, Try.ntmps47
  go_wp2
  go_loop [11] (fun i => ∃ k : Nat, k ≤ q.length ∧ i = .int .i64 k ∧ ∀ (j : Nat) (x : Int), j < k → q[j]? = some x → lo ≤ x ∧ x ≤ hi) (fun i => q.length - (intOf i).toNat)
  case atStart => exact ⟨0, Nat.zero_le _, rfl, fun j x hj => by omega⟩
  case round =>
    obtain ⟨k, hk, rfl, hg⟩ := hrel
    have Hg := Lib.hid hg
    clear hg
    by_cases hlt : k < q.length
    · obtain ⟨x, hx⟩ := getSome q k hlt
      obtain ⟨b, off, rfl, hbb, c0⟩ := hA.int hx
      have hki : (k : Int) < (q.length : Int) := by omega
      have Hx := Lib.hid hx
      clear hx
      by_cases hin : lo ≤ x ∧ x ≤ hi
      · go_wp2_with (go_at_call 46; refine (l1In_yes _ _ _ hin.1 hin.2 _).mono ?_; rintro e w' ⟨rfl, rfl⟩)
        go_round
        case rel =>
          refine ⟨k + 1, by omega, by go_num, fun j y hj hy => ?_⟩
          by_cases hjk : j = k
          · subst hjk
            rw [Hx.out] at hy
            simp only [Option.some.injEq] at hy
            subst hy
            exact hin
          · exact Hg.out j y (by omega) hy
        case measure => simp [intOf]; omega
      · have e : l1AllB q lo hi = false := l1AllB_no Hx.out hin
        have He := Lib.hid e
        clear e
        go_wp2_with (go_at_call 46; refine (l1In_no _ _ _ (by omega) _).mono ?_; rintro e w' ⟨rfl, rfl⟩)
        go_ret
        exact ⟨by rw [He.out]; rfl, rfl⟩
    · have hkl : k = q.length := by omega
      have e : l1AllB q lo hi = true := l1AllB_yes fun j x hj hx => Hg.out j x (by omega) hx
      have He := Lib.hid e
      clear e
      have hge : ¬ ((k : Int) < (q.length : Int)) := by omega
      go_wp2
      go_ret
      exact ⟨by rw [He.out]; rfl, rfl⟩

theorem isNums_all {q : List Int} (h : q.length ≤ 12) : l1AllB q 0 ((q.length : Int) - 1) = isNums q := by
  unfold l1AllB isNums
  rw [decide_eq_true h, Bool.true_and]
  congr 1
  funext x
  congr 1
  apply propext
  omega

set_option maxHeartbeats 1000000 in
theorem deGood_any (q : List Int) (A : Option Addr) (c : Nat) (w : World) (hl : q.length ≤ 1048576) (hA : CRead w w.heap.size A (icells q)) :
    Calls Try.prog 61 #[.slice A q.length c] w fun e w' => e = .returned (.bool (isNums q)) ∧ w = w' := by
  by_cases h : q.length ≤ 12
  · have e := isNums_all h
    have He := Lib.hid e
    clear e
    have hi : (q.length : Int) ≤ 12 := by omega
    go_enter Try.func61, Try.ntmps61
    go_wp2_with fail
    refine (l1All_any _ _ _ _ _ _ hl hA).mono ?_
    rw [He.out]
    rintro e w' ⟨rfl, rfl⟩
    go_wp2
    go_ret
    exact ⟨rfl, rfl⟩
  · rw [isNums_many (by omega)]
    have hi : ¬ (q.length : Int) ≤ 12 := by omega
    go_enter Try.func61, Try.ntmps61
    go_wp2
    go_ret
    exact ⟨rfl, rfl⟩

def resIsNumbers (q : List Int) : Bool := isNums q
set_option maxHeartbeats 1000000 in
theorem isNumbers_any (q : List Int) (A : Option Addr) (c : Nat) (w : World) (hl : q.length ≤ 1048576) (hA : CRead w w.heap.size A (icells q)) :
    Calls Try.prog 64 #[.slice A q.length c] w fun e w' => e = .returned (.bool (isNums q)) ∧ w = w' := by
  by_cases h : q.length ≤ 12
  · have hi : ¬ (12 < (q.length : Int)) := by omega
    go_enter Try.func64, Try.ntmps64
    go_wp2
    go_loop [10] (fun i => ∃ k : Nat, k ≤ q.length ∧ i = .int .i64 k ∧ ∀ (j : Nat) (x : Int), j < k → q[j]? = some x → 0 ≤ x ∧ x < q.length) (fun i => q.length - (intOf i).toNat)
    case atStart => exact ⟨0, Nat.zero_le _, rfl, fun j x hj => by omega⟩
    case round =>
      obtain ⟨k, hk, rfl, hg⟩ := hrel
      have Hg := Lib.hid hg
      clear hg
      by_cases hlt : k < q.length
      · obtain ⟨x, hx⟩ := getSome q k hlt
        obtain ⟨b, off, rfl, hbb, c0⟩ := hA.int hx
        have hki : (k : Int) < (q.length : Int) := by omega
        have Hx := Lib.hid hx
        clear hx
        by_cases h0 : x < 0
        · have He := Lib.hid (isNums_bad Hx.out (by omega))
          go_wp2
          go_ret
          exact ⟨by rw [He.out]; rfl, rfl⟩
        · by_cases h1 : (q.length : Int) ≤ x
          · have He := Lib.hid (isNums_bad Hx.out (by omega))
            go_wp2
            go_ret
            exact ⟨by rw [He.out]; rfl, rfl⟩
          · go_wp2
            go_round
            case rel =>
              refine ⟨k + 1, by omega, by go_num, fun j y hj hy => ?_⟩
              by_cases hjk : j = k
              · subst hjk
                rw [Hx.out] at hy
                simp only [Option.some.injEq] at hy
                subst hy
                omega
              · exact Hg.out j y (by omega) hy
            case measure => simp [intOf]; omega
      · have hkl : k = q.length := by omega
        have He := Lib.hid (isNums_of h fun j x hj hx => Hg.out j x (by omega) hx)
        have hge : ¬ ((k : Int) < (q.length : Int)) := by omega
        go_wp2
        go_ret
        exact ⟨by rw [He.out]; rfl, rfl⟩
  · rw [isNums_many (by omega)]
    have hi : (12 : Int) < (q.length : Int) := by omega
    go_enter Try.func64, Try.ntmps64
    go_wp2
    go_ret
    exact ⟨rfl, rfl⟩
theorem implIsNumbers_any (q : List Int) (A : Option Addr) (c : Nat) (w : World) (hl : q.length ≤ 1048576) (hA : CRead w w.heap.size A (icells q)) :
    Calls Try.prog 64 #[.slice A q.length c] w fun e w' => e = .returned (.bool (resIsNumbers q)) ∧ Below w.heap.size w w' :=
  (isNumbers_any q A c w hl hA).mono fun e w' ⟨he, hw⟩ => ⟨he, by subst hw; exact Below.refl _ _⟩

/-! ## Sums -/
set_option maxHeartbeats 1000000 in
theorem deSum_any (q : List Int) (A : Option Addr) (c : Nat) (w : World) (hq : isNums q = true) (hA : CRead w w.heap.size A (icells q)) :
    Calls Try.prog 84 #[.slice A q.length c] w fun e w' => e = .returned (.int .i64 (sumI q)) ∧ w = w' := by
  have hl := isNums_len hq
  have Hq := Lib.hid hq
  clear hq
  go_enter Try.func84, Try.ntmps84
  go_wp2
  go_loop [3, 8] (fun v i => ∃ (k : Nat) (s : Int), k ≤ q.length ∧ i = .int .i64 k ∧ v = .int .i64 s ∧ s = sumI (q.take k) ∧ 0 ≤ s ∧ s ≤ 12 * k) (fun _ i => q.length - (intOf i).toNat)
  case atStart => exact ⟨0, 0, Nat.zero_le _, rfl, rfl, rfl, by omega, by omega⟩
  case round =>
    obtain ⟨k, s, hk, rfl, rfl, hs, hs0, hs1⟩ := hrel
    have Hs := Lib.hid hs
    clear hs
    by_cases hlt : k < q.length
    · obtain ⟨x, hx⟩ := getSome q k hlt
      obtain ⟨b, off, rfl, hbb, c0⟩ := hA.int hx
      have hx0 := isNums_at Hq.out hx
      have hki : (k : Int) < (q.length : Int) := by omega
      have Hx := Lib.hid hx
      clear hx
      go_wp2
      go_round
      case rel =>
        refine ⟨k + 1, s + x, by omega, by go_num, by go_num, ?_, by omega, by omega⟩
        rw [List.take_add_one, Hx.out, Option.toList_some, sumI_snoc, ← Hs.out]
      case measure => simp [intOf]; omega
    · have hkl : k = q.length := by omega
      subst hkl
      have hge : ¬ ((q.length : Int) < (q.length : Int)) := by omega
      go_wp2
      go_ret
      exact ⟨by rw [Hs.out, List.take_length]; rfl, rfl⟩

set_option maxHeartbeats 1000000 in
theorem sumOf_any (q : List Int) (A : Option Addr) (c : Nat) (w : World) (hq : isNums q = true) (hA : CRead w w.heap.size A (icells q)) :
    Calls Try.prog 87 #[.slice A q.length c] w fun e w' => e = .returned (.int .i64 (sumI q)) ∧ w = w' := by
  have hl := isNums_len hq
  have Hq := Lib.hid hq
  clear hq
  go_enter Try.func87, Try.ntmps87
  go_wp2
  go_loop [3, 8] (fun v i => ∃ (k : Nat) (s : Int), k ≤ q.length ∧ i = .int .i64 k ∧ v = .int .i64 s ∧ s = sumI (q.take k) ∧ 0 ≤ s ∧ s ≤ 12 * k) (fun _ i => q.length - (intOf i).toNat)
  case atStart => exact ⟨0, 0, Nat.zero_le _, rfl, rfl, rfl, by omega, by omega⟩
  case round =>
    obtain ⟨k, s, hk, rfl, rfl, hs, hs0, hs1⟩ := hrel
    have Hs := Lib.hid hs
    clear hs
    by_cases hlt : k < q.length
    · obtain ⟨x, hx⟩ := getSome q k hlt
      obtain ⟨b, off, rfl, hbb, c0⟩ := hA.int hx
      have hx0 := isNums_at Hq.out hx
      have hki : (k : Int) < (q.length : Int) := by omega
      have Hx := Lib.hid hx
      clear hx
      go_wp2
      go_round
      case rel =>
        refine ⟨k + 1, s + x, by omega, by go_num, by go_num, ?_, by omega, by omega⟩
        rw [List.take_add_one, Hx.out, Option.toList_some, sumI_snoc, ← Hs.out]
      case measure => simp [intOf]; omega
    · have hkl : k = q.length := by omega
      subst hkl
      have hge : ¬ ((q.length : Int) < (q.length : Int)) := by omega
      go_wp2
      go_ret
      exact ⟨by rw [Hs.out, List.take_length]; rfl, rfl⟩

/-! ## Sorted so that they are falling: the model's -/
set_option maxHeartbeats 1000000 in
set_option maxRecDepth 100000 in
theorem deSorted_any (q : List Int) (A : Option Addr) (c : Nat) (w : World) (hq : isNums q = true) (hA : CRead w w.heap.size A (icells q)) :
    Calls Try.prog 101 #[.slice A q.length c] w fun e w' => ∃ A' c', e = .returned (.slice A' (fall q).length c') ∧
      w'.ownsRow w.heap.size 3 1 (.slice A' (fall q).length c') (fall q).length (icells (fall q)) ∧ Below w.heap.size w w' := by
  obtain ⟨i0, hi, hz0, hz1, hz2⟩ := info_parts Try.infoInt
  have hl := isNums_len hq
  have Hfall := Lib.hid (descI_fall hq)
  clear hq
  go_enter Try.func101, Try.ntmps101
  go_wp2
  go_loopw [3, 4] (fun v i wr => ∃ (j : Nat) (y : Int), j ≤ q.length + 1 ∧ i = .int .i64 y ∧ y = (q.length : Int) - j ∧ wr.ownsRow w.heap.size 3 1 v (descI q q.length j).length (icells (descI q q.length j)) ∧ Below w.heap.size w wr) (fun _ i _ => (intOf i + 1).toNat)
  case atStart => exact ⟨0, q.length, Nat.zero_le _, rfl, by omega, World.ownsRow_nil _ _ _ _, Below.refl _ _⟩
  case round =>
    obtain ⟨j, y, hj, rfl, hy, hown, hb⟩ := hrel
    by_cases hlt : j < q.length + 1
    · have hge : 0 ≤ y := by omega
      have hge2 : y ≤ 12 := by omega
      have hjn : (j : Int) ≤ q.length := by omega
      have hdl := descI_le q q.length j
      have hdl2 : j * q.length ≤ 12 * 12 := Nat.mul_le_mul (by omega) hl
      have Hnext := Lib.hid (descI_next q q.length j)
      rw [← hy] at Hnext
      have Hy := Lib.hid hy
      have Hown := Lib.hid hown
      have Hb := Lib.hid hb
      clear hown hb hy
      go_wp2
      go_loopw [3, 15] (fun v i wx => ∃ m : Nat, m ≤ q.length ∧ i = .int .i64 m ∧ wx.ownsRow w.heap.size 3 1 v (descI q q.length j ++ blockI (q.take m) y).length (icells (descI q q.length j ++ blockI (q.take m) y)) ∧ Below w.heap.size w wx) (fun _ i _ => q.length - (intOf i).toNat)
      case atStart => exact ⟨0, Nat.zero_le _, rfl, by simpa [blockI] using Hown.out, Hb.out⟩
      case round =>
        clear Hown Hb
        obtain ⟨m, hm, rfl, hown, hb⟩ := hrel
        have hs := hb.size
        have hbl : (blockI (q.take m) y).length ≤ 12 := Nat.le_trans (blockI_le _ _) (Nat.le_trans (List.length_take_le' _ _) hl)
        have hdb : (descI q q.length j ++ blockI (q.take m) y).length ≤ 1000 := by rw [List.length_append]; omega
        by_cases hmt : m < q.length
        · obtain ⟨x, hx⟩ := getSome q m hmt
          obtain ⟨b, off, rfl, hbb, c0⟩ := (hA.below hb (Nat.le_refl _)).int hx
          have hmi : (m : Int) < (q.length : Int) := by omega
          have Hsn := Lib.hid (blockI_snoc (q.take m) y x)
          have Hx := Lib.hid hx
          clear hx
          by_cases hxe : x = y
          · subst hxe
            go_wp2_with (at_builtin; refine wpList_append_own _ rfl _ _ 25 rfl w.heap.size 3 i0 _ 1 8 Try.underlying25 hi hz0 hz1 hz2 rfl (by decide) _ _ _ rfl (hown.alloc _) ⟨wr.heap.size, 0, none⟩ 1 1 [.int .i64 x] rfl rfl (one_cell (by simp)) (one_one rfl) (by unfold maxLen; omega) (by omega) (by simp; omega) ?_; intro v1 w3 hown3 hg3 _; obtain ⟨A1, d1', rfl, _⟩ := own_shape hown3)
            go_roundw
            case rel =>
              refine ⟨m + 1, by omega, by go_num, ?_, ?_⟩
              · rw [List.take_add_one, Hx.out, Option.toList_some, Hsn.out, if_pos rfl, ← List.append_assoc]
                have el : (descI q q.length j).length + (blockI (q.take m) x).length = (descI q q.length j ++ blockI (q.take m) x).length := by rw [List.length_append]
                rw [el]
                generalize descI q q.length j ++ blockI (q.take m) x = L at hown3 ⊢
                rw [icells_append, List.length_append]
                exact hown3
              · exact (hb.alloc hs _).grown hg3 (by simp; omega) (fun k hk => (hown.lt k hk).1)
            case measure => simp [intOf]; omega
          · have hne : ¬ y = x := fun e => hxe e.symm
            go_wp2
            go_roundw
            case rel =>
              refine ⟨m + 1, by omega, by go_num, ?_, hb⟩
              rw [List.take_add_one, Hx.out, Option.toList_some, Hsn.out, if_neg hne, List.append_nil]
              exact hown
            case measure => simp [intOf]; omega
        · have hml : m = q.length := by omega
          subst hml
          have hgm : ¬ ((q.length : Int) < q.length) := by omega
          rw [List.take_length, ← Hnext.out] at hown
          go_wp2
          go_roundw
          case rel => exact ⟨j + 1, y - 1, by omega, by go_num, by have := Hy.out; omega, hown, hb⟩
          case measure => simp [intOf]; omega
    · have hjl : j = q.length + 1 := by omega
      subst hjl
      have hneg : ¬ (0 ≤ y) := by omega
      rw [Hfall.out] at hown
      obtain ⟨A', c', rfl, _⟩ := own_shape hown
      have Hown := Lib.hid hown
      clear hown
      go_wp2
      go_ret
      exact ⟨A', c', rfl, Hown.out, hb⟩
end Go.Proofs.Ytgccapdjhnejcaa
