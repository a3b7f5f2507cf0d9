/-
  WHERE NUMBERS FAIL, AND WHETHER THEY CAN BE: the model's and the program's, by their contracts.
-/
import Derived.Test.YtkonibmmdinmbaaSortI
namespace Go.Proofs.Ytkonibmmdinmbaa
open Go.RowKit

set_option maxHeartbeats 400000 in
theorem l1Least_any (a b : Int) (w : World) : Calls Try.prog 178 #[.int .i64 a, .int .i64 b] w fun e w' => e = .returned (.int .i64 (if a < b then a else b)) ∧ w = w' := by
  by_cases h : a < b
  · rw [if_pos h]
    go_enter Try.func178, Try.ntmps178
    go_wp2
    go_ret
    exact ⟨rfl, rfl⟩
  · rw [if_neg h]
    go_enter Try.func178, Try.ntmps178
    go_wp2
    go_ret
    exact ⟨rfl, rfl⟩

/-- what the walk of one number k wants to know -/
theorem fails_bounds {s : List Int} (hs : isNums s = true) {k : Nat} (hk : k < s.length) : (0 ≤ sumI (s.take k) ∧ sumI (s.take k) ≤ 144) ∧ (∀ x : Int, s[k]? = some x → 0 ≤ x ∧ x ≤ 12 ∧ sumI (s.take (k + 1)) = sumI (s.take k) + x) ∧
    ((k : Int) + 1) * (k : Int) = ((k + 1) * k : Nat) ∧ (k + 1) * k ≤ 132 ∧ (∀ m, 0 ≤ sumI (minsI ((k : Int) + 1) ((s.drop (k + 1)).take m)) ∧ sumI (minsI ((k : Int) + 1) ((s.drop (k + 1)).take m)) ≤ 12 * m) := by
  have hl := isNums_len hs
  have hall : ∀ x ∈ s, 0 ≤ x ∧ x ≤ 12 := fun x hx => by have := isNums_mem hs x hx; omega
  have h1 := sumI_take_bound (q := s) (m := 12) (by omega) hall k
  refine ⟨⟨h1.1, by omega⟩, fun x hx => ?_, ?_, ?_, fun m => ?_⟩
  · have := hall x (List.mem_of_getElem? hx)
    refine ⟨this.1, this.2, ?_⟩
    rw [List.take_add_one, hx, Option.toList_some, sumI_snoc]
  · rw [Int.natCast_mul, Int.natCast_add]
    rfl
  · have : (k + 1) * k ≤ 12 * 11 := Nat.mul_le_mul (by omega) (by omega)
    omega
  · have hall2 : ∀ x ∈ minsI ((k : Int) + 1) (s.drop (k + 1)), 0 ≤ x ∧ x ≤ 12 := minsI_bound (by omega) fun x hx => hall x (List.mem_of_mem_drop hx)
    have h2 := sumI_take_bound (m := 12) (by omega) hall2 m
    have e : minsI ((k : Int) + 1) ((s.drop (k + 1)).take m) = (minsI ((k : Int) + 1) (s.drop (k + 1))).take m := by unfold minsI; rw [List.map_take]
    rw [e]
    omega

set_option maxHeartbeats 2000000 in
set_option maxRecDepth 100000 in
theorem deFails_any (q : List Int) (A : Option Addr) (c : Nat) (w : World) (hq : isNums q = true) (hA : CRead w w.heap.size A (icells q)) :
    Calls Try.prog 122 #[.slice A q.length c] w fun e w' => e = .returned (.int .i64 (failsI (fall q))) ∧ Below w.heap.size w w' := by
  have hn := fall_nums hq
  have hl := isNums_len hn
  have hlq := isNums_len hq
  have Hq := Lib.hid hq
  clear hq
  go_enter Try.func122, Try.ntmps122
  go_wp2_with fail
  refine (deSorted_any q A c _ Hq.out hA).mono ?_
  rintro e w1 ⟨A1, c1, rfl, own1, hb1⟩
  have hs1 := hb1.size
  obtain ⟨A1', c1', he, hcap, hcm⟩ := own_shape own1
  simp only [Value.slice.injEq] at he
  obtain ⟨rfl, _, rfl⟩ := he
  have Hn := Lib.hid hn
  have hcap' : ((fall q).length : Int) ≤ c1 := by omega
  clear hn
  go_wp2
  go_loopw [4, 5] (fun v i wr => ∃ (k : Nat) (s : Int), k ≤ (fall q).length ∧ i = .int .i64 ((k : Int) + 1) ∧ v = .int .i64 s ∧ s = sumI ((fall q).take k) ∧ (∀ j, j < k → failAt (fall q) (j + 1) = false) ∧ w1 = wr) (fun _ i _ => (fall q).length + 1 - (intOf i).toNat)
  case atStart => exact ⟨0, 0, Nat.zero_le _, rfl, rfl, rfl, fun j hj => by omega, rfl⟩
  case round =>
    obtain ⟨k, s, hk, rfl, rfl, hs, hg, rfl⟩ := hrel
    have Hg := Lib.hid hg
    have Hs := Lib.hid hs
    clear hg hs
    by_cases hlt : k < (fall q).length
    · obtain ⟨g, rfl⟩ := own_form own1 (by omega)
      obtain ⟨⟨b0, b1⟩, bx, bk, bk2, bm⟩ := fails_bounds Hn.out hlt
      rw [← Hs.out] at b0 b1
      obtain ⟨x, hx⟩ := getSome (fall q) k hlt
      obtain ⟨hx0, hx1, hxs⟩ := bx x hx
      rw [← Hs.out] at hxs
      have d0 := own_intAt own1 hx
      have hki : (k : Int) + 1 ≤ (fall q).length := by omega
      have hki2 : (k : Int) < (fall q).length := by omega
      have Hx := Lib.hid hx
      have Hxs := Lib.hid hxs
      have Bm := Lib.hid bm
      generalize hkk : (k + 1) * k = kk at *
      have Hkk := Lib.hid hkk
      clear hx bx hxs bm hkk
      have hck : (k : Int) + 1 ≤ c1 := by omega
      by_cases hcz : c1 = k + 1
      · subst hcz
        go_wp2
        go_loopw [6, 32] (fun v i wx => ∃ (m : Nat) (t : Int), m ≤ (fall q).length - (k + 1) ∧ i = .int .i64 m ∧ v = .int .i64 t ∧ t = kk + sumI (minsI ((k : Int) + 1) (((fall q).drop (k + 1)).take m)) ∧ w1 = wx) (fun _ i _ => (fall q).length - (intOf i).toNat)
        case atStart => exact ⟨0, kk, Nat.zero_le _, rfl, by first | rfl | go_num, by simp [minsI, sumI], rfl⟩
        case round =>
          obtain ⟨m, t, hm, rfl, rfl, ht, rfl⟩ := hrel
          have hbm := Bm.out m
          have ht0 : 0 ≤ t ∧ t ≤ 132 + 12 * m := by omega
          obtain ⟨ht0, ht1⟩ := ht0
          have Ht := Lib.hid ht
          clear ht hbm
          have hml : m = (fall q).length - (k + 1) := by omega
          have hge : ¬ ((m : Int) < (((fall q).length - (k + 1) : Nat) : Int)) := by omega
          have hge2 : ¬ ((m : Int) < ((fall q).length : Int) - ((k : Int) + 1)) := by omega
          have hmost : t = mostI (fall q) (k + 1) := by
            have h1 := Ht.out
            have h2 := Hkk.out
            unfold mostI
            rw [List.take_of_length_le (by rw [List.length_drop]; omega)] at h1
            rw [h1, ← h2]
            have e1 : (((k + 1 : Nat) : Int) * (((k + 1 : Nat) : Int) - 1)) = (((k + 1) * k : Nat) : Int) := by
              rw [show ((k + 1 : Nat) : Int) - 1 = k from by omega, Int.natCast_mul]
            rw [e1]
            have e2 : ((k + 1 : Nat) : Int) = (k : Int) + 1 := by omega
            rw [e2]
          have hsum : s + x = sumI ((fall q).take (k + 1)) := Hxs.out.symm
          by_cases hf : t < s + x
          · have hfail : failAt (fall q) (k + 1) = true := by unfold failAt; rw [← hmost, ← hsum]; exact decide_eq_true hf
            have He := Lib.hid (failsI_at hlt Hg.out hfail)
            clear hmost hsum hfail
            go_wp2
            go_ret
            exact ⟨by rw [He.out]; rfl, hb1⟩
          · have hfail : failAt (fall q) (k + 1) = false := by unfold failAt; rw [← hmost, ← hsum]; exact decide_eq_false hf
            have Hf := Lib.hid hfail
            have Hsum := Lib.hid hsum
            clear hmost hsum hfail
            go_wp2
            go_roundw
            case rel =>
              refine ⟨k + 1, s + x, by omega, by go_num, by go_num, Hsum.out, fun j hj => ?_, by simp⟩
              by_cases hjk : j = k
              · subst hjk; exact Hf.out
              · exact Hg.out j (by omega)
            case measure => simp [intOf]; omega
      · have hcz2 : ¬ (c1 - (k + 1) = 0) := by omega
        go_wp2
        go_loopw [6, 32] (fun v i wx => ∃ (m : Nat) (t : Int), m ≤ (fall q).length - (k + 1) ∧ i = .int .i64 m ∧ v = .int .i64 t ∧ t = kk + sumI (minsI ((k : Int) + 1) (((fall q).drop (k + 1)).take m)) ∧ w1 = wx) (fun _ i _ => (fall q).length - (intOf i).toNat)
        case atStart => exact ⟨0, kk, Nat.zero_le _, rfl, by first | rfl | go_num, by simp [minsI, sumI], rfl⟩
        case round =>
          obtain ⟨m, t, hm, rfl, rfl, ht, rfl⟩ := hrel
          have hbm := Bm.out m
          have ht0 : 0 ≤ t ∧ t ≤ 132 + 12 * m := by omega
          obtain ⟨ht0, ht1⟩ := ht0
          have Ht := Lib.hid ht
          clear ht hbm
          by_cases hmt : m < (fall q).length - (k + 1)
          · obtain ⟨y, hy⟩ := getSome (fall q) (k + 1 + m) (by omega)
            have d1 := own_intAt own1 hy
            have hy0 := isNums_at Hn.out hy
            have hmi : (m : Int) < (((fall q).length - (k + 1) : Nat) : Int) := by omega
            have hmi2 : (m : Int) < ((fall q).length : Int) - ((k : Int) + 1) := by omega
            have Hy := Lib.hid hy
            clear hy
            by_cases hmin : (k : Int) + 1 < y
            · go_wp2_with fail
              refine (l1Least_any _ _ _).mono ?_
              first | rw [if_pos hmin] | rw [if_neg (Int.not_lt.2 hmin)]
              rintro e w3 ⟨rfl, rfl⟩
              go_wp2
              go_roundw
              case rel =>
                refine ⟨m + 1, t + ((k : Int) + 1), by omega, by go_num, by go_num, ?_, by simp⟩
                rw [List.take_add_one, List.getElem?_drop, Hy.out, Option.toList_some, minsI_snoc, sumI_snoc, if_pos (by omega), Ht.out]
                omega
              case measure => simp [intOf]; omega
            · go_wp2_with fail
              refine (l1Least_any _ _ _).mono ?_
              first | rw [if_pos hmin] | rw [if_neg (Int.not_lt.2 hmin)]
              rintro e w3 ⟨rfl, rfl⟩
              go_wp2
              go_roundw
              case rel =>
                refine ⟨m + 1, t + y, by omega, by go_num, by go_num, ?_, by simp⟩
                rw [List.take_add_one, List.getElem?_drop, Hy.out, Option.toList_some, minsI_snoc, sumI_snoc, if_neg (by omega), Ht.out]
                omega
              case measure => simp [intOf]; omega
          · have hml : m = (fall q).length - (k + 1) := by omega
            have hge : ¬ ((m : Int) < (((fall q).length - (k + 1) : Nat) : Int)) := by omega
            have hge2 : ¬ ((m : Int) < ((fall q).length : Int) - ((k : Int) + 1)) := by omega
            have hmost : t = mostI (fall q) (k + 1) := by
              have h1 := Ht.out
              have h2 := Hkk.out
              unfold mostI
              rw [List.take_of_length_le (by rw [List.length_drop]; omega)] at h1
              rw [h1, ← h2]
              have e1 : (((k + 1 : Nat) : Int) * (((k + 1 : Nat) : Int) - 1)) = (((k + 1) * k : Nat) : Int) := by
                rw [show ((k + 1 : Nat) : Int) - 1 = k from by omega, Int.natCast_mul]
              rw [e1]
              have e2 : ((k + 1 : Nat) : Int) = (k : Int) + 1 := by omega
              rw [e2]
            have hsum : s + x = sumI ((fall q).take (k + 1)) := Hxs.out.symm
            by_cases hf : t < s + x
            · have hfail : failAt (fall q) (k + 1) = true := by unfold failAt; rw [← hmost, ← hsum]; exact decide_eq_true hf
              have He := Lib.hid (failsI_at hlt Hg.out hfail)
              clear hmost hsum hfail
              go_wp2
              go_ret
              exact ⟨by rw [He.out]; rfl, hb1⟩
            · have hfail : failAt (fall q) (k + 1) = false := by unfold failAt; rw [← hmost, ← hsum]; exact decide_eq_false hf
              have Hf := Lib.hid hfail
              have Hsum := Lib.hid hsum
              clear hmost hsum hfail
              go_wp2
              go_roundw
              case rel =>
                refine ⟨k + 1, s + x, by omega, by go_num, by go_num, Hsum.out, fun j hj => ?_, by simp⟩
                by_cases hjk : j = k
                · subst hjk; exact Hf.out
                · exact Hg.out j (by omega)
              case measure => simp [intOf]; omega
    · have hkl : k = (fall q).length := by omega
      have He := Lib.hid (failsI_none fun j hj => Hg.out j (by omega))
      have hge : ¬ ((k : Int) + 1 ≤ (fall q).length) := by omega
      have hge2 : ¬ ((k : Int) < (fall q).length) := by omega
      go_wp2
      go_ret
      exact ⟨by rw [He.out]; rfl, hb1⟩

set_option maxHeartbeats 2000000 in
set_option maxRecDepth 100000 in
theorem firstTooGreat_any (q : List Int) (A : Option Addr) (c : Nat) (w : World) (hq : isNums q = true) (hA : CRead w w.heap.size A (icells q)) :
    Calls Try.prog 123 #[.slice A q.length c] w fun e w' => e = .returned (.int .i64 (failsI (fall q))) ∧ Below w.heap.size w w' := by
  have hn := fall_nums hq
  have hl := isNums_len hn
  have hlq := isNums_len hq
  have Hq := Lib.hid hq
  clear hq
  go_enter Try.func123, Try.ntmps123
  go_wp2_with fail
  refine (sortedFalling_any q A c _ (by omega) hA).mono ?_
  rintro e w1 ⟨A1, c1, rfl, own1, hb1⟩
  have hs1 := hb1.size
  obtain ⟨A1', c1', he, hcap, hcm⟩ := own_shape own1
  simp only [Value.slice.injEq] at he
  obtain ⟨rfl, _, rfl⟩ := he
  have Hn := Lib.hid hn
  have hcap' : ((fall q).length : Int) ≤ c1 := by omega
  clear hn
  go_wp2
  go_loopw [4, 15] (fun v i wr => ∃ (k : Nat) (s : Int), k ≤ (fall q).length ∧ i = .int .i64 k ∧ v = .int .i64 s ∧ s = sumI ((fall q).take k) ∧ (∀ j, j < k → failAt (fall q) (j + 1) = false) ∧ w1 = wr) (fun _ i _ => (fall q).length + 1 - (intOf i).toNat)
  case atStart => exact ⟨0, 0, Nat.zero_le _, rfl, rfl, rfl, fun j hj => by omega, rfl⟩
  case round =>
    obtain ⟨k, s, hk, rfl, rfl, hs, hg, rfl⟩ := hrel
    have Hg := Lib.hid hg
    have Hs := Lib.hid hs
    clear hg hs
    by_cases hlt : k < (fall q).length
    · obtain ⟨g, rfl⟩ := own_form own1 (by omega)
      obtain ⟨⟨b0, b1⟩, bx, bk, bk2, bm⟩ := fails_bounds Hn.out hlt
      rw [← Hs.out] at b0 b1
      obtain ⟨x, hx⟩ := getSome (fall q) k hlt
      obtain ⟨hx0, hx1, hxs⟩ := bx x hx
      rw [← Hs.out] at hxs
      have d0 := own_intAt own1 hx
      have hki : (k : Int) + 1 ≤ (fall q).length := by omega
      have hki2 : (k : Int) < (fall q).length := by omega
      have Hx := Lib.hid hx
      have Hxs := Lib.hid hxs
      have Bm := Lib.hid bm
      generalize hkk : (k + 1) * k = kk at *
      have Hkk := Lib.hid hkk
      clear hx bx hxs bm hkk
      have hck : (k : Int) + 1 ≤ c1 := by omega
      by_cases hcz : c1 = k + 1
      · subst hcz
        go_wp2
        go_loopw [8, 33] (fun v i wx => ∃ (m : Nat) (t : Int), m ≤ (fall q).length - (k + 1) ∧ i = .int .i64 m ∧ v = .int .i64 t ∧ t = kk + sumI (minsI ((k : Int) + 1) (((fall q).drop (k + 1)).take m)) ∧ w1 = wx) (fun _ i _ => (fall q).length - (intOf i).toNat)
        case atStart => exact ⟨0, kk, Nat.zero_le _, rfl, by first | rfl | go_num, by simp [minsI, sumI], rfl⟩
        case round =>
          obtain ⟨m, t, hm, rfl, rfl, ht, rfl⟩ := hrel
          have hbm := Bm.out m
          have ht0 : 0 ≤ t ∧ t ≤ 132 + 12 * m := by omega
          obtain ⟨ht0, ht1⟩ := ht0
          have Ht := Lib.hid ht
          clear ht hbm
          have hml : m = (fall q).length - (k + 1) := by omega
          have hge : ¬ ((m : Int) < (((fall q).length - (k + 1) : Nat) : Int)) := by omega
          have hge2 : ¬ ((m : Int) < ((fall q).length : Int) - ((k : Int) + 1)) := by omega
          have hmost : t = mostI (fall q) (k + 1) := by
            have h1 := Ht.out
            have h2 := Hkk.out
            unfold mostI
            rw [List.take_of_length_le (by rw [List.length_drop]; omega)] at h1
            rw [h1, ← h2]
            have e1 : (((k + 1 : Nat) : Int) * (((k + 1 : Nat) : Int) - 1)) = (((k + 1) * k : Nat) : Int) := by
              rw [show ((k + 1 : Nat) : Int) - 1 = k from by omega, Int.natCast_mul]
            rw [e1]
            have e2 : ((k + 1 : Nat) : Int) = (k : Int) + 1 := by omega
            rw [e2]
          have hsum : s + x = sumI ((fall q).take (k + 1)) := Hxs.out.symm
          by_cases hf : t < s + x
          · have hfail : failAt (fall q) (k + 1) = true := by unfold failAt; rw [← hmost, ← hsum]; exact decide_eq_true hf
            have He := Lib.hid (failsI_at hlt Hg.out hfail)
            clear hmost hsum hfail
            go_wp2
            go_ret
            exact ⟨by rw [He.out]; rfl, hb1⟩
          · have hfail : failAt (fall q) (k + 1) = false := by unfold failAt; rw [← hmost, ← hsum]; exact decide_eq_false hf
            have Hf := Lib.hid hfail
            have Hsum := Lib.hid hsum
            clear hmost hsum hfail
            go_wp2
            go_roundw
            case rel =>
              refine ⟨k + 1, s + x, by omega, by go_num, by go_num, Hsum.out, fun j hj => ?_, by simp⟩
              by_cases hjk : j = k
              · subst hjk; exact Hf.out
              · exact Hg.out j (by omega)
            case measure => simp [intOf]; omega
      · have hcz2 : ¬ (c1 - (k + 1) = 0) := by omega
        go_wp2
        go_loopw [8, 33] (fun v i wx => ∃ (m : Nat) (t : Int), m ≤ (fall q).length - (k + 1) ∧ i = .int .i64 m ∧ v = .int .i64 t ∧ t = kk + sumI (minsI ((k : Int) + 1) (((fall q).drop (k + 1)).take m)) ∧ w1 = wx) (fun _ i _ => (fall q).length - (intOf i).toNat)
        case atStart => exact ⟨0, kk, Nat.zero_le _, rfl, by first | rfl | go_num, by simp [minsI, sumI], rfl⟩
        case round =>
          obtain ⟨m, t, hm, rfl, rfl, ht, rfl⟩ := hrel
          have hbm := Bm.out m
          have ht0 : 0 ≤ t ∧ t ≤ 132 + 12 * m := by omega
          obtain ⟨ht0, ht1⟩ := ht0
          have Ht := Lib.hid ht
          clear ht hbm
          by_cases hmt : m < (fall q).length - (k + 1)
          · obtain ⟨y, hy⟩ := getSome (fall q) (k + 1 + m) (by omega)
            have d1 := own_intAt own1 hy
            have hy0 := isNums_at Hn.out hy
            have hmi : (m : Int) < (((fall q).length - (k + 1) : Nat) : Int) := by omega
            have hmi2 : (m : Int) < ((fall q).length : Int) - ((k : Int) + 1) := by omega
            have Hy := Lib.hid hy
            clear hy
            by_cases hmin : (k : Int) + 1 < y
            · go_wp2
              go_roundw
              case rel =>
                refine ⟨m + 1, t + ((k : Int) + 1), by omega, by go_num, by go_num, ?_, by simp⟩
                rw [List.take_add_one, List.getElem?_drop, Hy.out, Option.toList_some, minsI_snoc, sumI_snoc, if_pos (by omega), Ht.out]
                omega
              case measure => simp [intOf]; omega
            · go_wp2
              go_roundw
              case rel =>
                refine ⟨m + 1, t + y, by omega, by go_num, by go_num, ?_, by simp⟩
                rw [List.take_add_one, List.getElem?_drop, Hy.out, Option.toList_some, minsI_snoc, sumI_snoc, if_neg (by omega), Ht.out]
                omega
              case measure => simp [intOf]; omega
          · have hml : m = (fall q).length - (k + 1) := by omega
            have hge : ¬ ((m : Int) < (((fall q).length - (k + 1) : Nat) : Int)) := by omega
            have hge2 : ¬ ((m : Int) < ((fall q).length : Int) - ((k : Int) + 1)) := by omega
            have hmost : t = mostI (fall q) (k + 1) := by
              have h1 := Ht.out
              have h2 := Hkk.out
              unfold mostI
              rw [List.take_of_length_le (by rw [List.length_drop]; omega)] at h1
              rw [h1, ← h2]
              have e1 : (((k + 1 : Nat) : Int) * (((k + 1 : Nat) : Int) - 1)) = (((k + 1) * k : Nat) : Int) := by
                rw [show ((k + 1 : Nat) : Int) - 1 = k from by omega, Int.natCast_mul]
              rw [e1]
              have e2 : ((k + 1 : Nat) : Int) = (k : Int) + 1 := by omega
              rw [e2]
            have hsum : s + x = sumI ((fall q).take (k + 1)) := Hxs.out.symm
            by_cases hf : t < s + x
            · have hfail : failAt (fall q) (k + 1) = true := by unfold failAt; rw [← hmost, ← hsum]; exact decide_eq_true hf
              have He := Lib.hid (failsI_at hlt Hg.out hfail)
              clear hmost hsum hfail
              go_wp2
              go_ret
              exact ⟨by rw [He.out]; rfl, hb1⟩
            · have hfail : failAt (fall q) (k + 1) = false := by unfold failAt; rw [← hmost, ← hsum]; exact decide_eq_false hf
              have Hf := Lib.hid hfail
              have Hsum := Lib.hid hsum
              clear hmost hsum hfail
              go_wp2
              go_roundw
              case rel =>
                refine ⟨k + 1, s + x, by omega, by go_num, by go_num, Hsum.out, fun j hj => ?_, by simp⟩
                by_cases hjk : j = k
                · subst hjk; exact Hf.out
                · exact Hg.out j (by omega)
              case measure => simp [intOf]; omega
    · have hkl : k = (fall q).length := by omega
      have He := Lib.hid (failsI_none fun j hj => Hg.out j (by omega))
      have hge : ¬ ((k : Int) + 1 ≤ (fall q).length) := by omega
      have hge2 : ¬ ((k : Int) < (fall q).length) := by omega
      go_wp2
      go_ret
      exact ⟨by rw [He.out]; rfl, hb1⟩
end Go.Proofs.Ytkonibmmdinmbaa
