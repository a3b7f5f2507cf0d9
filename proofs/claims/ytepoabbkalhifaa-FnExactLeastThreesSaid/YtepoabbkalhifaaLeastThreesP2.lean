/-
  Texts put together for the claim of 'LeastThrees' (pack 2): Least, LawLeastThrees, Head, Facts.
-/
import Derived.Test.YtepoabbkalhifaaLeastThreesP1
import Derived.Deep.RegionHeld3
import Derived.Test.YtepoabbkalhifaaRows
/-
  'LeastOneKind', 'LeastThrees': the model's and the program's, by their contracts.
-/
namespace Go.Proofs.Ytepoabbkalhifaa
open Go.RowKit

/-- waysI at three, up to 100 people -/
theorem ways3_all : ∀ n : Fin 101, ∀ i : Fin 4, 0 ≤ waysI (n.val : Int) i.val ∧ waysI (n.val : Int) i.val ≤ 200000 := by decide +kernel
theorem ways3_bound {n : Int} (h0 : 0 ≤ n) (h1 : n ≤ 100) {i : Nat} (hi : i ≤ 3) : 0 ≤ waysI n i ∧ waysI n i ≤ 200000 := by
  have := ways3_all ⟨n.toNat, by omega⟩ ⟨i, by omega⟩
  rwa [show ((n.toNat : Nat) : Int) = n from by omega] at this
theorem mul_within3 {a b : Int} (ha : 0 ≤ a ∧ a ≤ 200000) (hb : -200 ≤ b ∧ b ≤ 200) : -40000000 ≤ a * b ∧ a * b ≤ 40000000 := by
  constructor
  · have h1 : a * (-200) ≤ a * b := Int.mul_le_mul_of_nonneg_left hb.1 ha.1
    omega
  · have h1 : a * b ≤ a * 200 := Int.mul_le_mul_of_nonneg_left hb.2 ha.1
    omega
set_option maxHeartbeats 1000000 in
set_option maxRecDepth 100000 in
theorem waysThree_any (n : Int) (hn0 : 0 ≤ n) (hn1 : n ≤ 100) (w : World) :
    Calls Try.prog 65 #[.int .i64 n, .int .i64 3] w fun e w' => e = .returned (.int .i64 (waysI n 3)) ∧ w = w' := by
  have hbd := fun i (hi : i ≤ 3) => ways3_bound hn0 hn1 hi
  have Hbd := Lib.hid hbd
  clear hbd
  go_enter Try.func65, Try.ntmps65
  go_wp2
  go_loop [5, 8] (fun v i => ∃ (j : Nat) (u : Int), j ≤ 3 ∧ i = .int .i64 j ∧ v = .int .i64 u ∧ u = waysI n j) (fun _ i => 3 - (intOf i).toNat)
  case atStart => exact ⟨0, 1, Nat.zero_le _, rfl, rfl, rfl⟩
  case round =>
    obtain ⟨j, u, hj, rfl, rfl, hu⟩ := hrel
    have hub := Hbd.out j hj
    rw [← hu] at hub
    obtain ⟨hu0, hu1⟩ := hub
    have Hu := Lib.hid hu
    by_cases hlt : j < 3
    · have hnx := Hbd.out (j + 1) hlt
      have e : waysI n (j + 1) = (u * (n - j)).tdiv ((j : Int) + 1) := by rw [hu]; rfl
      rw [e] at hnx
      have He := Lib.hid e
      obtain ⟨hm0, hm1⟩ := mul_within3 (a := u) (b := n - j) ⟨hu0, hu1⟩ (by omega)
      have hw1 : IntKind.i64.wrap (u * (n - j)) = u * (n - j) := wrap_small (by omega)
      have hw2 : IntKind.i64.wrap ((u * (n - j)).tdiv ((j : Int) + 1)) = (u * (n - j)).tdiv ((j : Int) + 1) := wrap_small (by omega)
      have hji : (j : Int) < (3 : Int) := by omega
      have hj1 : ¬ ((j : Int) + 1 = 0) := by omega
      clear hu e hnx
      go_wp2
      go_round
      case rel => exact ⟨j + 1, _, by omega, by go_num, rfl, He.out.symm⟩
      case measure => simp [intOf]; omega
    · have hjk : j = 3 := by omega
      have hge : ¬ ((j : Int) < (3 : Int)) := by omega
      clear hu
      go_wp2
      go_ret
      exact ⟨by rw [Hu.out, hjk]; rfl, rfl⟩

def leastI (n : Int) : Int := waysI n 3 - (n * ((n - 1) * (n - 1)).tdiv 4).tdiv 2
theorem least_all : ∀ n : Fin 101, (0 ≤ ((n.val : Int) - 1) * ((n.val : Int) - 1) ∧ ((n.val : Int) - 1) * ((n.val : Int) - 1) ≤ 300000) ∧ (0 ≤ (((n.val : Int) - 1) * ((n.val : Int) - 1)).tdiv 4 ∧ (((n.val : Int) - 1) * ((n.val : Int) - 1)).tdiv 4 ≤ 300000) ∧
    (0 ≤ (n.val : Int) * (((n.val : Int) - 1) * ((n.val : Int) - 1)).tdiv 4 ∧ (n.val : Int) * (((n.val : Int) - 1) * ((n.val : Int) - 1)).tdiv 4 ≤ 300000) ∧ (0 ≤ ((n.val : Int) * (((n.val : Int) - 1) * ((n.val : Int) - 1)).tdiv 4).tdiv 2 ∧ ((n.val : Int) * (((n.val : Int) - 1) * ((n.val : Int) - 1)).tdiv 4).tdiv 2 ≤ 300000) := by decide +kernel
set_option maxHeartbeats 1000000 in
theorem leastOneKind_any (n : Int) (h0 : 0 ≤ n) (h1 : n ≤ 100) (w : World) :
    Calls Try.prog 89 #[.int .i64 n] w fun e w' => e = .returned (.int .i64 (leastI n)) ∧ w = w' := by
  have hw := ways3_bound h0 h1 (Nat.le_refl 3)
  have hall := least_all ⟨n.toNat, by omega⟩
  simp only [show ((n.toNat : Nat) : Int) = n from by omega] at hall
  obtain ⟨⟨a0, a1⟩, ⟨b0, b1⟩, ⟨c0, c1⟩, ⟨d0, d1⟩⟩ := hall
  have e : leastI n = waysI n 3 - (n * ((n - 1) * (n - 1)).tdiv 4).tdiv 2 := rfl
  rw [e]
  clear e
  have w1 : IntKind.i64.wrap ((n - 1) * (n - 1)) = (n - 1) * (n - 1) := wrap_small (by omega)
  have w2 : IntKind.i64.wrap (((n - 1) * (n - 1)).tdiv 4) = ((n - 1) * (n - 1)).tdiv 4 := wrap_small (by omega)
  have w3 : IntKind.i64.wrap (n * ((n - 1) * (n - 1)).tdiv 4) = n * ((n - 1) * (n - 1)).tdiv 4 := wrap_small (by omega)
  have w4 : IntKind.i64.wrap ((n * ((n - 1) * (n - 1)).tdiv 4).tdiv 2) = (n * ((n - 1) * (n - 1)).tdiv 4).tdiv 2 := wrap_small (by omega)
  obtain ⟨x, hx⟩ : ∃ x, waysI n 3 = x := ⟨_, rfl⟩
  obtain ⟨y, hy⟩ : ∃ y, (n * ((n - 1) * (n - 1)).tdiv 4).tdiv 2 = y := ⟨_, rfl⟩
  rw [hy] at w4 d0 d1 ⊢
  rw [hx] at hw ⊢
  have w5 : IntKind.i64.wrap (x - y) = x - y := wrap_small (by omega)
  have Hx := Lib.hid hx
  clear hx
  go_enter Try.func89, Try.ntmps89
  go_wp2_with (go_at_call 65; refine (waysThree_any n h0 h1 _).mono ?_; rw [Hx.out]; rintro e w' ⟨rfl, rfl⟩)
  go_ret
  exact ⟨rfl, rfl⟩

/-! ## LeastOneKind -/
def resLeastOneKind (n : Int) : Int × Bool := if 0 ≤ n ∧ n ≤ 12 then (waysI n 3 - (n * ((n - 1) * (n - 1)).tdiv 4).tdiv 2, true) else (0, false)
theorem thirteen {n : Int} (h : 0 ≤ n ∧ n ≤ 12) : n = 0 ∨ n = 1 ∨ n = 2 ∨ n = 3 ∨ n = 4 ∨ n = 5 ∨ n = 6 ∨ n = 7 ∨ n = 8 ∨ n = 9 ∨ n = 10 ∨ n = 11 ∨ n = 12 := by omega
set_option maxHeartbeats 4000000 in
theorem specLeastOneKind_any (n : Int) (w : World) : Calls Try.prog 59 #[.int .i64 n] w fun e w' => e = .returned (.tuple #[.int .i64 (resLeastOneKind n).1, .bool (resLeastOneKind n).2]) ∧ Below w.heap.size w w' := by
  by_cases h : 0 ≤ n ∧ n ≤ 12
  · rcases thirteen h with rfl | rfl | rfl | rfl | rfl | rfl | rfl | rfl | rfl | rfl | rfl | rfl | rfl <;>
    · go_enter Try.func59, Try.ntmps59
      go_wp2_with fail
      refine (paPeople_yes _ (by decide) (by decide) _).mono ?_
      rintro e w' ⟨rfl, rfl⟩
      go_wp2_with (go_at_call 96; refine (trChoose_any _ 3 _ (.inl (by decide))).mono ?_; rintro e w' ⟨rfl, rfl⟩)
      go_ret2
      exact ⟨by first | rfl | kernel_rfl, Below.refl _ _⟩
  · have e : resLeastOneKind n = (0, false) := by simp only [resLeastOneKind, if_neg h]
    rw [e]
    go_enter Try.func59, Try.ntmps59
    go_wp2_with fail
    refine (paPeople_no n (by omega) _).mono ?_
    rintro e w' ⟨rfl, rfl⟩
    go_wp2
    go_ret2
    exact ⟨rfl, Below.refl _ _⟩
set_option maxHeartbeats 4000000 in
theorem implLeastOneKind_any (n : Int) (w : World) : Calls Try.prog 60 #[.int .i64 n] w fun e w' => e = .returned (.tuple #[.int .i64 (resLeastOneKind n).1, .bool (resLeastOneKind n).2]) ∧ Below w.heap.size w w' := by
  by_cases h : 0 ≤ n ∧ n ≤ 12
  · rcases thirteen h with rfl | rfl | rfl | rfl | rfl | rfl | rfl | rfl | rfl | rfl | rfl | rfl | rfl <;>
    · go_enter Try.func60, Try.ntmps60
      go_wp2_with (go_at_call 89; refine (leastOneKind_any _ (by decide) (by decide) _).mono ?_; rintro e w' ⟨rfl, rfl⟩)
      go_ret2
      exact ⟨by first | rfl | kernel_rfl, Below.refl _ _⟩
  · have e : resLeastOneKind n = (0, false) := by simp only [resLeastOneKind, if_neg h]
    rw [e]
    by_cases h0 : n < 0
    · go_enter Try.func60, Try.ntmps60
      go_wp2
      go_ret2
      exact ⟨by first | rfl | kernel_rfl, Below.refl _ _⟩
    · have h1 : 12 < n := by omega
      go_enter Try.func60, Try.ntmps60
      go_wp2
      go_ret2
      exact ⟨by first | rfl | kernel_rfl, Below.refl _ _⟩

/-! ## LeastThrees -/
def resLeastThrees (n : Int) : Int × Bool := if 0 ≤ n ∧ n ≤ 100 then (leastI n, true) else (0, false)
set_option maxHeartbeats 1000000 in
theorem implLeastThrees_any (n : Int) (w : World) : Calls Try.prog 47 #[.int .i64 n] w fun e w' => e = .returned (.tuple #[.int .i64 (resLeastThrees n).1, .bool (resLeastThrees n).2]) ∧ Below w.heap.size w w' := by
  by_cases h0 : n < 0
  · have e : resLeastThrees n = (0, false) := by rw [resLeastThrees, if_neg (by omega)]
    rw [e]
    go_enter Try.func47, Try.ntmps47
    go_wp2
    go_ret2
    exact ⟨rfl, Below.refl _ _⟩
  · by_cases h1 : 100 < n
    · have e : resLeastThrees n = (0, false) := by rw [resLeastThrees, if_neg (by omega)]
      rw [e]
      go_enter Try.func47, Try.ntmps47
      go_wp2
      go_ret2
      exact ⟨rfl, Below.refl _ _⟩
    · have e : resLeastThrees n = (leastI n, true) := by rw [resLeastThrees, if_pos (by omega)]
      rw [e]
      have h0' : 0 ≤ n := by omega
      have h1' : n ≤ 100 := by omega
      go_enter Try.func47, Try.ntmps47
      go_wp2_with (go_at_call 89; refine (leastOneKind_any n h0' h1' _).mono ?_; rintro e w' ⟨rfl, rfl⟩)
      go_ret2
      exact ⟨rfl, Below.refl _ _⟩
theorem even_all : ∀ v : Fin 51, leastI (2 * (v.val : Int)) = ((v.val : Int) * ((v.val : Int) - 1) * ((v.val : Int) - 2)).tdiv 3 ∧ (0 ≤ (v.val : Int) * ((v.val : Int) - 1) ∧ (v.val : Int) * ((v.val : Int) - 1) ≤ 300000) ∧ (0 ≤ (v.val : Int) * ((v.val : Int) - 1) * ((v.val : Int) - 2) ∧ (v.val : Int) * ((v.val : Int) - 1) * ((v.val : Int) - 2) ≤ 300000) ∧
    (0 ≤ ((v.val : Int) * ((v.val : Int) - 1) * ((v.val : Int) - 2)).tdiv 3 ∧ ((v.val : Int) * ((v.val : Int) - 1) * ((v.val : Int) - 2)).tdiv 3 ≤ 300000) ∧ (0 ≤ (2 * (v.val : Int)).tdiv 4 ∧ (2 * (v.val : Int)).tdiv 4 ≤ 25) ∧ (2 * (v.val : Int)).tmod 2 = 0 ∧ (2 * (v.val : Int)).tdiv 2 = v.val := by decide +kernel
theorem one_all : ∀ v : Fin 25, leastI (4 * (v.val : Int) + 1) = (2 * (v.val : Int) * ((v.val : Int) - 1) * (4 * (v.val : Int) + 1)).tdiv 3 ∧ (0 ≤ 2 * (v.val : Int) * ((v.val : Int) - 1) ∧ 2 * (v.val : Int) * ((v.val : Int) - 1) ≤ 300000) ∧ (0 ≤ 2 * (v.val : Int) * ((v.val : Int) - 1) * (4 * (v.val : Int) + 1) ∧ 2 * (v.val : Int) * ((v.val : Int) - 1) * (4 * (v.val : Int) + 1) ≤ 300000) ∧
    (0 ≤ (2 * (v.val : Int) * ((v.val : Int) - 1) * (4 * (v.val : Int) + 1)).tdiv 3 ∧ (2 * (v.val : Int) * ((v.val : Int) - 1) * (4 * (v.val : Int) + 1)).tdiv 3 ≤ 300000) ∧ (4 * (v.val : Int) + 1).tmod 2 = 1 ∧ (4 * (v.val : Int) + 1).tmod 4 = 1 ∧ (4 * (v.val : Int) + 1).tdiv 4 = v.val := by decide +kernel
theorem three_all : ∀ v : Fin 25, leastI (4 * (v.val : Int) + 3) = (2 * (v.val : Int) * ((v.val : Int) + 1) * (4 * (v.val : Int) - 1)).tdiv 3 ∧ (0 ≤ 2 * (v.val : Int) * ((v.val : Int) + 1) ∧ 2 * (v.val : Int) * ((v.val : Int) + 1) ≤ 300000) ∧ (0 ≤ 2 * (v.val : Int) * ((v.val : Int) + 1) * (4 * (v.val : Int) - 1) ∧ 2 * (v.val : Int) * ((v.val : Int) + 1) * (4 * (v.val : Int) - 1) ≤ 300000) ∧
    (0 ≤ (2 * (v.val : Int) * ((v.val : Int) + 1) * (4 * (v.val : Int) - 1)).tdiv 3 ∧ (2 * (v.val : Int) * ((v.val : Int) + 1) * (4 * (v.val : Int) - 1)).tdiv 3 ≤ 300000) ∧ (4 * (v.val : Int) + 3).tmod 2 = 1 ∧ (4 * (v.val : Int) + 3).tmod 4 = 3 ∧ (4 * (v.val : Int) + 3).tdiv 4 = v.val := by decide +kernel
set_option maxHeartbeats 2000000 in
set_option maxRecDepth 100000 in
theorem specLeastThrees_any (n : Int) (w : World) : Calls Try.prog 46 #[.int .i64 n] w fun e w' => e = .returned (.tuple #[.int .i64 (resLeastThrees n).1, .bool (resLeastThrees n).2]) ∧ Below w.heap.size w w' := by
  by_cases h : 0 ≤ n ∧ n ≤ 100
  · have e : resLeastThrees n = (leastI n, true) := by rw [resLeastThrees, if_pos h]
    rw [e]
    clear e
    obtain ⟨r, hr⟩ : ∃ r, leastI n = r := ⟨_, rfl⟩
    rw [hr]
    by_cases h2 : n % 2 = 0
    · obtain ⟨v, rfl⟩ : ∃ v : Nat, n = 2 * (v : Int) := ⟨(n / 2).toNat, by omega⟩
      have hv : v ≤ 50 := by omega
      obtain ⟨e1, ⟨a0, a1⟩, ⟨b0, b1⟩, ⟨c0, c1⟩, ⟨d0, d1⟩, e2, e3⟩ := even_all ⟨v, by omega⟩
      simp only at e1 a0 a1 b0 b1 c0 c1 d0 d1 e2 e3
      obtain ⟨h00, h01⟩ := h
      rw [e1] at hr
      have Hr := Lib.hid hr
      clear h2 e1 hr
      have w1 : IntKind.i64.wrap ((v : Int) * ((v : Int) - 1)) = (v : Int) * ((v : Int) - 1) := wrap_small (by omega)
      have w2 : IntKind.i64.wrap ((v : Int) * ((v : Int) - 1) * ((v : Int) - 2)) = (v : Int) * ((v : Int) - 1) * ((v : Int) - 2) := wrap_small (by omega)
      have w3 : IntKind.i64.wrap (((v : Int) * ((v : Int) - 1) * ((v : Int) - 2)).tdiv 3) = ((v : Int) * ((v : Int) - 1) * ((v : Int) - 2)).tdiv 3 := wrap_small (by omega)
      have w4 : IntKind.i64.wrap ((2 * (v : Int)).tdiv 4) = (2 * (v : Int)).tdiv 4 := wrap_small (by omega)
      go_enter Try.func46, Try.ntmps46
      go_wp2_with fail
      refine (l1In_yes _ 0 100 h00 h01 _).mono ?_
      rintro e w' ⟨rfl, rfl⟩
      go_wp2
      go_ret2
      exact ⟨by rw [← Hr.out]; rfl, Below.refl _ _⟩
    · by_cases h4 : n % 4 = 1
      · obtain ⟨v, rfl⟩ : ∃ v : Nat, n = 4 * (v : Int) + 1 := ⟨(n / 4).toNat, by omega⟩
        have hv : v ≤ 24 := by omega
        obtain ⟨e1, ⟨a0, a1⟩, ⟨b0, b1⟩, ⟨c0, c1⟩, e2, e3, e4⟩ := one_all ⟨v, by omega⟩
        simp only at e1 a0 a1 b0 b1 c0 c1 e2 e3 e4
        obtain ⟨h00, h01⟩ := h
        rw [e1] at hr
        have Hr := Lib.hid hr
        clear h2 h4 e1 hr
        have w1 : IntKind.i64.wrap (2 * (v : Int) * ((v : Int) - 1)) = 2 * (v : Int) * ((v : Int) - 1) := wrap_small (by omega)
        have w2 : IntKind.i64.wrap (2 * (v : Int) * ((v : Int) - 1) * (4 * (v : Int) + 1)) = 2 * (v : Int) * ((v : Int) - 1) * (4 * (v : Int) + 1) := wrap_small (by omega)
        have w3 : IntKind.i64.wrap ((2 * (v : Int) * ((v : Int) - 1) * (4 * (v : Int) + 1)).tdiv 3) = (2 * (v : Int) * ((v : Int) - 1) * (4 * (v : Int) + 1)).tdiv 3 := wrap_small (by omega)
        go_enter Try.func46, Try.ntmps46
        go_wp2_with fail
        refine (l1In_yes _ 0 100 h00 h01 _).mono ?_
        rintro e w' ⟨rfl, rfl⟩
        go_wp2
        go_ret2
        exact ⟨by rw [← Hr.out]; rfl, Below.refl _ _⟩
      · obtain ⟨v, rfl⟩ : ∃ v : Nat, n = 4 * (v : Int) + 3 := ⟨(n / 4).toNat, by omega⟩
        have hv : v ≤ 24 := by omega
        obtain ⟨e1, ⟨a0, a1⟩, ⟨b0, b1⟩, ⟨c0, c1⟩, e2, e3, e4⟩ := three_all ⟨v, by omega⟩
        simp only at e1 a0 a1 b0 b1 c0 c1 e2 e3 e4
        obtain ⟨h00, h01⟩ := h
        rw [e1] at hr
        have Hr := Lib.hid hr
        clear h2 h4 e1 hr
        have w1 : IntKind.i64.wrap (2 * (v : Int) * ((v : Int) + 1)) = 2 * (v : Int) * ((v : Int) + 1) := wrap_small (by omega)
        have w2 : IntKind.i64.wrap (2 * (v : Int) * ((v : Int) + 1) * (4 * (v : Int) - 1)) = 2 * (v : Int) * ((v : Int) + 1) * (4 * (v : Int) - 1) := wrap_small (by omega)
        have w3 : IntKind.i64.wrap ((2 * (v : Int) * ((v : Int) + 1) * (4 * (v : Int) - 1)).tdiv 3) = (2 * (v : Int) * ((v : Int) + 1) * (4 * (v : Int) - 1)).tdiv 3 := wrap_small (by omega)
        go_enter Try.func46, Try.ntmps46
        go_wp2_with fail
        refine (l1In_yes _ 0 100 h00 h01 _).mono ?_
        rintro e w' ⟨rfl, rfl⟩
        go_wp2
        go_ret2
        exact ⟨by rw [← Hr.out]; rfl, Below.refl _ _⟩
  · have e : resLeastThrees n = (0, false) := by rw [resLeastThrees, if_neg h]
    rw [e]
    go_enter Try.func46, Try.ntmps46
    go_wp2_with fail
    refine (l1In_no n 0 100 (by omega) _).mono ?_
    rintro e w' ⟨rfl, rfl⟩
    go_wp2
    go_ret2
    exact ⟨rfl, Below.refl _ _⟩
end Go.Proofs.Ytepoabbkalhifaa
/-
  'laws.FnExactLeastThrees' returns true, whatever its arguments: out of the contracts of the model's function and of the program's.
-/
namespace Go.Proofs.Ytepoabbkalhifaa
open Go.RowKit

set_option maxHeartbeats 4000000 in
set_option maxRecDepth 100000 in
theorem lawLeastThrees_any (i0 : Int) (W : World)  :
    Calls Try.prog 11 #[.int .i64 i0] W fun e w' => e = .returned (.bool true) ∧ Below W.heap.size W w' := by
  have hone : (0 : Int) ≤ 1 ∧ (1 : Int) ≤ 16777216 := by omega
  obtain ⟨⟨rb, rok⟩, hres⟩ : ∃ r, resLeastThrees i0 = r := ⟨_, rfl⟩
  have Hres := Lib.hid hres
  clear hres
  go_enter Try.func11, Try.ntmps11
  go_wp2_with fail
  refine (specLeastThrees_any i0 _ ).mono ?_
  rw [Hres.out]
  rintro e w1 ⟨rfl, hb1⟩
  have g1 : Below W.heap.size W w1 := hb1
  have s1 := hb1.size
  have k1 : Below W.heap.size W w1 := g1
  go_wp2_with fail
  refine (implLeastThrees_any i0 _ ).mono ?_
  rw [Hres.out]
  rintro e w2 ⟨rfl, hb2⟩
  have g2 : Below w1.heap.size w1 w2 := hb2
  have s2 := hb2.size
  have k2 := k1.trans (g2.mono k1.size)
  go_wp2
  go_ret
  exact ⟨rfl, k2⟩
end Go.Proofs.Ytepoabbkalhifaa
/-
  THE PROGRAM's HEAD, LOOKED AT ONCE: which make it is, and that a call may enter it. (The head's text is long: the kernel must not read it twice.)
-/
namespace Go.Proofs.Ytepoabbkalhifaa

theorem make_of {P : Program} {rest : List (List Char)} (h : behindMainWord (wordsSigns P.initOrder.toList) = "cut".toList :: rest) : P.make = some .cut := by
  unfold Program.make
  rw [h]
  rfl
theorem strip_cut (rest : List (List Char)) : stripLifts liftWords ("cut".toList :: rest) = ([], "cut".toList :: rest) := rfl
theorem lifts_of {P : Program} {rest : List (List Char)} (h : behindMainWord (wordsSigns P.initOrder.toList) = "cut".toList :: rest) : P.headLifts = [] := by
  unfold Program.headLifts
  rw [h, strip_cut]
  rfl
theorem final_of {P : Program} {rest : List (List Char)} (h : behindMainWord (wordsSigns P.initOrder.toList) = "cut".toList :: rest) : P.liftsFinal = false := by
  unfold Program.liftsFinal
  rw [lifts_of h, h]
  rfl
theorem enter_of {P : Program} {rest : List (List Char)} (h : behindMainWord (wordsSigns P.initOrder.toList) = "cut".toList :: rest) (h1 : P.laysLater = false) (h2 : P.bearsReflect = false) (h3 : P.doorFits [] = true) : P.mayEnter = true := by
  unfold Program.mayEnter
  rw [h]
  show (_ || _ || _) = true
  rw [strip_cut, h1, h2, h3]
  rfl
end Go.Proofs.Ytepoabbkalhifaa
/-
  THE PROGRAM's CLOSED FACTS, EACH ONCE; and how a row's facts are put together out of them.
-/
namespace Go.Proofs.Ytepoabbkalhifaa
open Go.ChangeShapes Go.WideShapes Go.ChangeAt Go.RowKit

def headSigns : List Char := ([104, 97, 114, 110, 101, 115, 115, 32, 99, 100, 56, 97, 99, 56, 48, 53, 55, 98, 98, 102, 57, 52, 102, 101, 100, 56, 100, 102, 101, 49, 51, 97, 54, 57, 57, 97, 55, 99, 57, 97, 55, 57, 53, 56, 99, 49, 48, 55, 52, 99, 98, 98, 49, 53, 56, 97, 55, 55, 97, 56, 102, 51, 55, 52, 50, 57, 53, 48, 52, 53, 99, 52, 32, 99, 117, 116, 32, 97, 116, 32, 108, 111, 111, 112, 46, 101, 120, 97, 109, 112, 108, 101, 47, 103, 48, 49, 50, 53, 55, 47, 108, 97, 119, 115, 46, 70, 110, 69, 120, 97, 99, 116, 73, 115, 80, 97, 105, 110, 116, 105, 110, 103, 32, 108, 111, 111, 112, 46, 101, 120, 97, 109, 112, 108, 101, 47, 103, 48, 49, 50, 53, 55, 47, 108, 97, 119, 115, 46, 70, 110, 69, 120, 97, 99, 116, 67, 111, 108, 111, 117, 114, 79, 102, 32, 108, 111, 111, 112, 46, 101, 120, 97, 109, 112, 108, 101, 47, 103, 48, 49, 50, 53, 55, 47, 108, 97, 119, 115, 46, 70, 110, 69, 120, 97, 99, 116, 80, 97, 105, 110, 116, 80, 97, 105, 114, 32, 108, 111, 111, 112, 46, 101, 120, 97, 109, 112, 108, 101, 47, 103, 48, 49, 50, 53, 55, 47, 108, 97, 119, 115, 46, 70, 110, 69, 120, 97, 99, 116, 80, 97, 105, 110, 116, 105, 110, 103, 79, 102, 32, 108, 111, 111, 112, 46, 101, 120, 97, 109, 112, 108, 101, 47, 103, 48, 49, 50, 53, 55, 47, 108, 97, 119, 115, 46, 70, 110, 69, 120, 97, 99, 116, 80, 97, 114, 116, 121, 79, 102, 67, 111, 108, 111, 117, 114, 32, 108, 111, 111, 112, 46, 101, 120, 97, 109, 112, 108, 101, 47, 103, 48, 49, 50, 53, 55, 47, 108, 97, 119, 115, 46, 70, 110, 69, 120, 97, 99, 116, 79, 110, 101, 67, 111, 108, 111, 117, 114, 84, 104, 114, 101, 101, 115, 32, 108, 111, 111, 112, 46, 101, 120, 97, 109, 112, 108, 101, 47, 103, 48, 49, 50, 53, 55, 47, 108, 97, 119, 115, 46, 70, 110, 69, 120, 97, 99, 116, 67, 111, 117, 110, 116, 79, 110, 101, 67, 111, 108, 111, 117, 114, 32, 108, 111, 111, 112, 46, 101, 120, 97, 109, 112, 108, 101, 47, 103, 48, 49, 50, 53, 55, 47, 108, 97, 119, 115, 46, 70, 110, 69, 120, 97, 99, 116, 67, 111, 117, 110, 116, 77, 105, 120, 101, 100, 32, 108, 111, 111, 112, 46, 101, 120, 97, 109, 112, 108, 101, 47, 103, 48, 49, 50, 53, 55, 47, 108, 97, 119, 115, 46, 70, 110, 69, 120, 97, 99, 116, 76, 101, 97, 115, 116, 84, 104, 114, 101, 101, 115, 32, 108, 111, 111, 112, 46, 101, 120, 97, 109, 112, 108, 101, 47, 103, 48, 49, 50, 53, 55, 47, 108, 97, 119, 115, 46, 70, 110, 69, 120, 97, 99, 116, 70, 105, 114, 115, 116, 65, 118, 111, 105, 100, 105, 110, 103, 32, 108, 111, 111, 112, 46, 101, 120, 97, 109, 112, 108, 101, 47, 103, 48, 49, 50, 53, 55, 47, 108, 97, 119, 115, 46, 70, 110, 69, 120, 97, 99, 116, 67, 111, 117, 110, 116, 65, 118, 111, 105, 100, 105, 110, 103, 32, 108, 111, 111, 112, 46, 101, 120, 97, 109, 112, 108, 101, 47, 103, 48, 49, 50, 53, 55, 47, 108, 97, 119, 115, 46, 70, 110, 69, 120, 97, 99, 116, 69, 120, 99, 104, 97, 110, 103, 101, 67, 111, 108, 111, 117, 114, 115, 32, 108, 111, 111, 112, 46, 101, 120, 97, 109, 112, 108, 101, 47, 103, 48, 49, 50, 53, 55, 47, 108, 97, 119, 115, 46, 70, 110, 69, 120, 97, 99, 116, 82, 101, 110, 97, 109, 101, 80, 97, 105, 110, 116, 105, 110, 103, 32, 108, 111, 111, 112, 46, 101, 120, 97, 109, 112, 108, 101, 47, 103, 48, 49, 50, 53, 55, 47, 108, 97, 119, 115, 46, 70, 110, 69, 120, 97, 99, 116, 76, 101, 97, 115, 116, 79, 110, 101, 75, 105, 110, 100] : List Nat).map Char.ofNat
set_option maxRecDepth 100000 in
theorem Try.initOrder_is : Try.prog.initOrder = String.ofList headSigns := by kernel_rfl
theorem Try.initOrder_signs : Try.prog.initOrder.toList = headSigns := by rw [Try.initOrder_is]; exact String.toList_ofList
set_option maxRecDepth 100000 in
theorem head_words : (behindMainWord (wordsSigns headSigns)).take 1 = ["cut".toList] := by kernel_rfl
theorem Try.words : ∃ rest, behindMainWord (wordsSigns Try.prog.initOrder.toList) = "cut".toList :: rest := by
  rw [Try.initOrder_signs]
  have h := List.take_append_drop 1 (behindMainWord (wordsSigns headSigns))
  rw [head_words] at h
  exact ⟨_, h.symm⟩
theorem Try.make : Try.prog.make = some .cut := by obtain ⟨_, h⟩ := Try.words; exact make_of h
theorem Try.liftsFinal : Try.prog.liftsFinal = false := by obtain ⟨_, h⟩ := Try.words; exact final_of h
theorem Try.laysLater : Try.prog.laysLater = false := by kernel_rfl
theorem Try.bearsReflect : Try.prog.bearsReflect = false := by kernel_rfl
theorem Try.doorFits : Try.prog.doorFits [] = true := by kernel_rfl
theorem Try.mayEnter : Try.prog.mayEnter = true := by obtain ⟨_, h⟩ := Try.words; exact enter_of h Try.laysLater Try.bearsReflect Try.doorFits
theorem Try.mapsRowed : mapsRowed Try.prog = true := by kernel_rfl
theorem Try.stops : (Try.prog.stops == []) = true := by kernel_rfl
theorem Try.stopKnobs : (Try.prog.stopKnobs == []) = true := by kernel_rfl
theorem Try.plainKeys : Try.prog.plainKeys = true := by kernel_rfl
theorem Try.stopsHeard : Try.prog.stopsHeard = true := by kernel_rfl

/-- What the types of one law give: closed facts on its parameters and its result. -/
def typeFacts (P : Program) (fn : Func) (s : ChangeSpec) (c : OpenClaim) : Bool :=
  fn.params.all (P.readableRec ·) && namedTie P c.named s.vars && (c.stops == []) && (c.knobs == []) &&
  (c.maps == (fn.params.toList ++ s.plain.varTypes P).any (P.mapsRec ·)) && (c.ifaces == (fn.params.toList ++ s.plain.varTypes P).any (P.ifacesRec ·)) && (c.mapsOut == P.mapsAmong fn.resultTypes.toList) &&
  (c.loops == (fn.params.toList ++ s.plain.varTypes P).any (P.loopsFrom ·)) && (c.wideKeys == (fn.params.toList ++ s.plain.varTypes P ++ fn.resultTypes.toList).any (P.wideKeysFrom ·)) &&
  s.vars.all (P.varReadable ·) && fn.resultTypes.all (fun t => P.readableRec t && decide (t < P.types.size)) && (c.ifacesOut == fn.resultTypes.toList.any (P.ifacesRec ·)) && (c.loopsOut == fn.resultTypes.toList.any (P.loopsFrom ·)) && c.shortTexts.isNone &&
  (c.kinds == (if c.domain.isEmpty then [] else fn.params.toList.map fun t => match P.underlying t with | some (.int k) => some k | _ => none)) && (c.pinned == c.pinnedBy) &&
  (c.veiled == (fn.params.toList ++ s.plain.varTypes P ++ fn.resultTypes.toList).any (P.veiledRec ·)) && c.veiledFits P fn.params.toList (fn.params.toList ++ s.plain.varTypes P ++ fn.resultTypes.toList)
theorem joined_all {P : Program} {f : FuncId} {fn : Func} {s : ChangeSpec} {c : OpenClaim} (k1 : c.wf (OpenSpec.ofChange s) = true) (kt : typeFacts P fn s c = true)
    (k10 : (c.inPlace == P.inPlace f) = true) (k11 : (c.unfollowed == P.unfollowed f) = true) (k12 : (c.recurses == P.recurses f) = true) (k13 : (c.named == P.varsNamed f) = true)
    (e2 : laidOutB P = true) (e3 : mapsRowed P = true) (e7 : (P.stops == []) = true) (e9 : (P.stopKnobs == []) = true) (e22 : (c.plainKeys == P.plainKeys) = true) (e23 : P.stopsHeard = true) (e24 : P.mayEnter = true)
    (e24b : (c.lifted == P.liftsFinal) = true) (e24c : (P.make == some c.make) = true) : joinedFacts P f fn s c = true := by
  unfold typeFacts at kt
  unfold joinedFacts
  simp only [Bool.and_eq_true] at kt ⊢
  obtain ⟨⟨⟨⟨⟨⟨⟨⟨⟨⟨⟨⟨⟨⟨⟨⟨⟨t1, t2⟩, t3⟩, t4⟩, t5⟩, t6⟩, t7⟩, t8⟩, t9⟩, t10⟩, t11⟩, t12⟩, t13⟩, t14⟩, t15⟩, t16⟩, t17⟩, t18⟩ := kt
  exact ⟨⟨⟨⟨⟨⟨⟨⟨⟨⟨⟨⟨⟨⟨⟨⟨⟨⟨⟨⟨⟨⟨⟨⟨⟨⟨⟨⟨⟨⟨⟨k1, e2⟩, e3⟩, t1⟩, t2⟩, t3⟩, e7⟩, t4⟩, e9⟩, k10⟩, k11⟩, k12⟩, k13⟩, t5⟩, t6⟩, t7⟩, t8⟩, t9⟩, t10⟩, t11⟩, t12⟩, t13⟩, e22⟩, t14⟩, e23⟩, e24⟩, e24b⟩, e24c⟩, t15⟩, t16⟩, t17⟩, t18⟩
theorem joined_of {f : FuncId} {fn : Func} {s : ChangeSpec} {c : OpenClaim} (k1 : c.wf (OpenSpec.ofChange s) = true) (kt : typeFacts Try.prog fn s c = true)
    (k10 : (c.inPlace == Try.prog.inPlace f) = true) (k11 : (c.unfollowed == Try.prog.unfollowed f) = true) (k12 : (c.recurses == Try.prog.recurses f) = true) (k13 : (c.named == Try.prog.varsNamed f) = true)
    (k22 : c.plainKeys = true) (k24b : c.lifted = false) (k24c : c.make = .cut) : joinedFacts Try.prog f fn s c = true :=
  joined_all k1 kt k10 k11 k12 k13 Try.laidOut Try.mapsRowed Try.stops Try.stopKnobs (by rw [k22, Try.plainKeys]; rfl) Try.stopsHeard Try.mayEnter (by rw [k24b, Try.liftsFinal]; rfl) (by rw [k24c, Try.make]; rfl)
end Go.Proofs.Ytepoabbkalhifaa
