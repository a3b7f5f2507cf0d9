/-
  'laws.FnExactSortNumbers' returns true, whatever its arguments: out of the contracts of the model's function and of the program's.
-/
import Derived.Test.YtkonibmmdinmbaaSortI
import Derived.Test.YtkonibmmdinmbaaInts
import Derived.Deep.RegionHeld3
namespace Go.Proofs.Ytkonibmmdinmbaa
open Go.RowKit

set_option maxHeartbeats 4000000 in
set_option maxRecDepth 100000 in
theorem lawSortNumbers_any (q0 : List Int) (A0 : Option Addr) (c0 : Nat) (W : World) (hl0 : q0.length ≤ maxLen) (hA0 : CRead W W.heap.size A0 (icells q0)) :
    Calls Try.prog 14 #[.slice A0 q0.length c0] W fun e w' => e = .returned (.bool true) ∧ Below W.heap.size W w' := by
  have hone : (0 : Int) ≤ 1 ∧ (1 : Int) ≤ 16777216 := by omega
  by_cases hq0 : (1048576 : Int) < (q0.length : Int)
  · unfold maxLen at *
    go_enter Try.func14, Try.ntmps14
    go_wp2
    go_ret
    exact ⟨rfl, by go_grown⟩
  have hn0 : q0.length ≤ 1048576 := by omega
  obtain ⟨⟨rm, rok⟩, hres⟩ : ∃ r, resSortNumbers q0 = r := ⟨_, rfl⟩
  have hrn : rm.length ≤ 1048576 := by have h := resSortNumbers_len q0; rw [hres] at h; exact h
  have hrl : rm.length ≤ maxLen := by unfold maxLen; omega
  have Hres := Lib.hid hres
  clear hres
  go_enter Try.func14, Try.ntmps14
  go_wp2_with fail
  refine (toIntS_got q0 A0 c0 _ hn0 hA0).mono ?_
  rintro e w1 ⟨T1, d1, rfl, n1, hb1⟩
  have g1 : Below W.heap.size W w1 := hb1
  have s1 := hb1.size
  have k1 : Below W.heap.size W w1 := g1
  have r1 : Lies (.slice T1 q0.length d1) (W.heap.size) w1.heap.size := own_lies n1
  go_wp2_with fail
  refine (specSortNumbers_any q0 _ _ _ hn0 (CRead.of_own n1)).mono ?_
  rw [Hres.out]
  rintro e w2 ⟨T2, d2, rfl, n2, hb2⟩
  have g2 : Below w1.heap.size w1 w2 := hb2
  have s2 := hb2.size
  have o2_0 := own_below n1 g2 (Nat.le_refl _)
  have k2 := k1.trans (g2.mono k1.size)
  clear n1
  have r2 : Lies (.slice T2 rm.length d2) (w1.heap.size) w2.heap.size := own_lies n2
  clear o2_0 r1
  go_wp2_with fail
  refine (toIntS_got q0 A0 c0 _ hn0 ((hA0.below k2 (Nat.le_refl _)).more k2.size)).mono ?_
  rintro e w3 ⟨T3, d3, rfl, n3, hb3⟩
  have g3 : Below w2.heap.size w2 w3 := hb3
  have s3 := hb3.size
  have o3_0 := own_below n2 g3 (Nat.le_refl _)
  have k3 := k2.trans (g3.mono k2.size)
  clear n2
  have r3 : Lies (.slice T3 q0.length d3) (w2.heap.size) w3.heap.size := own_lies n3
  go_wp2_with fail
  refine (implSortNumbers_any q0 _ _ _ hn0 (CRead.of_own n3)).mono ?_
  rw [Hres.out]
  rintro e w4 ⟨T4, d4, rfl, n4, hb4⟩
  have g4 : Below w3.heap.size w3 w4 := hb4
  have s4 := hb4.size
  have o4_0 := own_below o3_0 g4 (Nat.le_refl _)
  have o4_1 := own_below n3 g4 (Nat.le_refl _)
  have k4 := k3.trans (g4.mono k3.size)
  clear o3_0 n3
  have r4 : Lies (.slice T4 rm.length d4) (w3.heap.size) w4.heap.size := own_lies n4
  go_wp2_with fail
  refine (eqIntS_any rm rm _ _ _ _ _ hrl hrl (CRead.of_own n4) (CRead.of_own o4_0)).mono ?_
  rw [decide_eq_true rfl]
  rintro e w5 ⟨rfl, hb5⟩
  have g5 : Below w4.heap.size w4 w5 := hb5
  have s5 := hb5.size
  have o5_0 := own_below o4_0 g5 (Nat.le_refl _)
  have o5_1 := own_below o4_1 g5 (Nat.le_refl _)
  have o5_2 := own_below n4 g5 (Nat.le_refl _)
  have k5 := k4.trans (g5.mono k4.size)
  clear o4_0 o4_1 n4
  go_wp2_with fail
  refine (toIntS_got q0 A0 c0 _ hn0 ((hA0.below k5 (Nat.le_refl _)).more k5.size)).mono ?_
  rintro e w6 ⟨T6, d6, rfl, n6, hb6⟩
  have g6 : Below w5.heap.size w5 w6 := hb6
  have s6 := hb6.size
  have o6_0 := own_below o5_0 g6 (Nat.le_refl _)
  have o6_1 := own_below o5_1 g6 (Nat.le_refl _)
  have o6_2 := own_below o5_2 g6 (Nat.le_refl _)
  have k6 := k5.trans (g6.mono k5.size)
  clear o5_0 o5_1 o5_2
  have r6 : Lies (.slice T6 q0.length d6) (w5.heap.size) w6.heap.size := own_lies n6
  go_wp2_with fail
  refine (eqIntS_any q0 q0 _ _ _ _ _ hl0 hl0 (CRead.of_own o6_1) (CRead.of_own n6)).mono ?_
  rw [decide_eq_true rfl]
  rintro e w7 ⟨rfl, hb7⟩
  have g7 : Below w6.heap.size w6 w7 := hb7
  have s7 := hb7.size
  have o7_0 := own_below o6_0 g7 (Nat.le_refl _)
  have o7_1 := own_below o6_1 g7 (Nat.le_refl _)
  have o7_2 := own_below o6_2 g7 (Nat.le_refl _)
  have o7_3 := own_below n6 g7 (Nat.le_refl _)
  have k7 := k6.trans (g7.mono k6.size)
  clear o6_0 o6_1 o6_2 n6
  clear o7_3 r6
  go_wp2_with fail
  refine (markIntS_any q0 _ _ _ (1) _ _ rfl hn0 (by omega) o7_1).mono ?_
  rintro e w8 ⟨rfl, n8, hg8⟩
  have s8 := hg8.size
  have o8_0 := keptG hg8 r3 o7_0 r2 (by omega)
  have o8_2 := keptG hg8 r3 o7_2 r4 (by omega)
  have k8 := belowG k7 hg8 r3 k7.size (by omega)
  clear o7_0 o7_1 o7_2
  have hmk : ¬ (1 + (q0.length : Int) < 0) := by omega
  go_wp2_with fail
  refine (eqIntS_any rm rm _ _ _ _ _ hrl hrl (CRead.of_own o8_2) (CRead.of_own o8_0)).mono ?_
  rw [decide_eq_true rfl]
  rintro e w9 ⟨rfl, hb9⟩
  have g9 : Below w8.heap.size w8 w9 := hb9
  have s9 := hb9.size
  have o9_0 := own_below o8_0 g9 (Nat.le_refl _)
  have o9_1 := own_below n8 g9 (Nat.le_refl _)
  have o9_2 := own_below o8_2 g9 (Nat.le_refl _)
  have k9 := k8.trans (g9.mono k8.size)
  clear o8_0 n8 o8_2
  clear o9_1 r3
  go_wp2_with fail
  refine (markIntS_any rm _ _ _ 1 _ _ rfl hrn hone o9_2).mono ?_
  rintro e w10 ⟨rfl, n10, hg10⟩
  have s10 := hg10.size
  have o10_0 := keptG hg10 r4 o9_0 r2 (by omega)
  have k10 := belowG k9 hg10 r4 k9.size (by omega)
  clear o9_0 o9_2
  have hmr : ¬ (1 + (rm.length : Int) < 0) := by omega
  go_wp2_with fail
  refine (heldIntS_any _ _ _ 1 _ hrn hone (CRead.of_own n10)).mono ?_
  rintro e w11 ⟨rfl, h11⟩
  subst h11
  go_wp2_with fail
  refine (toIntS_got q0 A0 c0 _ hn0 ((hA0.below k10 (Nat.le_refl _)).more k10.size)).mono ?_
  rintro e w12 ⟨T12, d12, rfl, n12, hb12⟩
  have g12 : Below w10.heap.size w10 w12 := hb12
  have s12 := hb12.size
  have o12_0 := own_below o10_0 g12 (Nat.le_refl _)
  have o12_1 := own_below n10 g12 (Nat.le_refl _)
  have k12 := k10.trans (g12.mono k10.size)
  clear o10_0 n10
  have r12 : Lies (.slice T12 q0.length d12) (w10.heap.size) w12.heap.size := own_lies n12
  go_wp2_with fail
  refine (implSortNumbers_any q0 _ _ _ hn0 (CRead.of_own n12)).mono ?_
  rw [Hres.out]
  rintro e w13 ⟨T13, d13, rfl, n13, hb13⟩
  have g13 : Below w12.heap.size w12 w13 := hb13
  have s13 := hb13.size
  have o13_0 := own_below o12_0 g13 (Nat.le_refl _)
  have o13_1 := own_below o12_1 g13 (Nat.le_refl _)
  have o13_2 := own_below n12 g13 (Nat.le_refl _)
  have k13 := k12.trans (g13.mono k12.size)
  clear o12_0 o12_1 n12
  have r13 : Lies (.slice T13 rm.length d13) (w12.heap.size) w13.heap.size := own_lies n13
  clear o13_2 r12
  go_wp2_with fail
  refine (eqIntS_any rm rm _ _ _ _ _ hrl hrl (CRead.of_own n13) (CRead.of_own o13_0)).mono ?_
  rw [decide_eq_true rfl]
  rintro e w14 ⟨rfl, hb14⟩
  have g14 : Below w13.heap.size w13 w14 := hb14
  have s14 := hb14.size
  have o14_0 := own_below o13_0 g14 (Nat.le_refl _)
  have o14_1 := own_below o13_1 g14 (Nat.le_refl _)
  have o14_2 := own_below n13 g14 (Nat.le_refl _)
  have k14 := k13.trans (g14.mono k13.size)
  clear o13_0 o13_1 n13
  go_wp2_with fail
  refine (heldIntS_any _ _ _ 1 _ hrn hone (CRead.of_own o14_1)).mono ?_
  rintro e w15 ⟨rfl, h15⟩
  subst h15
  go_wp2
  go_ret
  exact ⟨rfl, k14⟩
end Go.Proofs.Ytkonibmmdinmbaa
