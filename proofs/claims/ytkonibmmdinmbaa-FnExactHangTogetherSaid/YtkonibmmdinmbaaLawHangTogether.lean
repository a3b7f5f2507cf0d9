/-
  'laws.FnExactHangTogether' returns true, whatever its arguments: out of the contracts of the model's function and of the program's.
-/
import Derived.Test.YtkonibmmdinmbaaHang
import Derived.Test.YtkonibmmdinmbaaInts
import Derived.Deep.RegionHeld3
namespace Go.Proofs.Ytkonibmmdinmbaa
open Go.RowKit

set_option maxHeartbeats 4000000 in
set_option maxRecDepth 100000 in
theorem lawHangTogether_any (q0 : List Int) (A0 : Option Addr) (c0 : Nat) (W : World) (hl0 : q0.length ≤ maxLen) (hA0 : CRead W W.heap.size A0 (icells q0)) :
    Calls Try.prog 24 #[.slice A0 q0.length c0] W fun e w' => e = .returned (.bool true) ∧ Below W.heap.size W w' := by
  have hone : (0 : Int) ≤ 1 ∧ (1 : Int) ≤ 16777216 := by omega
  by_cases hq0 : (1048576 : Int) < (q0.length : Int)
  · unfold maxLen at *
    go_enter Try.func24, Try.ntmps24
    go_wp2
    go_ret
    exact ⟨rfl, by go_grown⟩
  have hn0 : q0.length ≤ 1048576 := by omega
  obtain ⟨⟨rb, rok⟩, hres⟩ : ∃ r, resHangTogether q0 = r := ⟨_, rfl⟩
  have Hres := Lib.hid hres
  clear hres
  go_enter Try.func24, Try.ntmps24
  go_wp2_with fail
  refine (toIntS_got q0 A0 c0 _ hn0 hA0).mono ?_
  rintro e w1 ⟨T1, d1, rfl, n1, hb1⟩
  have g1 : Below W.heap.size W w1 := hb1
  have s1 := hb1.size
  have k1 : Below W.heap.size W w1 := g1
  have r1 : Lies (.slice T1 q0.length d1) (W.heap.size) w1.heap.size := own_lies n1
  go_wp2_with fail
  refine (specHangTogether_any q0 _ _ _ hn0 (CRead.of_own n1)).mono ?_
  rw [Hres.out]
  rintro e w2 ⟨rfl, hb2⟩
  have g2 : Below w1.heap.size w1 w2 := hb2
  have s2 := hb2.size
  have o2_0 := own_below n1 g2 (Nat.le_refl _)
  have k2 := k1.trans (g2.mono k1.size)
  clear n1
  clear o2_0 r1
  go_wp2_with fail
  refine (toIntS_got q0 A0 c0 _ hn0 ((hA0.below k2 (Nat.le_refl _)).more k2.size)).mono ?_
  rintro e w3 ⟨T3, d3, rfl, n3, hb3⟩
  have g3 : Below w2.heap.size w2 w3 := hb3
  have s3 := hb3.size
  have k3 := k2.trans (g3.mono k2.size)
  have r3 : Lies (.slice T3 q0.length d3) (w2.heap.size) w3.heap.size := own_lies n3
  go_wp2_with fail
  refine (implHangTogether_any q0 _ _ _ hn0 (CRead.of_own n3)).mono ?_
  rw [Hres.out]
  rintro e w4 ⟨rfl, hb4⟩
  have g4 : Below w3.heap.size w3 w4 := hb4
  have s4 := hb4.size
  have o4_0 := own_below n3 g4 (Nat.le_refl _)
  have k4 := k3.trans (g4.mono k3.size)
  clear n3
  go_wp2_with fail
  refine (toIntS_got q0 A0 c0 _ hn0 ((hA0.below k4 (Nat.le_refl _)).more k4.size)).mono ?_
  rintro e w5 ⟨T5, d5, rfl, n5, hb5⟩
  have g5 : Below w4.heap.size w4 w5 := hb5
  have s5 := hb5.size
  have o5_0 := own_below o4_0 g5 (Nat.le_refl _)
  have k5 := k4.trans (g5.mono k4.size)
  clear o4_0
  have r5 : Lies (.slice T5 q0.length d5) (w4.heap.size) w5.heap.size := own_lies n5
  go_wp2_with fail
  refine (eqIntS_any q0 q0 _ _ _ _ _ hl0 hl0 (CRead.of_own o5_0) (CRead.of_own n5)).mono ?_
  rw [decide_eq_true rfl]
  rintro e w6 ⟨rfl, hb6⟩
  have g6 : Below w5.heap.size w5 w6 := hb6
  have s6 := hb6.size
  have o6_0 := own_below o5_0 g6 (Nat.le_refl _)
  have o6_1 := own_below n5 g6 (Nat.le_refl _)
  have k6 := k5.trans (g6.mono k5.size)
  clear o5_0 n5
  clear o6_1 r5
  go_wp2
  go_ret
  exact ⟨rfl, k6⟩
end Go.Proofs.Ytkonibmmdinmbaa
