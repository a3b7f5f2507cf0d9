/-
  'laws.FnExactPartsParty' returns true, whatever its arguments: out of the contracts of the model's function and of the program's.
-/
import Derived.Test.YtgccapdjhnejcaaPartsI
import Derived.Test.YtgccapdjhnejcaaGot
import Derived.Test.YtgccapdjhnejcaaInts
import Derived.Test.YtgccapdjhnejcaaOpenL
import Derived.Deep.RegionHeld3
namespace Go.Proofs.Ytgccapdjhnejcaa
open Go.RowKit

set_option maxHeartbeats 4000000 in
set_option maxRecDepth 100000 in
theorem lawPartsParty_any (q0 : List Int) (A0 : Option Addr) (c0 : Nat) (W : World) (hl0 : q0.length ≤ maxLen) (hA0 : CRead W W.heap.size A0 (icells q0)) :
    Calls Try.prog 4 #[.slice A0 q0.length c0] W fun e w' => e = .returned (.bool true) ∧ Below W.heap.size W w' := by
  have hone : (0 : Int) ≤ 1 ∧ (1 : Int) ≤ 16777216 := by omega
  by_cases hq0 : (1048576 : Int) < (q0.length : Int)
  · unfold maxLen at *
    go_enter Try.func4, Try.ntmps4
    go_wp2
    go_ret
    exact ⟨rfl, by go_grown⟩
  have hn0 : q0.length ≤ 1048576 := by omega
  obtain ⟨⟨rq, rm, rok⟩, hres⟩ : ∃ r, resPartsParty q0 = r := ⟨_, rfl⟩
  have hrn : rm.length ≤ 1048576 := by have h := resPartsParty_len q0; rw [hres] at h; exact h
  have hrl : rm.length ≤ maxLen := by unfold maxLen; omega
  have Hres := Lib.hid hres
  clear hres
  go_enter Try.func4, Try.ntmps4
  go_wp2_with fail
  refine (toIntS_got q0 A0 c0 _ hn0 hA0).mono ?_
  rintro e w1 ⟨T1, d1, rfl, n1, hb1⟩
  have g1 : Below W.heap.size W w1 := hb1
  have s1 := hb1.size
  have k1 : Below W.heap.size W w1 := g1
  have r1 : Lies (.slice T1 q0.length d1) (W.heap.size) w1.heap.size := own_lies n1
  go_wp2_with fail
  refine (specPartsParty_any q0 _ _ _ hn0 (CRead.of_own n1)).mono ?_
  rw [Hres.out]
  rintro e w2 ⟨T2, d2, rfl, n2, hb2⟩
  have g2 : Below w1.heap.size w1 w2 := hb2
  have s2 := hb2.size
  have o2_0 := own_below n1 g2 (Nat.le_refl _)
  have k2 := k1.trans (g2.mono k1.size)
  clear n1
  have r2 : Lies (.slice T2 rm.length d2) (w1.heap.size) w2.heap.size := own_lies n2
  clear o2_0 r1
  go_wp2_with fail
  refine (toIntS_got q0 A0 c0 _ hn0 ((hA0.below (B' := W.heap.size) (Below.trans k2 (by go_grown)) (Nat.le_refl _)).more (by go_size))).mono ?_
  rintro e w4 ⟨T4, d4, rfl, n4, hb4⟩
  simp only [World.size_alloc] at n4
  simp only [World.size_alloc] at hb4
  have g4 : Below w2.heap.size w2 w4 := Below.trans (b := _) (by go_grown) (hb4.mono (by omega))
  have s4 := hb4.size
  simp only [World.size_alloc] at s4
  have f4_0 : w4.cell? ⟨w2.heap.size, 0, none⟩ = some (.int .i64 rq) := carry hb4 (by simp) (by omega)
  have f4_1 : w4.cell? ⟨w2.heap.size, 1, none⟩ = some (.slice T2 rm.length d2) := carry hb4 (by simp) (by omega)
  have o4_0 := own_below n2 g4 (Nat.le_refl _)
  have k4 := k2.trans (g4.mono k2.size)
  clear n2
  have r4 : Lies (.slice T4 q0.length d4) (w2.heap.size + 1) w4.heap.size := own_lies n4
  go_wp2_with fail
  refine (implPartsParty_any q0 _ _ _ hn0 (CRead.of_own n4)).mono ?_
  rw [Hres.out]
  rintro e w5 ⟨T5, d5, rfl, n5, hb5⟩
  have g5 : Below w4.heap.size w4 w5 := hb5
  have s5 := hb5.size
  have f5_0 := carry g5 f4_0 (by omega)
  have f5_1 := carry g5 f4_1 (by omega)
  have o5_0 := own_below o4_0 g5 (Nat.le_refl _)
  have o5_1 := own_below n4 g5 (Nat.le_refl _)
  have k5 := k4.trans (g5.mono k4.size)
  clear f4_0 f4_1 o4_0 n4
  have r5 : Lies (.slice T5 rm.length d5) (w4.heap.size) w5.heap.size := own_lies n5
  have q6_0 : (w5.alloc (Obj.cells #[.int .i64 rq, .slice T5 rm.length d5] 31)).cell? ⟨w2.heap.size, 0, none⟩ = some (.int .i64 rq) := (World.cell?_alloc_lt _ _ _ (show w2.heap.size < w5.heap.size by omega)).trans f5_0
  have q6_1 : (w5.alloc (Obj.cells #[.int .i64 rq, .slice T5 rm.length d5] 31)).cell? ⟨w2.heap.size, 1, none⟩ = some (.slice T2 rm.length d2) := (World.cell?_alloc_lt _ _ _ (show w2.heap.size < w5.heap.size by omega)).trans f5_1
  go_wp2_with fail
  refine (eqParty_any rq rq rm rm _ _ _ _ _ hrl hrl ((((CRead.of_own n5).below (B' := w5.heap.size) (by go_grown) (Nat.le_refl _)).more (by go_size))) ((((CRead.of_own o5_0).below (B' := w5.heap.size) (by go_grown) (Nat.le_refl _)).more (by go_size)))).mono ?_
  rw [decide_eq_true ⟨rfl, rfl⟩]
  rintro e w7 ⟨rfl, hb7⟩
  simp only [World.size_alloc] at hb7
  have g7 : Below w5.heap.size w5 w7 := Below.trans (b := _) (by go_grown) (hb7.mono (by omega))
  have s7 := hb7.size
  simp only [World.size_alloc] at s7
  have f7_0 := carry g7 f5_0 (by omega)
  have f7_1 := carry g7 f5_1 (by omega)
  have f7_2 : w7.cell? ⟨w5.heap.size, 0, none⟩ = some (.int .i64 rq) := carry hb7 (by simp) (by omega)
  have f7_3 : w7.cell? ⟨w5.heap.size, 1, none⟩ = some (.slice T5 rm.length d5) := carry hb7 (by simp) (by omega)
  have o7_0 := own_below o5_0 g7 (Nat.le_refl _)
  have o7_1 := own_below o5_1 g7 (Nat.le_refl _)
  have o7_2 := own_below n5 g7 (Nat.le_refl _)
  have k7 := k5.trans (g7.mono k5.size)
  clear f5_0 f5_1 o5_0 o5_1 n5 q6_0 q6_1
  go_wp2_with fail
  refine (toIntS_got q0 A0 c0 _ hn0 ((hA0.below k7 (Nat.le_refl _)).more k7.size)).mono ?_
  rintro e w8 ⟨T8, d8, rfl, n8, hb8⟩
  have g8 : Below w7.heap.size w7 w8 := hb8
  have s8 := hb8.size
  have f8_0 := carry g8 f7_0 (by omega)
  have f8_1 := carry g8 f7_1 (by omega)
  have f8_2 := carry g8 f7_2 (by omega)
  have f8_3 := carry g8 f7_3 (by omega)
  have o8_0 := own_below o7_0 g8 (Nat.le_refl _)
  have o8_1 := own_below o7_1 g8 (Nat.le_refl _)
  have o8_2 := own_below o7_2 g8 (Nat.le_refl _)
  have k8 := k7.trans (g8.mono k7.size)
  clear f7_0 f7_1 f7_2 f7_3 o7_0 o7_1 o7_2
  have r8 : Lies (.slice T8 q0.length d8) (w7.heap.size) w8.heap.size := own_lies n8
  go_wp2_with fail
  refine (eqIntS_any q0 q0 _ _ _ _ _ hl0 hl0 (CRead.of_own o8_1) (CRead.of_own n8)).mono ?_
  rw [decide_eq_true rfl]
  rintro e w9 ⟨rfl, hb9⟩
  have g9 : Below w8.heap.size w8 w9 := hb9
  have s9 := hb9.size
  have f9_0 := carry g9 f8_0 (by omega)
  have f9_1 := carry g9 f8_1 (by omega)
  have f9_2 := carry g9 f8_2 (by omega)
  have f9_3 := carry g9 f8_3 (by omega)
  have o9_0 := own_below o8_0 g9 (Nat.le_refl _)
  have o9_1 := own_below o8_1 g9 (Nat.le_refl _)
  have o9_2 := own_below o8_2 g9 (Nat.le_refl _)
  have o9_3 := own_below n8 g9 (Nat.le_refl _)
  have k9 := k8.trans (g9.mono k8.size)
  clear f8_0 f8_1 f8_2 f8_3 o8_0 o8_1 o8_2 n8
  clear o9_3 r8
  go_wp2_with fail
  refine (markIntS_any q0 _ _ _ (1) _ _ rfl hn0 (by omega) o9_1).mono ?_
  rintro e w10 ⟨rfl, n10, hg10⟩
  have s10 := hg10.size
  have f10_0 := carryG hg10 r4 f9_0 (by omega)
  have f10_1 := carryG hg10 r4 f9_1 (by omega)
  have f10_2 := carryG hg10 r4 f9_2 (by omega)
  have f10_3 := carryG hg10 r4 f9_3 (by omega)
  have o10_0 := keptG hg10 r4 o9_0 r2 (by omega)
  have o10_2 := keptG hg10 r4 o9_2 r5 (by omega)
  have k10 := belowG k9 hg10 r4 k9.size (by omega)
  clear f9_0 f9_1 f9_2 f9_3 o9_0 o9_1 o9_2
  have hmk : ¬ (1 + (q0.length : Int) < 0) := by omega
  go_wp2_with fail
  refine (eqParty_any rq rq rm rm _ _ _ _ _ hrl hrl (CRead.of_own o10_2) (CRead.of_own o10_0)).mono ?_
  rw [decide_eq_true ⟨rfl, rfl⟩]
  rintro e w11 ⟨rfl, hb11⟩
  have g11 : Below w10.heap.size w10 w11 := hb11
  have s11 := hb11.size
  have f11_0 := carry g11 f10_0 (by omega)
  have f11_1 := carry g11 f10_1 (by omega)
  have f11_2 := carry g11 f10_2 (by omega)
  have f11_3 := carry g11 f10_3 (by omega)
  have o11_0 := own_below o10_0 g11 (Nat.le_refl _)
  have o11_1 := own_below n10 g11 (Nat.le_refl _)
  have o11_2 := own_below o10_2 g11 (Nat.le_refl _)
  have k11 := k10.trans (g11.mono k10.size)
  clear f10_0 f10_1 f10_2 f10_3 o10_0 n10 o10_2
  clear o11_1 r4
  go_wp2_with fail
  refine (markParty_any rq rm _ _ _ 1 _ _ rfl hrn hone o11_2).mono ?_
  rintro e w12 ⟨rfl, n12, hg12⟩
  have s12 := hg12.size
  have f12_0 := carryG hg12 r5 f11_0 (by omega)
  have f12_1 := carryG hg12 r5 f11_1 (by omega)
  have f12_2 := carryG hg12 r5 f11_2 (by omega)
  have f12_3 := carryG hg12 r5 f11_3 (by omega)
  have o12_0 := keptG hg12 r5 o11_0 r2 (by omega)
  have k12 := belowG k11 hg12 r5 k11.size (by omega)
  clear f11_0 f11_1 f11_2 f11_3 o11_0 o11_2
  have hmr : ¬ (1 + 2 * (rm.length : Int) < 0) := by omega
  go_wp2_with fail
  refine (heldParty_any _ _ _ _ 1 _ hrn hone (CRead.of_own n12)).mono ?_
  rintro e w13 ⟨rfl, hb13⟩
  have g13 : Below w12.heap.size w12 w13 := hb13
  have s13 := hb13.size
  have f13_0 := carry g13 f12_0 (by omega)
  have f13_1 := carry g13 f12_1 (by omega)
  have f13_2 := carry g13 f12_2 (by omega)
  have f13_3 := carry g13 f12_3 (by omega)
  have o13_0 := own_below o12_0 g13 (Nat.le_refl _)
  have o13_1 := own_below n12 g13 (Nat.le_refl _)
  have k13 := k12.trans (g13.mono k12.size)
  clear f12_0 f12_1 f12_2 f12_3 o12_0 n12
  go_wp2_with fail
  refine (toIntS_got q0 A0 c0 _ hn0 ((hA0.below k13 (Nat.le_refl _)).more k13.size)).mono ?_
  rintro e w14 ⟨T14, d14, rfl, n14, hb14⟩
  have g14 : Below w13.heap.size w13 w14 := hb14
  have s14 := hb14.size
  have f14_0 := carry g14 f13_0 (by omega)
  have f14_1 := carry g14 f13_1 (by omega)
  have f14_2 := carry g14 f13_2 (by omega)
  have f14_3 := carry g14 f13_3 (by omega)
  have o14_0 := own_below o13_0 g14 (Nat.le_refl _)
  have o14_1 := own_below o13_1 g14 (Nat.le_refl _)
  have k14 := k13.trans (g14.mono k13.size)
  clear f13_0 f13_1 f13_2 f13_3 o13_0 o13_1
  have r14 : Lies (.slice T14 q0.length d14) (w13.heap.size) w14.heap.size := own_lies n14
  go_wp2_with fail
  refine (implPartsParty_any q0 _ _ _ hn0 (CRead.of_own n14)).mono ?_
  rw [Hres.out]
  rintro e w15 ⟨T15, d15, rfl, n15, hb15⟩
  have g15 : Below w14.heap.size w14 w15 := hb15
  have s15 := hb15.size
  have f15_0 := carry g15 f14_0 (by omega)
  have f15_1 := carry g15 f14_1 (by omega)
  have f15_2 := carry g15 f14_2 (by omega)
  have f15_3 := carry g15 f14_3 (by omega)
  have o15_0 := own_below o14_0 g15 (Nat.le_refl _)
  have o15_1 := own_below o14_1 g15 (Nat.le_refl _)
  have o15_2 := own_below n14 g15 (Nat.le_refl _)
  have k15 := k14.trans (g15.mono k14.size)
  clear f14_0 f14_1 f14_2 f14_3 o14_0 o14_1 n14
  have r15 : Lies (.slice T15 rm.length d15) (w14.heap.size) w15.heap.size := own_lies n15
  have q16_0 : (w15.alloc (Obj.cells #[.int .i64 rq, .slice T15 rm.length d15] 31)).cell? ⟨w2.heap.size, 0, none⟩ = some (.int .i64 rq) := (World.cell?_alloc_lt _ _ _ (show w2.heap.size < w15.heap.size by omega)).trans f15_0
  have q16_1 : (w15.alloc (Obj.cells #[.int .i64 rq, .slice T15 rm.length d15] 31)).cell? ⟨w2.heap.size, 1, none⟩ = some (.slice T2 rm.length d2) := (World.cell?_alloc_lt _ _ _ (show w2.heap.size < w15.heap.size by omega)).trans f15_1
  have q16_2 : (w15.alloc (Obj.cells #[.int .i64 rq, .slice T15 rm.length d15] 31)).cell? ⟨w5.heap.size, 0, none⟩ = some (.int .i64 rq) := (World.cell?_alloc_lt _ _ _ (show w5.heap.size < w15.heap.size by omega)).trans f15_2
  have q16_3 : (w15.alloc (Obj.cells #[.int .i64 rq, .slice T15 rm.length d15] 31)).cell? ⟨w5.heap.size, 1, none⟩ = some (.slice T5 rm.length d5) := (World.cell?_alloc_lt _ _ _ (show w5.heap.size < w15.heap.size by omega)).trans f15_3
  clear o15_2 r14
  go_wp2_with fail
  refine (eqParty_any rq rq rm rm _ _ _ _ _ hrl hrl ((((CRead.of_own n15).below (B' := w15.heap.size) (by go_grown) (Nat.le_refl _)).more (by go_size))) ((((CRead.of_own o15_0).below (B' := w15.heap.size) (by go_grown) (Nat.le_refl _)).more (by go_size)))).mono ?_
  rw [decide_eq_true ⟨rfl, rfl⟩]
  rintro e w17 ⟨rfl, hb17⟩
  simp only [World.size_alloc] at hb17
  have g17 : Below w15.heap.size w15 w17 := Below.trans (b := _) (by go_grown) (hb17.mono (by omega))
  have s17 := hb17.size
  simp only [World.size_alloc] at s17
  have f17_0 := carry g17 f15_0 (by omega)
  have f17_1 := carry g17 f15_1 (by omega)
  have f17_2 := carry g17 f15_2 (by omega)
  have f17_3 := carry g17 f15_3 (by omega)
  have f17_4 : w17.cell? ⟨w15.heap.size, 0, none⟩ = some (.int .i64 rq) := carry hb17 (by simp) (by omega)
  have f17_5 : w17.cell? ⟨w15.heap.size, 1, none⟩ = some (.slice T15 rm.length d15) := carry hb17 (by simp) (by omega)
  have o17_0 := own_below o15_0 g17 (Nat.le_refl _)
  have o17_1 := own_below o15_1 g17 (Nat.le_refl _)
  have o17_2 := own_below n15 g17 (Nat.le_refl _)
  have k17 := k15.trans (g17.mono k15.size)
  clear f15_0 f15_1 f15_2 f15_3 o15_0 o15_1 n15 q16_0 q16_1 q16_2 q16_3
  go_wp2_with fail
  refine (heldParty_any _ _ _ _ 1 _ hrn hone (CRead.of_own o17_1)).mono ?_
  rintro e w18 ⟨rfl, hb18⟩
  have g18 : Below w17.heap.size w17 w18 := hb18
  have s18 := hb18.size
  have f18_0 := carry g18 f17_0 (by omega)
  have f18_1 := carry g18 f17_1 (by omega)
  have f18_2 := carry g18 f17_2 (by omega)
  have f18_3 := carry g18 f17_3 (by omega)
  have f18_4 := carry g18 f17_4 (by omega)
  have f18_5 := carry g18 f17_5 (by omega)
  have o18_0 := own_below o17_0 g18 (Nat.le_refl _)
  have o18_1 := own_below o17_1 g18 (Nat.le_refl _)
  have o18_2 := own_below o17_2 g18 (Nat.le_refl _)
  have k18 := k17.trans (g18.mono k17.size)
  clear f17_0 f17_1 f17_2 f17_3 f17_4 f17_5 o17_0 o17_1 o17_2
  go_wp2
  go_ret
  exact ⟨rfl, k18⟩
end Go.Proofs.Ytgccapdjhnejcaa
