/-
  'laws.FnExactTuranParty' returns true, whatever its arguments: out of the contracts of the model's function and of the program's.
-/
import Derived.Test.YtgccapdjhnejcaaEven
import Derived.Test.YtgccapdjhnejcaaGot
import Derived.Deep.RegionHeld3
namespace Go.Proofs.Ytgccapdjhnejcaa
open Go.RowKit

set_option maxHeartbeats 4000000 in
set_option maxRecDepth 100000 in
theorem lawTuranParty_any (i0 : Int) (i1 : Int) (W : World)  :
    Calls Try.prog 5 #[.int .i64 i0, .int .i64 i1] W fun e w' => e = .returned (.bool true) ∧ Below W.heap.size W w' := by
  have hone : (0 : Int) ≤ 1 ∧ (1 : Int) ≤ 16777216 := by omega
  obtain ⟨⟨rq, rm, rok⟩, hres⟩ : ∃ r, resTuranParty i0 i1 = r := ⟨_, rfl⟩
  have hrn : rm.length ≤ 1048576 := by have h := resTuranParty_len i0 i1; rw [hres] at h; exact h
  have hrl : rm.length ≤ maxLen := by unfold maxLen; omega
  have Hres := Lib.hid hres
  clear hres
  go_enter Try.func5, Try.ntmps5
  go_wp2_with fail
  refine (specTuranParty_any i0 i1 _ ).mono ?_
  rw [Hres.out]
  rintro e w1 ⟨T1, d1, rfl, n1, hb1⟩
  have g1 : Below W.heap.size W w1 := hb1
  have s1 := hb1.size
  have k1 : Below W.heap.size W w1 := g1
  have r1 : Lies (.slice T1 rm.length d1) (W.heap.size) w1.heap.size := own_lies n1
  go_wp2_with fail
  refine (implTuranParty_any i0 i1 _ ).mono ?_
  rw [Hres.out]
  rintro e w3 ⟨T3, d3, rfl, n3, hb3⟩
  simp only [World.size_alloc] at n3
  simp only [World.size_alloc] at hb3
  have g3 : Below w1.heap.size w1 w3 := Below.trans (b := _) (by go_grown) (hb3.mono (by omega))
  have s3 := hb3.size
  simp only [World.size_alloc] at s3
  have f3_0 : w3.cell? ⟨w1.heap.size, 0, none⟩ = some (.int .i64 rq) := carry hb3 (by simp) (by omega)
  have f3_1 : w3.cell? ⟨w1.heap.size, 1, none⟩ = some (.slice T1 rm.length d1) := carry hb3 (by simp) (by omega)
  have o3_0 := own_below n1 g3 (Nat.le_refl _)
  have k3 := k1.trans (g3.mono k1.size)
  clear n1
  have r3 : Lies (.slice T3 rm.length d3) (w1.heap.size + 1) w3.heap.size := own_lies n3
  have q4_0 : (w3.alloc (Obj.cells #[.int .i64 rq, .slice T3 rm.length d3] 31)).cell? ⟨w1.heap.size, 0, none⟩ = some (.int .i64 rq) := (World.cell?_alloc_lt _ _ _ (show w1.heap.size < w3.heap.size by omega)).trans f3_0
  have q4_1 : (w3.alloc (Obj.cells #[.int .i64 rq, .slice T3 rm.length d3] 31)).cell? ⟨w1.heap.size, 1, none⟩ = some (.slice T1 rm.length d1) := (World.cell?_alloc_lt _ _ _ (show w1.heap.size < w3.heap.size by omega)).trans f3_1
  go_wp2_with fail
  refine (eqParty_any rq rq rm rm _ _ _ _ _ hrl hrl ((((CRead.of_own n3).below (B' := w3.heap.size) (by go_grown) (Nat.le_refl _)).more (by go_size))) ((((CRead.of_own o3_0).below (B' := w3.heap.size) (by go_grown) (Nat.le_refl _)).more (by go_size)))).mono ?_
  rw [decide_eq_true ⟨rfl, rfl⟩]
  rintro e w5 ⟨rfl, hb5⟩
  simp only [World.size_alloc] at hb5
  have g5 : Below w3.heap.size w3 w5 := Below.trans (b := _) (by go_grown) (hb5.mono (by omega))
  have s5 := hb5.size
  simp only [World.size_alloc] at s5
  have f5_0 := carry g5 f3_0 (by omega)
  have f5_1 := carry g5 f3_1 (by omega)
  have f5_2 : w5.cell? ⟨w3.heap.size, 0, none⟩ = some (.int .i64 rq) := carry hb5 (by simp) (by omega)
  have f5_3 : w5.cell? ⟨w3.heap.size, 1, none⟩ = some (.slice T3 rm.length d3) := carry hb5 (by simp) (by omega)
  have o5_0 := own_below o3_0 g5 (Nat.le_refl _)
  have o5_1 := own_below n3 g5 (Nat.le_refl _)
  have k5 := k3.trans (g5.mono k3.size)
  clear f3_0 f3_1 o3_0 n3 q4_0 q4_1
  go_wp2_with fail
  refine (markParty_any rq rm _ _ _ 1 _ _ rfl hrn hone o5_1).mono ?_
  rintro e w6 ⟨rfl, n6, hg6⟩
  have s6 := hg6.size
  have f6_0 := carryG hg6 r3 f5_0 (by omega)
  have f6_1 := carryG hg6 r3 f5_1 (by omega)
  have f6_2 := carryG hg6 r3 f5_2 (by omega)
  have f6_3 := carryG hg6 r3 f5_3 (by omega)
  have o6_0 := keptG hg6 r3 o5_0 r1 (by omega)
  have k6 := belowG k5 hg6 r3 k5.size (by omega)
  clear f5_0 f5_1 f5_2 f5_3 o5_0 o5_1
  have hmr : ¬ (1 + 2 * (rm.length : Int) < 0) := by omega
  go_wp2_with fail
  refine (heldParty_any _ _ _ _ 1 _ hrn hone (CRead.of_own n6)).mono ?_
  rintro e w7 ⟨rfl, hb7⟩
  have g7 : Below w6.heap.size w6 w7 := hb7
  have s7 := hb7.size
  have f7_0 := carry g7 f6_0 (by omega)
  have f7_1 := carry g7 f6_1 (by omega)
  have f7_2 := carry g7 f6_2 (by omega)
  have f7_3 := carry g7 f6_3 (by omega)
  have o7_0 := own_below o6_0 g7 (Nat.le_refl _)
  have o7_1 := own_below n6 g7 (Nat.le_refl _)
  have k7 := k6.trans (g7.mono k6.size)
  clear f6_0 f6_1 f6_2 f6_3 o6_0 n6
  go_wp2_with fail
  refine (implTuranParty_any i0 i1 _ ).mono ?_
  rw [Hres.out]
  rintro e w8 ⟨T8, d8, rfl, n8, hb8⟩
  have g8 : Below w7.heap.size w7 w8 := hb8
  have s8 := hb8.size
  have f8_0 := carry g8 f7_0 (by omega)
  have f8_1 := carry g8 f7_1 (by omega)
  have f8_2 := carry g8 f7_2 (by omega)
  have f8_3 := carry g8 f7_3 (by omega)
  have o8_0 := own_below o7_0 g8 (Nat.le_refl _)
  have o8_1 := own_below o7_1 g8 (Nat.le_refl _)
  have k8 := k7.trans (g8.mono k7.size)
  clear f7_0 f7_1 f7_2 f7_3 o7_0 o7_1
  have r8 : Lies (.slice T8 rm.length d8) (w7.heap.size) w8.heap.size := own_lies n8
  have q9_0 : (w8.alloc (Obj.cells #[.int .i64 rq, .slice T8 rm.length d8] 31)).cell? ⟨w1.heap.size, 0, none⟩ = some (.int .i64 rq) := (World.cell?_alloc_lt _ _ _ (show w1.heap.size < w8.heap.size by omega)).trans f8_0
  have q9_1 : (w8.alloc (Obj.cells #[.int .i64 rq, .slice T8 rm.length d8] 31)).cell? ⟨w1.heap.size, 1, none⟩ = some (.slice T1 rm.length d1) := (World.cell?_alloc_lt _ _ _ (show w1.heap.size < w8.heap.size by omega)).trans f8_1
  have q9_2 : (w8.alloc (Obj.cells #[.int .i64 rq, .slice T8 rm.length d8] 31)).cell? ⟨w3.heap.size, 0, none⟩ = some (.int .i64 rq) := (World.cell?_alloc_lt _ _ _ (show w3.heap.size < w8.heap.size by omega)).trans f8_2
  have q9_3 : (w8.alloc (Obj.cells #[.int .i64 rq, .slice T8 rm.length d8] 31)).cell? ⟨w3.heap.size, 1, none⟩ = some (.slice T3 rm.length d3) := (World.cell?_alloc_lt _ _ _ (show w3.heap.size < w8.heap.size by omega)).trans f8_3
  go_wp2_with fail
  refine (eqParty_any rq rq rm rm _ _ _ _ _ hrl hrl ((((CRead.of_own n8).below (B' := w8.heap.size) (by go_grown) (Nat.le_refl _)).more (by go_size))) ((((CRead.of_own o8_0).below (B' := w8.heap.size) (by go_grown) (Nat.le_refl _)).more (by go_size)))).mono ?_
  rw [decide_eq_true ⟨rfl, rfl⟩]
  rintro e w10 ⟨rfl, hb10⟩
  simp only [World.size_alloc] at hb10
  have g10 : Below w8.heap.size w8 w10 := Below.trans (b := _) (by go_grown) (hb10.mono (by omega))
  have s10 := hb10.size
  simp only [World.size_alloc] at s10
  have f10_0 := carry g10 f8_0 (by omega)
  have f10_1 := carry g10 f8_1 (by omega)
  have f10_2 := carry g10 f8_2 (by omega)
  have f10_3 := carry g10 f8_3 (by omega)
  have f10_4 : w10.cell? ⟨w8.heap.size, 0, none⟩ = some (.int .i64 rq) := carry hb10 (by simp) (by omega)
  have f10_5 : w10.cell? ⟨w8.heap.size, 1, none⟩ = some (.slice T8 rm.length d8) := carry hb10 (by simp) (by omega)
  have o10_0 := own_below o8_0 g10 (Nat.le_refl _)
  have o10_1 := own_below o8_1 g10 (Nat.le_refl _)
  have o10_2 := own_below n8 g10 (Nat.le_refl _)
  have k10 := k8.trans (g10.mono k8.size)
  clear f8_0 f8_1 f8_2 f8_3 o8_0 o8_1 n8 q9_0 q9_1 q9_2 q9_3
  go_wp2_with fail
  refine (heldParty_any _ _ _ _ 1 _ hrn hone (CRead.of_own o10_1)).mono ?_
  rintro e w11 ⟨rfl, hb11⟩
  have g11 : Below w10.heap.size w10 w11 := hb11
  have s11 := hb11.size
  have f11_0 := carry g11 f10_0 (by omega)
  have f11_1 := carry g11 f10_1 (by omega)
  have f11_2 := carry g11 f10_2 (by omega)
  have f11_3 := carry g11 f10_3 (by omega)
  have f11_4 := carry g11 f10_4 (by omega)
  have f11_5 := carry g11 f10_5 (by omega)
  have o11_0 := own_below o10_0 g11 (Nat.le_refl _)
  have o11_1 := own_below o10_1 g11 (Nat.le_refl _)
  have o11_2 := own_below o10_2 g11 (Nat.le_refl _)
  have k11 := k10.trans (g11.mono k10.size)
  clear f10_0 f10_1 f10_2 f10_3 f10_4 f10_5 o10_0 o10_1 o10_2
  go_wp2
  go_ret
  exact ⟨rfl, k11⟩
end Go.Proofs.Ytgccapdjhnejcaa
