/-
  Texts put together for the claims of 'DropClue' (pack 4): LawDropClue, Head, Facts.
-/
import Derived.Test.YtkiobefojckocaaDropClueP1
import Derived.Test.YtkiobefojckocaaDropClueP3
import Derived.Deep.RegionHeld3
import Derived.Test.YtkiobefojckocaaRows
/-
  'laws.FnExactDropClue' returns true, whatever its arguments: out of the contracts of the model's function and of the program's.
-/
namespace Go.Proofs.Ytkiobefojckocaa
open Go.RowKit

set_option maxHeartbeats 4000000 in
set_option maxRecDepth 100000 in
theorem lawDropClue_any (p0 : Int) (l0 : CL) (A0 : Option Addr) (c0 : Nat) (i1 : Int) (W : World) (hl0 : l0.length ≤ maxLen) (hA0 : CRead W W.heap.size A0 (ccells l0)) :
    Calls Try.prog 7 #[.agg #[.int .i64 p0, .slice A0 l0.length c0], .int .i64 i1] W fun e w' => e = .returned (.bool true) ∧ Below W.heap.size W w' := by
  have hone : (0 : Int) ≤ 1 ∧ (1 : Int) ≤ 16777216 := by omega
  by_cases hz0 : szI (1048576) l0.length < 0
  · go_enter Try.func7, Try.ntmps7
    go_wp2_with fail
    refine (szPuzzle_any _ _ _ _ _ hl0 (by omega) (by omega) _).mono ?_
    rintro e w1 ⟨rfl, hb1⟩
    simp only [World.size_alloc] at hb1
    have g1 : Below W.heap.size W w1 := Below.trans (b := _) (by go_grown) (hb1.mono (by omega))
    have s1 := hb1.size
    simp only [World.size_alloc] at s1
    have f1_0 : w1.cell? ⟨W.heap.size, 0, none⟩ = some (.int .i64 p0) := carry hb1 (by simp) (by omega)
    have f1_1 : w1.cell? ⟨W.heap.size, 1, none⟩ = some (.slice A0 l0.length c0) := carry hb1 (by simp) (by omega)
    have k1 : Below W.heap.size W w1 := g1
    go_wp2
    go_ret
    exact ⟨rfl, k1⟩
  have hn0 : l0.length ≤ 1048576 := by have h1 := szI_len _ _ hz0; have h2 := szI_hi (1048576) l0.length (by omega); omega
  have hz0' : 0 ≤ szI (1048576) l0.length := by omega
  have hz0'' : szI (1048576) l0.length ≤ 1048576 := by have h2 := szI_hi (1048576) l0.length (by omega); omega
  obtain ⟨⟨rq, rm, rok⟩, hres⟩ : ∃ r, resDropClue p0 l0 i1 = r := ⟨_, rfl⟩
  have hrn : rm.length ≤ 1048576 := by have h := resDropClue_len p0 l0 i1; rw [hres] at h; exact h
  have hrl : rm.length ≤ maxLen := by unfold maxLen; omega
  have Hres := Lib.hid hres
  clear hres
  go_enter Try.func7, Try.ntmps7
  go_wp2_with fail
  refine (szPuzzle_any _ _ _ _ _ hl0 (by omega) (by omega) _).mono ?_
  rintro e w1 ⟨rfl, hb1⟩
  simp only [World.size_alloc] at hb1
  have g1 : Below W.heap.size W w1 := Below.trans (b := _) (by go_grown) (hb1.mono (by omega))
  have s1 := hb1.size
  simp only [World.size_alloc] at s1
  have f1_0 : w1.cell? ⟨W.heap.size, 0, none⟩ = some (.int .i64 p0) := carry hb1 (by simp) (by omega)
  have f1_1 : w1.cell? ⟨W.heap.size, 1, none⟩ = some (.slice A0 l0.length c0) := carry hb1 (by simp) (by omega)
  have k1 : Below W.heap.size W w1 := g1
  go_wp2_with fail
  refine (toPuzzle_any p0 l0 A0 c0 _ hn0 ((hA0.below k1 (Nat.le_refl _)).more k1.size)).mono ?_
  rintro e w2 ⟨T2, d2, rfl, n2, hb2⟩
  have g2 : Below w1.heap.size w1 w2 := hb2
  have s2 := hb2.size
  have f2_0 := carry g2 f1_0 (by omega)
  have f2_1 := carry g2 f1_1 (by omega)
  have k2 := k1.trans (g2.mono k1.size)
  clear f1_0 f1_1
  have r2 : Lies (.slice T2 l0.length d2) (w1.heap.size) w2.heap.size := own_lies n2
  go_wp2_with fail
  refine (specDropClue_any p0 l0 _ _ i1 _ hn0 (CRead.of_own n2) (own_cap n2)).mono ?_
  rw [Hres.out]
  rintro e w3 ⟨T3, d3, rfl, n3, hb3⟩
  have g3 : Below w2.heap.size w2 w3 := hb3
  have s3 := hb3.size
  have f3_0 := carry g3 f2_0 (by omega)
  have f3_1 := carry g3 f2_1 (by omega)
  have o3_0 := own_below n2 g3 (Nat.le_refl _)
  have k3 := k2.trans (g3.mono k2.size)
  clear f2_0 f2_1 n2
  have r3 : Lies (.slice T3 rm.length d3) (w2.heap.size) w3.heap.size := own_lies n3
  have q4_0 : (w3.alloc (Obj.cells #[.int .i64 rq, .slice T3 rm.length d3] 55)).cell? ⟨W.heap.size, 0, none⟩ = some (.int .i64 p0) := (World.cell?_alloc_lt _ _ _ (show W.heap.size < w3.heap.size by omega)).trans f3_0
  have q4_1 : (w3.alloc (Obj.cells #[.int .i64 rq, .slice T3 rm.length d3] 55)).cell? ⟨W.heap.size, 1, none⟩ = some (.slice A0 l0.length c0) := (World.cell?_alloc_lt _ _ _ (show W.heap.size < w3.heap.size by omega)).trans f3_1
  clear o3_0 r2
  go_wp2_with fail
  refine (toPuzzle_any p0 l0 A0 c0 _ hn0 ((hA0.below (B' := W.heap.size) (Below.trans k3 (by go_grown)) (Nat.le_refl _)).more (by go_size))).mono ?_
  rintro e w5 ⟨T5, d5, rfl, n5, hb5⟩
  simp only [World.size_alloc] at n5
  simp only [World.size_alloc] at hb5
  have g5 : Below w3.heap.size w3 w5 := Below.trans (b := _) (by go_grown) (hb5.mono (by omega))
  have s5 := hb5.size
  simp only [World.size_alloc] at s5
  have f5_0 := carry g5 f3_0 (by omega)
  have f5_1 := carry g5 f3_1 (by omega)
  have f5_2 : w5.cell? ⟨w3.heap.size, 0, none⟩ = some (.int .i64 rq) := carry hb5 (by simp) (by omega)
  have f5_3 : w5.cell? ⟨w3.heap.size, 1, none⟩ = some (.slice T3 rm.length d3) := carry hb5 (by simp) (by omega)
  have o5_0 := own_below n3 g5 (Nat.le_refl _)
  have k5 := k3.trans (g5.mono k3.size)
  clear f3_0 f3_1 n3 q4_0 q4_1
  have r5 : Lies (.slice T5 l0.length d5) (w3.heap.size + 1) w5.heap.size := own_lies n5
  have q6_0 : (w5.alloc (Obj.cells #[.int .i64 p0, .slice T5 l0.length d5] 55)).cell? ⟨W.heap.size, 0, none⟩ = some (.int .i64 p0) := (World.cell?_alloc_lt _ _ _ (show W.heap.size < w5.heap.size by omega)).trans f5_0
  have q6_1 : (w5.alloc (Obj.cells #[.int .i64 p0, .slice T5 l0.length d5] 55)).cell? ⟨W.heap.size, 1, none⟩ = some (.slice A0 l0.length c0) := (World.cell?_alloc_lt _ _ _ (show W.heap.size < w5.heap.size by omega)).trans f5_1
  have q6_2 : (w5.alloc (Obj.cells #[.int .i64 p0, .slice T5 l0.length d5] 55)).cell? ⟨w3.heap.size, 0, none⟩ = some (.int .i64 rq) := (World.cell?_alloc_lt _ _ _ (show w3.heap.size < w5.heap.size by omega)).trans f5_2
  have q6_3 : (w5.alloc (Obj.cells #[.int .i64 p0, .slice T5 l0.length d5] 55)).cell? ⟨w3.heap.size, 1, none⟩ = some (.slice T3 rm.length d3) := (World.cell?_alloc_lt _ _ _ (show w3.heap.size < w5.heap.size by omega)).trans f5_3
  go_wp2_with fail
  refine (implDropClue_any p0 l0 _ _ i1 _ hn0 (((CRead.of_own n5).below (B' := w5.heap.size) (by go_grown) (Nat.le_refl _)).more (by go_size)) (own_cap n5)).mono ?_
  rw [Hres.out]
  rintro e w7 ⟨T7, d7, rfl, n7, hb7⟩
  simp only [World.size_alloc] at n7
  simp only [World.size_alloc] at hb7
  have g7 : Below w5.heap.size w5 w7 := Below.trans (b := _) (by go_grown) (hb7.mono (by omega))
  have s7 := hb7.size
  simp only [World.size_alloc] at s7
  have f7_0 := carry g7 f5_0 (by omega)
  have f7_1 := carry g7 f5_1 (by omega)
  have f7_2 := carry g7 f5_2 (by omega)
  have f7_3 := carry g7 f5_3 (by omega)
  have f7_4 : w7.cell? ⟨w5.heap.size, 0, none⟩ = some (.int .i64 p0) := carry hb7 (by simp) (by omega)
  have f7_5 : w7.cell? ⟨w5.heap.size, 1, none⟩ = some (.slice T5 l0.length d5) := carry hb7 (by simp) (by omega)
  have o7_0 := own_below o5_0 g7 (Nat.le_refl _)
  have o7_1 := own_below n5 g7 (Nat.le_refl _)
  have k7 := k5.trans (g7.mono k5.size)
  clear f5_0 f5_1 f5_2 f5_3 o5_0 n5 q6_0 q6_1 q6_2 q6_3
  have r7 : Lies (.slice T7 rm.length d7) (w5.heap.size + 1) w7.heap.size := own_lies n7
  have q8_0 : (w7.alloc (Obj.cells #[.int .i64 rq, .slice T7 rm.length d7] 55)).cell? ⟨W.heap.size, 0, none⟩ = some (.int .i64 p0) := (World.cell?_alloc_lt _ _ _ (show W.heap.size < w7.heap.size by omega)).trans f7_0
  have q8_1 : (w7.alloc (Obj.cells #[.int .i64 rq, .slice T7 rm.length d7] 55)).cell? ⟨W.heap.size, 1, none⟩ = some (.slice A0 l0.length c0) := (World.cell?_alloc_lt _ _ _ (show W.heap.size < w7.heap.size by omega)).trans f7_1
  have q8_2 : (w7.alloc (Obj.cells #[.int .i64 rq, .slice T7 rm.length d7] 55)).cell? ⟨w3.heap.size, 0, none⟩ = some (.int .i64 rq) := (World.cell?_alloc_lt _ _ _ (show w3.heap.size < w7.heap.size by omega)).trans f7_2
  have q8_3 : (w7.alloc (Obj.cells #[.int .i64 rq, .slice T7 rm.length d7] 55)).cell? ⟨w3.heap.size, 1, none⟩ = some (.slice T3 rm.length d3) := (World.cell?_alloc_lt _ _ _ (show w3.heap.size < w7.heap.size by omega)).trans f7_3
  have q8_4 : (w7.alloc (Obj.cells #[.int .i64 rq, .slice T7 rm.length d7] 55)).cell? ⟨w5.heap.size, 0, none⟩ = some (.int .i64 p0) := (World.cell?_alloc_lt _ _ _ (show w5.heap.size < w7.heap.size by omega)).trans f7_4
  have q8_5 : (w7.alloc (Obj.cells #[.int .i64 rq, .slice T7 rm.length d7] 55)).cell? ⟨w5.heap.size, 1, none⟩ = some (.slice T5 l0.length d5) := (World.cell?_alloc_lt _ _ _ (show w5.heap.size < w7.heap.size by omega)).trans f7_5
  go_wp2_with fail
  refine (eqPuzzle_any rq rq rm rm _ _ _ _ _ hrl hrl ((((CRead.of_own n7).below (B' := w7.heap.size) (by go_grown) (Nat.le_refl _)).more (by go_size))) ((((CRead.of_own o7_0).below (B' := w7.heap.size) (by go_grown) (Nat.le_refl _)).more (by go_size)))).mono ?_
  rw [decide_eq_true ⟨rfl, rfl⟩]
  rintro e w9 ⟨rfl, hb9⟩
  simp only [World.size_alloc] at hb9
  have g9 : Below w7.heap.size w7 w9 := Below.trans (b := _) (by go_grown) (hb9.mono (by omega))
  have s9 := hb9.size
  simp only [World.size_alloc] at s9
  have f9_0 := carry g9 f7_0 (by omega)
  have f9_1 := carry g9 f7_1 (by omega)
  have f9_2 := carry g9 f7_2 (by omega)
  have f9_3 := carry g9 f7_3 (by omega)
  have f9_4 := carry g9 f7_4 (by omega)
  have f9_5 := carry g9 f7_5 (by omega)
  have f9_6 : w9.cell? ⟨w7.heap.size, 0, none⟩ = some (.int .i64 rq) := carry hb9 (by simp) (by omega)
  have f9_7 : w9.cell? ⟨w7.heap.size, 1, none⟩ = some (.slice T7 rm.length d7) := carry hb9 (by simp) (by omega)
  have o9_0 := own_below o7_0 g9 (Nat.le_refl _)
  have o9_1 := own_below o7_1 g9 (Nat.le_refl _)
  have o9_2 := own_below n7 g9 (Nat.le_refl _)
  have k9 := k7.trans (g9.mono k7.size)
  clear f7_0 f7_1 f7_2 f7_3 f7_4 f7_5 o7_0 o7_1 n7 q8_0 q8_1 q8_2 q8_3 q8_4 q8_5
  go_wp2
  go_region_held3 (fun w' => w'.cell? ⟨W.heap.size, 0, none⟩ = some (.int .i64 p0) ∧ w'.cell? ⟨W.heap.size, 1, none⟩ = some (.slice A0 l0.length c0) ∧ w'.cell? ⟨w5.heap.size, 0, none⟩ = some (.int .i64 p0) ∧ w'.cell? ⟨w5.heap.size, 1, none⟩ = some (.slice T5 l0.length d5) ∧ w'.cell? ⟨w3.heap.size, 0, none⟩ = some (.int .i64 rq) ∧ w'.cell? ⟨w3.heap.size, 1, none⟩ = some (.slice T3 rm.length d3) ∧ w'.cell? ⟨w7.heap.size, 0, none⟩ = some (.int .i64 rq) ∧ w'.cell? ⟨w7.heap.size, 1, none⟩ = some (.slice T7 rm.length d7)) (first | exact ⟨f9_0, f9_1, f9_4, f9_5, f9_2, f9_3, f9_6, f9_7⟩ | exact ⟨f10_0, f10_1, f10_2, f10_3, f10_4, f10_5, f10_6, f10_7⟩ | exact ⟨f11_0, f11_1, f11_2, f11_3, f11_4, f11_5, f11_6, f11_7⟩) ((first | (go_at_call 33; refine (toPuzzle_any p0 l0 A0 c0 _ hn0 ((hA0.below k9.drew (Nat.le_refl _)).more k9.size)).mono ?_; rintro e w10 ⟨T10, d10, rfl, n10, hb10⟩; have g10 : Below w9.heap.size w9 w10 := (Below.refl _ _).drew.trans hb10; have s10 := g10.size; have f10_0 := carry g10 f9_0 (by omega); have f10_1 := carry g10 f9_1 (by omega); have f10_2 := carry g10 f9_4 (by omega); have f10_3 := carry g10 f9_5 (by omega); have f10_4 := carry g10 f9_2 (by omega); have f10_5 := carry g10 f9_3 (by omega); have f10_6 := carry g10 f9_6 (by omega); have f10_7 := carry g10 f9_7 (by omega); have o10_0 := own_below o9_0 g10 (Nat.le_refl _); have o10_1 := own_below o9_1 g10 (Nat.le_refl _); have o10_2 := own_below o9_2 g10 (Nat.le_refl _); have k10 := k9.trans (g10.mono k9.size)) | (go_at_call 35; refine (eqPuzzle_any p0 p0 l0 l0 _ _ _ _ _ hl0 hl0 (CRead.of_own o10_1) (CRead.of_own n10)).mono ?_; rw [decide_eq_true ⟨rfl, rfl⟩]; rintro e w11 ⟨rfl, hb11⟩; have g11 : Below w10.heap.size w10 w11 := hb11; have s11 := g11.size; have f11_0 := carry g11 f10_0 (by omega); have f11_1 := carry g11 f10_1 (by omega); have f11_2 := carry g11 f10_2 (by omega); have f11_3 := carry g11 f10_3 (by omega); have f11_4 := carry g11 f10_4 (by omega); have f11_5 := carry g11 f10_5 (by omega); have f11_6 := carry g11 f10_6 (by omega); have f11_7 := carry g11 f10_7 (by omega); have o11_0 := own_below o10_0 g11 (Nat.le_refl _); have o11_1 := own_below o10_1 g11 (Nat.le_refl _); have o11_2 := own_below o10_2 g11 (Nat.le_refl _); have k11 := k10.trans (g11.mono k10.size))))
  clear f9_0 f9_1 f9_2 f9_3 f9_4 f9_5 f9_6 f9_7 o9_0 o9_1 o9_2 f10_0 f10_1 f10_2 f10_3 f10_4 f10_5 f10_6 f10_7 o10_0 o10_1 o10_2 n10
  go_wp2_with fail
  refine (markPuzzle_any p0 l0 _ _ _ (1) _ _ rfl hn0 (by omega) o11_1).mono ?_
  rintro e w12 ⟨rfl, n12, hg12⟩
  have s12 := hg12.size
  have f12_0 := carryG hg12 r5 f11_0 (by omega)
  have f12_1 := carryG hg12 r5 f11_1 (by omega)
  have f12_2 := carryG hg12 r5 f11_2 (by omega)
  have f12_3 := carryG hg12 r5 f11_3 (by omega)
  have f12_4 := carryG hg12 r5 f11_4 (by omega)
  have f12_5 := carryG hg12 r5 f11_5 (by omega)
  have f12_6 := carryG hg12 r5 f11_6 (by omega)
  have f12_7 := carryG hg12 r5 f11_7 (by omega)
  have o12_0 := keptG hg12 r5 o11_0 r3 (by omega)
  have o12_2 := keptG hg12 r5 o11_2 r7 (by omega)
  have k12 := belowG k11 hg12 r5 k11.size (by omega)
  clear f11_0 f11_1 f11_2 f11_3 f11_4 f11_5 f11_6 f11_7 o11_0 o11_1 o11_2
  have hmk : ¬ (1 + 3 * (l0.length : Int) < 0) := by omega
  go_wp2_with fail
  refine (eqPuzzle_any rq rq rm rm _ _ _ _ _ hrl hrl (CRead.of_own o12_2) (CRead.of_own o12_0)).mono ?_
  rw [decide_eq_true ⟨rfl, rfl⟩]
  rintro e w13 ⟨rfl, hb13⟩
  have g13 : Below w12.heap.size w12 w13 := hb13
  have s13 := hb13.size
  have f13_0 := carry g13 f12_0 (by omega)
  have f13_1 := carry g13 f12_1 (by omega)
  have f13_2 := carry g13 f12_2 (by omega)
  have f13_3 := carry g13 f12_3 (by omega)
  have f13_4 := carry g13 f12_4 (by omega)
  have f13_5 := carry g13 f12_5 (by omega)
  have f13_6 := carry g13 f12_6 (by omega)
  have f13_7 := carry g13 f12_7 (by omega)
  have o13_0 := own_below o12_0 g13 (Nat.le_refl _)
  have o13_1 := own_below n12 g13 (Nat.le_refl _)
  have o13_2 := own_below o12_2 g13 (Nat.le_refl _)
  have k13 := k12.trans (g13.mono k12.size)
  clear f12_0 f12_1 f12_2 f12_3 f12_4 f12_5 f12_6 f12_7 o12_0 n12 o12_2
  clear o13_1 r5
  go_wp2_with fail
  refine (markPuzzle_any rq rm _ _ _ 1 _ _ rfl hrn hone o13_2).mono ?_
  rintro e w14 ⟨rfl, n14, hg14⟩
  have s14 := hg14.size
  have f14_0 := carryG hg14 r7 f13_0 (by omega)
  have f14_1 := carryG hg14 r7 f13_1 (by omega)
  have f14_2 := carryG hg14 r7 f13_2 (by omega)
  have f14_3 := carryG hg14 r7 f13_3 (by omega)
  have f14_4 := carryG hg14 r7 f13_4 (by omega)
  have f14_5 := carryG hg14 r7 f13_5 (by omega)
  have f14_6 := carryG hg14 r7 f13_6 (by omega)
  have f14_7 := carryG hg14 r7 f13_7 (by omega)
  have o14_0 := keptG hg14 r7 o13_0 r3 (by omega)
  have k14 := belowG k13 hg14 r7 k13.size (by omega)
  clear f13_0 f13_1 f13_2 f13_3 f13_4 f13_5 f13_6 f13_7 o13_0 o13_2
  have hmr : ¬ (1 + 3 * (rm.length : Int) < 0) := by omega
  go_wp2_with fail
  refine (heldPuzzle_any _ _ _ _ 1 _ hrn hone (CRead.of_own n14)).mono ?_
  rintro e w15 ⟨rfl, hb15⟩
  have g15 : Below w14.heap.size w14 w15 := hb15
  have s15 := hb15.size
  have f15_0 := carry g15 f14_0 (by omega)
  have f15_1 := carry g15 f14_1 (by omega)
  have f15_2 := carry g15 f14_2 (by omega)
  have f15_3 := carry g15 f14_3 (by omega)
  have f15_4 := carry g15 f14_4 (by omega)
  have f15_5 := carry g15 f14_5 (by omega)
  have f15_6 := carry g15 f14_6 (by omega)
  have f15_7 := carry g15 f14_7 (by omega)
  have o15_0 := own_below o14_0 g15 (Nat.le_refl _)
  have o15_1 := own_below n14 g15 (Nat.le_refl _)
  have k15 := k14.trans (g15.mono k14.size)
  clear f14_0 f14_1 f14_2 f14_3 f14_4 f14_5 f14_6 f14_7 o14_0 n14
  go_wp2_with fail
  refine (toPuzzle_any p0 l0 A0 c0 _ hn0 ((hA0.below k15 (Nat.le_refl _)).more k15.size)).mono ?_
  rintro e w16 ⟨T16, d16, rfl, n16, hb16⟩
  have g16 : Below w15.heap.size w15 w16 := hb16
  have s16 := hb16.size
  have f16_0 := carry g16 f15_0 (by omega)
  have f16_1 := carry g16 f15_1 (by omega)
  have f16_2 := carry g16 f15_2 (by omega)
  have f16_3 := carry g16 f15_3 (by omega)
  have f16_4 := carry g16 f15_4 (by omega)
  have f16_5 := carry g16 f15_5 (by omega)
  have f16_6 := carry g16 f15_6 (by omega)
  have f16_7 := carry g16 f15_7 (by omega)
  have o16_0 := own_below o15_0 g16 (Nat.le_refl _)
  have o16_1 := own_below o15_1 g16 (Nat.le_refl _)
  have k16 := k15.trans (g16.mono k15.size)
  clear f15_0 f15_1 f15_2 f15_3 f15_4 f15_5 f15_6 f15_7 o15_0 o15_1
  have r16 : Lies (.slice T16 l0.length d16) (w15.heap.size) w16.heap.size := own_lies n16
  go_wp2_with fail
  refine (implDropClue_any p0 l0 _ _ i1 _ hn0 (CRead.of_own n16) (own_cap n16)).mono ?_
  rw [Hres.out]
  rintro e w17 ⟨T17, d17, rfl, n17, hb17⟩
  have g17 : Below w16.heap.size w16 w17 := hb17
  have s17 := hb17.size
  have f17_0 := carry g17 f16_0 (by omega)
  have f17_1 := carry g17 f16_1 (by omega)
  have f17_2 := carry g17 f16_2 (by omega)
  have f17_3 := carry g17 f16_3 (by omega)
  have f17_4 := carry g17 f16_4 (by omega)
  have f17_5 := carry g17 f16_5 (by omega)
  have f17_6 := carry g17 f16_6 (by omega)
  have f17_7 := carry g17 f16_7 (by omega)
  have o17_0 := own_below o16_0 g17 (Nat.le_refl _)
  have o17_1 := own_below o16_1 g17 (Nat.le_refl _)
  have o17_2 := own_below n16 g17 (Nat.le_refl _)
  have k17 := k16.trans (g17.mono k16.size)
  clear f16_0 f16_1 f16_2 f16_3 f16_4 f16_5 f16_6 f16_7 o16_0 o16_1 n16
  have r17 : Lies (.slice T17 rm.length d17) (w16.heap.size) w17.heap.size := own_lies n17
  have q18_0 : (w17.alloc (Obj.cells #[.int .i64 rq, .slice T17 rm.length d17] 55)).cell? ⟨W.heap.size, 0, none⟩ = some (.int .i64 p0) := (World.cell?_alloc_lt _ _ _ (show W.heap.size < w17.heap.size by omega)).trans f17_0
  have q18_1 : (w17.alloc (Obj.cells #[.int .i64 rq, .slice T17 rm.length d17] 55)).cell? ⟨W.heap.size, 1, none⟩ = some (.slice A0 l0.length c0) := (World.cell?_alloc_lt _ _ _ (show W.heap.size < w17.heap.size by omega)).trans f17_1
  have q18_2 : (w17.alloc (Obj.cells #[.int .i64 rq, .slice T17 rm.length d17] 55)).cell? ⟨w5.heap.size, 0, none⟩ = some (.int .i64 p0) := (World.cell?_alloc_lt _ _ _ (show w5.heap.size < w17.heap.size by omega)).trans f17_2
  have q18_3 : (w17.alloc (Obj.cells #[.int .i64 rq, .slice T17 rm.length d17] 55)).cell? ⟨w5.heap.size, 1, none⟩ = some (.slice T5 l0.length d5) := (World.cell?_alloc_lt _ _ _ (show w5.heap.size < w17.heap.size by omega)).trans f17_3
  have q18_4 : (w17.alloc (Obj.cells #[.int .i64 rq, .slice T17 rm.length d17] 55)).cell? ⟨w3.heap.size, 0, none⟩ = some (.int .i64 rq) := (World.cell?_alloc_lt _ _ _ (show w3.heap.size < w17.heap.size by omega)).trans f17_4
  have q18_5 : (w17.alloc (Obj.cells #[.int .i64 rq, .slice T17 rm.length d17] 55)).cell? ⟨w3.heap.size, 1, none⟩ = some (.slice T3 rm.length d3) := (World.cell?_alloc_lt _ _ _ (show w3.heap.size < w17.heap.size by omega)).trans f17_5
  have q18_6 : (w17.alloc (Obj.cells #[.int .i64 rq, .slice T17 rm.length d17] 55)).cell? ⟨w7.heap.size, 0, none⟩ = some (.int .i64 rq) := (World.cell?_alloc_lt _ _ _ (show w7.heap.size < w17.heap.size by omega)).trans f17_6
  have q18_7 : (w17.alloc (Obj.cells #[.int .i64 rq, .slice T17 rm.length d17] 55)).cell? ⟨w7.heap.size, 1, none⟩ = some (.slice T7 rm.length d7) := (World.cell?_alloc_lt _ _ _ (show w7.heap.size < w17.heap.size by omega)).trans f17_7
  clear o17_2 r16
  go_wp2_with fail
  refine (eqPuzzle_any rq rq rm rm _ _ _ _ _ hrl hrl ((((CRead.of_own n17).below (B' := w17.heap.size) (by go_grown) (Nat.le_refl _)).more (by go_size))) ((((CRead.of_own o17_0).below (B' := w17.heap.size) (by go_grown) (Nat.le_refl _)).more (by go_size)))).mono ?_
  rw [decide_eq_true ⟨rfl, rfl⟩]
  rintro e w19 ⟨rfl, hb19⟩
  simp only [World.size_alloc] at hb19
  have g19 : Below w17.heap.size w17 w19 := Below.trans (b := _) (by go_grown) (hb19.mono (by omega))
  have s19 := hb19.size
  simp only [World.size_alloc] at s19
  have f19_0 := carry g19 f17_0 (by omega)
  have f19_1 := carry g19 f17_1 (by omega)
  have f19_2 := carry g19 f17_2 (by omega)
  have f19_3 := carry g19 f17_3 (by omega)
  have f19_4 := carry g19 f17_4 (by omega)
  have f19_5 := carry g19 f17_5 (by omega)
  have f19_6 := carry g19 f17_6 (by omega)
  have f19_7 := carry g19 f17_7 (by omega)
  have f19_8 : w19.cell? ⟨w17.heap.size, 0, none⟩ = some (.int .i64 rq) := carry hb19 (by simp) (by omega)
  have f19_9 : w19.cell? ⟨w17.heap.size, 1, none⟩ = some (.slice T17 rm.length d17) := carry hb19 (by simp) (by omega)
  have o19_0 := own_below o17_0 g19 (Nat.le_refl _)
  have o19_1 := own_below o17_1 g19 (Nat.le_refl _)
  have o19_2 := own_below n17 g19 (Nat.le_refl _)
  have k19 := k17.trans (g19.mono k17.size)
  clear f17_0 f17_1 f17_2 f17_3 f17_4 f17_5 f17_6 f17_7 o17_0 o17_1 n17 q18_0 q18_1 q18_2 q18_3 q18_4 q18_5 q18_6 q18_7
  go_wp2_with fail
  refine (heldPuzzle_any _ _ _ _ 1 _ hrn hone (CRead.of_own o19_1)).mono ?_
  rintro e w20 ⟨rfl, hb20⟩
  have g20 : Below w19.heap.size w19 w20 := hb20
  have s20 := hb20.size
  have f20_0 := carry g20 f19_0 (by omega)
  have f20_1 := carry g20 f19_1 (by omega)
  have f20_2 := carry g20 f19_2 (by omega)
  have f20_3 := carry g20 f19_3 (by omega)
  have f20_4 := carry g20 f19_4 (by omega)
  have f20_5 := carry g20 f19_5 (by omega)
  have f20_6 := carry g20 f19_6 (by omega)
  have f20_7 := carry g20 f19_7 (by omega)
  have f20_8 := carry g20 f19_8 (by omega)
  have f20_9 := carry g20 f19_9 (by omega)
  have o20_0 := own_below o19_0 g20 (Nat.le_refl _)
  have o20_1 := own_below o19_1 g20 (Nat.le_refl _)
  have o20_2 := own_below o19_2 g20 (Nat.le_refl _)
  have k20 := k19.trans (g20.mono k19.size)
  clear f19_0 f19_1 f19_2 f19_3 f19_4 f19_5 f19_6 f19_7 f19_8 f19_9 o19_0 o19_1 o19_2
  go_wp2
  go_ret
  exact ⟨rfl, k20⟩
end Go.Proofs.Ytkiobefojckocaa
/-
  THE PROGRAM's HEAD, LOOKED AT ONCE: which make it is, and that a call may enter it. (The head's text is long: the kernel must not read it twice.)
-/
namespace Go.Proofs.Ytkiobefojckocaa

theorem make_of {P : Program} {rest : List (List Char)} (h : behindMainWord (wordsSigns P.initOrder.toList) = "cut".toList :: rest) : P.make = some .cut := by
  unfold Program.make
  rw [h]
  rfl
theorem strip_cut (rest : List (List Char)) : stripLifts liftWords ("cut".toList :: rest) = ([], "cut".toList :: rest) := rfl
theorem lifts_of {P : Program} {rest : List (List Char)} (h : behindMainWord (wordsSigns P.initOrder.toList) = "cut".toList :: rest) : P.headLifts = [] := by
  unfold Program.headLifts
  rw [h, strip_cut]
  rfl
theorem final_of {P : Program} {rest : List (List Char)} (h : behindMainWord (wordsSigns P.initOrder.toList) = "cut".toList :: rest) : P.liftsFinal = false := by
  unfold Program.liftsFinal
  rw [lifts_of h, h]
  rfl
theorem enter_of {P : Program} {rest : List (List Char)} (h : behindMainWord (wordsSigns P.initOrder.toList) = "cut".toList :: rest) (h1 : P.laysLater = false) (h2 : P.bearsReflect = false) (h3 : P.doorFits [] = true) : P.mayEnter = true := by
  unfold Program.mayEnter
  rw [h]
  show (_ || _ || _) = true
  rw [strip_cut, h1, h2, h3]
  rfl
end Go.Proofs.Ytkiobefojckocaa
/-
  THE PROGRAM's CLOSED FACTS, EACH ONCE; and how a row's facts are put together out of them.
-/
namespace Go.Proofs.Ytkiobefojckocaa
open Go.ChangeShapes Go.WideShapes Go.ChangeAt Go.RowKit

def headSigns : List Char := ([104, 97, 114, 110, 101, 115, 115, 32, 55, 55, 98, 50, 49, 52, 56, 50, 98, 102, 57, 50, 50, 55, 97, 102, 53, 54, 99, 54, 48, 57, 53, 50, 57, 48, 53, 97, 55, 54, 51, 54, 98, 97, 57, 56, 52, 52, 54, 53, 51, 50, 56, 98, 52, 57, 51, 52, 98, 50, 99, 55, 57, 49, 100, 101, 98, 51, 99, 53, 49, 56, 98, 50, 32, 99, 117, 116, 32, 97, 116, 32, 108, 111, 111, 112, 46, 101, 120, 97, 109, 112, 108, 101, 47, 103, 48, 49, 50, 53, 55, 47, 108, 97, 119, 115, 46, 70, 110, 69, 120, 97, 99, 116, 70, 105, 114, 115, 116, 68, 101, 115, 107, 32, 108, 111, 111, 112, 46, 101, 120, 97, 109, 112, 108, 101, 47, 103, 48, 49, 50, 53, 55, 47, 108, 97, 119, 115, 46, 70, 110, 69, 120, 97, 99, 116, 73, 115, 68, 101, 115, 107, 32, 108, 111, 111, 112, 46, 101, 120, 97, 109, 112, 108, 101, 47, 103, 48, 49, 50, 53, 55, 47, 108, 97, 119, 115, 46, 70, 110, 69, 120, 97, 99, 116, 70, 105, 114, 115, 116, 80, 97, 105, 114, 105, 110, 103, 32, 108, 111, 111, 112, 46, 101, 120, 97, 109, 112, 108, 101, 47, 103, 48, 49, 50, 53, 55, 47, 108, 97, 119, 115, 46, 70, 110, 69, 120, 97, 99, 116, 77, 111, 115, 116, 73, 110, 80, 97, 105, 114, 115, 32, 108, 111, 111, 112, 46, 101, 120, 97, 109, 112, 108, 101, 47, 103, 48, 49, 50, 53, 55, 47, 108, 97, 119, 115, 46, 70, 110, 69, 120, 97, 99, 116, 68, 114, 111, 112, 67, 108, 117, 101, 32, 108, 111, 111, 112, 46, 101, 120, 97, 109, 112, 108, 101, 47, 103, 48, 49, 50, 53, 55, 47, 108, 97, 119, 115, 46, 70, 110, 69, 120, 97, 99, 116, 65, 100, 100, 67, 108, 117, 101, 32, 108, 111, 111, 112, 46, 101, 120, 97, 109, 112, 108, 101, 47, 103, 48, 49, 50, 53, 55, 47, 108, 97, 119, 115, 46, 70, 110, 69, 120, 97, 99, 116, 70, 101, 119, 101, 115, 116, 67, 111, 108, 111, 117, 114, 115, 32, 108, 111, 111, 112, 46, 101, 120, 97, 109, 112, 108, 101, 47, 103, 48, 49, 50, 53, 55, 47, 108, 97, 119, 115, 46, 70, 110, 69, 120, 97, 99, 116, 70, 105, 114, 115, 116, 67, 111, 108, 111, 117, 114, 105, 110, 103] : List Nat).map Char.ofNat
set_option maxRecDepth 100000 in
theorem Try.initOrder_is : Try.prog.initOrder = String.ofList headSigns := by kernel_rfl
theorem Try.initOrder_signs : Try.prog.initOrder.toList = headSigns := by rw [Try.initOrder_is]; exact String.toList_ofList
set_option maxRecDepth 100000 in
theorem head_words : (behindMainWord (wordsSigns headSigns)).take 1 = ["cut".toList] := by kernel_rfl
theorem Try.words : ∃ rest, behindMainWord (wordsSigns Try.prog.initOrder.toList) = "cut".toList :: rest := by
  rw [Try.initOrder_signs]
  have h := List.take_append_drop 1 (behindMainWord (wordsSigns headSigns))
  rw [head_words] at h
  exact ⟨_, h.symm⟩
theorem Try.make : Try.prog.make = some .cut := by obtain ⟨_, h⟩ := Try.words; exact make_of h
theorem Try.liftsFinal : Try.prog.liftsFinal = false := by obtain ⟨_, h⟩ := Try.words; exact final_of h
theorem Try.laysLater : Try.prog.laysLater = false := by kernel_rfl
theorem Try.bearsReflect : Try.prog.bearsReflect = false := by kernel_rfl
theorem Try.doorFits : Try.prog.doorFits [] = true := by kernel_rfl
theorem Try.mayEnter : Try.prog.mayEnter = true := by obtain ⟨_, h⟩ := Try.words; exact enter_of h Try.laysLater Try.bearsReflect Try.doorFits
theorem Try.mapsRowed : mapsRowed Try.prog = true := by kernel_rfl
theorem Try.stops : (Try.prog.stops == []) = true := by kernel_rfl
theorem Try.stopKnobs : (Try.prog.stopKnobs == []) = true := by kernel_rfl
theorem Try.plainKeys : Try.prog.plainKeys = true := by kernel_rfl
theorem Try.stopsHeard : Try.prog.stopsHeard = true := by kernel_rfl

/-- What the types of one law give: closed facts on its parameters and its result. -/
def typeFacts (P : Program) (fn : Func) (s : ChangeSpec) (c : OpenClaim) : Bool :=
  fn.params.all (P.readableRec ·) && namedTie P c.named s.vars && (c.stops == []) && (c.knobs == []) &&
  (c.maps == (fn.params.toList ++ s.plain.varTypes P).any (P.mapsRec ·)) && (c.ifaces == (fn.params.toList ++ s.plain.varTypes P).any (P.ifacesRec ·)) && (c.mapsOut == P.mapsAmong fn.resultTypes.toList) &&
  (c.loops == (fn.params.toList ++ s.plain.varTypes P).any (P.loopsFrom ·)) && (c.wideKeys == (fn.params.toList ++ s.plain.varTypes P ++ fn.resultTypes.toList).any (P.wideKeysFrom ·)) &&
  s.vars.all (P.varReadable ·) && fn.resultTypes.all (fun t => P.readableRec t && decide (t < P.types.size)) && (c.ifacesOut == fn.resultTypes.toList.any (P.ifacesRec ·)) && (c.loopsOut == fn.resultTypes.toList.any (P.loopsFrom ·)) && c.shortTexts.isNone &&
  (c.kinds == (if c.domain.isEmpty then [] else fn.params.toList.map fun t => match P.underlying t with | some (.int k) => some k | _ => none)) && (c.pinned == c.pinnedBy) &&
  (c.veiled == (fn.params.toList ++ s.plain.varTypes P ++ fn.resultTypes.toList).any (P.veiledRec ·)) && c.veiledFits P fn.params.toList (fn.params.toList ++ s.plain.varTypes P ++ fn.resultTypes.toList)
theorem joined_all {P : Program} {f : FuncId} {fn : Func} {s : ChangeSpec} {c : OpenClaim} (k1 : c.wf (OpenSpec.ofChange s) = true) (kt : typeFacts P fn s c = true)
    (k10 : (c.inPlace == P.inPlace f) = true) (k11 : (c.unfollowed == P.unfollowed f) = true) (k12 : (c.recurses == P.recurses f) = true) (k13 : (c.named == P.varsNamed f) = true)
    (e2 : laidOutB P = true) (e3 : mapsRowed P = true) (e7 : (P.stops == []) = true) (e9 : (P.stopKnobs == []) = true) (e22 : (c.plainKeys == P.plainKeys) = true) (e23 : P.stopsHeard = true) (e24 : P.mayEnter = true)
    (e24b : (c.lifted == P.liftsFinal) = true) (e24c : (P.make == some c.make) = true) : joinedFacts P f fn s c = true := by
  unfold typeFacts at kt
  unfold joinedFacts
  simp only [Bool.and_eq_true] at kt ⊢
  obtain ⟨⟨⟨⟨⟨⟨⟨⟨⟨⟨⟨⟨⟨⟨⟨⟨⟨t1, t2⟩, t3⟩, t4⟩, t5⟩, t6⟩, t7⟩, t8⟩, t9⟩, t10⟩, t11⟩, t12⟩, t13⟩, t14⟩, t15⟩, t16⟩, t17⟩, t18⟩ := kt
  exact ⟨⟨⟨⟨⟨⟨⟨⟨⟨⟨⟨⟨⟨⟨⟨⟨⟨⟨⟨⟨⟨⟨⟨⟨⟨⟨⟨⟨⟨⟨⟨k1, e2⟩, e3⟩, t1⟩, t2⟩, t3⟩, e7⟩, t4⟩, e9⟩, k10⟩, k11⟩, k12⟩, k13⟩, t5⟩, t6⟩, t7⟩, t8⟩, t9⟩, t10⟩, t11⟩, t12⟩, t13⟩, e22⟩, t14⟩, e23⟩, e24⟩, e24b⟩, e24c⟩, t15⟩, t16⟩, t17⟩, t18⟩
theorem joined_of {f : FuncId} {fn : Func} {s : ChangeSpec} {c : OpenClaim} (k1 : c.wf (OpenSpec.ofChange s) = true) (kt : typeFacts Try.prog fn s c = true)
    (k10 : (c.inPlace == Try.prog.inPlace f) = true) (k11 : (c.unfollowed == Try.prog.unfollowed f) = true) (k12 : (c.recurses == Try.prog.recurses f) = true) (k13 : (c.named == Try.prog.varsNamed f) = true)
    (k22 : c.plainKeys = true) (k24b : c.lifted = false) (k24c : c.make = .cut) : joinedFacts Try.prog f fn s c = true :=
  joined_all k1 kt k10 k11 k12 k13 Try.laidOut Try.mapsRowed Try.stops Try.stopKnobs (by rw [k22, Try.plainKeys]; rfl) Try.stopsHeard Try.mayEnter (by rw [k24b, Try.liftsFinal]; rfl) (by rw [k24c, Try.make]; rfl)
end Go.Proofs.Ytkiobefojckocaa
