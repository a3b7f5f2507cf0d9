/-
  'laws.FnExactRenameParty' returns true, whatever its arguments: out of the contracts of the model's function and of the program's.
-/
import Derived.Test.YtaemodpolopcfaaNameSp
import Derived.Test.YtaemodpolopcfaaRenameI
import Derived.Test.YtaemodpolopcfaaInts
import Derived.Test.YtaemodpolopcfaaOpenL
import Derived.Deep.RegionHeld3
namespace Go.Proofs.Ytaemodpolopcfaa
open Go.RowKit

set_option maxHeartbeats 4000000 in
set_option maxRecDepth 100000 in
theorem lawRenameParty_any (p0 : Int) (l0 : PL) (A0 : Option Addr) (c0 : Nat) (q1 : List Int) (A1 : Option Addr) (c1 : Nat) (W : World) (hl0 : l0.length ≤ maxLen) (hA0 : CRead W W.heap.size A0 (pcells l0)) (hl1 : q1.length ≤ maxLen) (hA1 : CRead W W.heap.size A1 (icells q1)) :
    Calls Try.prog 3 #[.agg #[.int .i64 p0, .slice A0 l0.length c0], .slice A1 q1.length c1] W fun e w' => e = .returned (.bool true) ∧ Below W.heap.size W w' := by
  have hone : (0 : Int) ≤ 1 ∧ (1 : Int) ≤ 16777216 := by omega
  by_cases hq1 : (1048576 : Int) < (q1.length : Int)
  · unfold maxLen at *
    go_enter Try.func3, Try.ntmps3
    go_wp2
    go_ret
    exact ⟨rfl, by go_grown⟩
  have hn1 : q1.length ≤ 1048576 := by omega
  by_cases hz0 : szI (1048576) l0.length < 0
  · go_enter Try.func3, Try.ntmps3
    go_wp2_with fail
    refine (szParty_any _ _ _ _ _ hl0 (by omega) (by omega) _).mono ?_
    rintro e w1 ⟨rfl, hb1⟩
    simp only [World.size_alloc] at hb1
    have g1 : Below W.heap.size W w1 := Below.trans (b := _) (by go_grown) (hb1.mono (by omega))
    have s1 := hb1.size
    simp only [World.size_alloc] at s1
    have f1_0 : w1.cell? ⟨W.heap.size, 0, none⟩ = some (.int .i64 p0) := carry hb1 (by simp) (by omega)
    have f1_1 : w1.cell? ⟨W.heap.size, 1, none⟩ = some (.slice A0 l0.length c0) := carry hb1 (by simp) (by omega)
    have k1 : Below W.heap.size W w1 := g1
    go_wp2
    go_ret
    exact ⟨rfl, k1⟩
  have hn0 : l0.length ≤ 1048576 := by have h1 := szI_len _ _ hz0; have h2 := szI_hi (1048576) l0.length (by omega); omega
  have hz0' : 0 ≤ szI (1048576) l0.length := by omega
  have hz0'' : szI (1048576) l0.length ≤ 1048576 := by have h2 := szI_hi (1048576) l0.length (by omega); omega
  obtain ⟨⟨rq, rm, rok⟩, hres⟩ : ∃ r, resRenameParty p0 l0 q1 = r := ⟨_, rfl⟩
  have hrn : rm.length ≤ 1048576 := by have h := resRenameParty_len p0 l0 q1; rw [hres] at h; exact h
  have hrl : rm.length ≤ maxLen := by unfold maxLen; omega
  have Hres := Lib.hid hres
  clear hres
  go_enter Try.func3, Try.ntmps3
  go_wp2_with fail
  refine (szParty_any _ _ _ _ _ hl0 (by omega) (by omega) _).mono ?_
  rintro e w1 ⟨rfl, hb1⟩
  simp only [World.size_alloc] at hb1
  have g1 : Below W.heap.size W w1 := Below.trans (b := _) (by go_grown) (hb1.mono (by omega))
  have s1 := hb1.size
  simp only [World.size_alloc] at s1
  have f1_0 : w1.cell? ⟨W.heap.size, 0, none⟩ = some (.int .i64 p0) := carry hb1 (by simp) (by omega)
  have f1_1 : w1.cell? ⟨W.heap.size, 1, none⟩ = some (.slice A0 l0.length c0) := carry hb1 (by simp) (by omega)
  have k1 : Below W.heap.size W w1 := g1
  go_wp2_with fail
  refine (toParty_any p0 l0 A0 c0 _ hn0 ((hA0.below k1 (Nat.le_refl _)).more k1.size)).mono ?_
  rintro e w2 ⟨T2, d2, rfl, n2, hb2⟩
  have g2 : Below w1.heap.size w1 w2 := hb2
  have s2 := hb2.size
  have f2_0 := carry g2 f1_0 (by omega)
  have f2_1 := carry g2 f1_1 (by omega)
  have k2 := k1.trans (g2.mono k1.size)
  clear f1_0 f1_1
  have r2 : Lies (.slice T2 l0.length d2) (w1.heap.size) w2.heap.size := own_lies n2
  go_wp2_with fail
  refine (toIntS_got q1 A1 c1 _ hn1 ((hA1.below k2 (Nat.le_refl _)).more k2.size)).mono ?_
  rintro e w3 ⟨T3, d3, rfl, n3, hb3⟩
  have g3 : Below w2.heap.size w2 w3 := hb3
  have s3 := hb3.size
  have f3_0 := carry g3 f2_0 (by omega)
  have f3_1 := carry g3 f2_1 (by omega)
  have o3_0 := own_below n2 g3 (Nat.le_refl _)
  have k3 := k2.trans (g3.mono k2.size)
  clear f2_0 f2_1 n2
  have r3 : Lies (.slice T3 q1.length d3) (w2.heap.size) w3.heap.size := own_lies n3
  go_wp2_with fail
  refine (specRenameParty_any p0 l0 _ _ q1 _ _ _ hn0 (CRead.of_own o3_0) hn1 (CRead.of_own n3) (own_cap n3)).mono ?_
  rw [Hres.out]
  rintro e w4 ⟨T4, d4, rfl, n4, hb4⟩
  have g4 : Below w3.heap.size w3 w4 := hb4
  have s4 := hb4.size
  have f4_0 := carry g4 f3_0 (by omega)
  have f4_1 := carry g4 f3_1 (by omega)
  have o4_0 := own_below o3_0 g4 (Nat.le_refl _)
  have o4_1 := own_below n3 g4 (Nat.le_refl _)
  have k4 := k3.trans (g4.mono k3.size)
  clear f3_0 f3_1 o3_0 n3
  have r4 : Lies (.slice T4 rm.length d4) (w3.heap.size) w4.heap.size := own_lies n4
  have q5_0 : (w4.alloc (Obj.cells #[.int .i64 rq, .slice T4 rm.length d4] 29)).cell? ⟨W.heap.size, 0, none⟩ = some (.int .i64 p0) := (World.cell?_alloc_lt _ _ _ (show W.heap.size < w4.heap.size by omega)).trans f4_0
  have q5_1 : (w4.alloc (Obj.cells #[.int .i64 rq, .slice T4 rm.length d4] 29)).cell? ⟨W.heap.size, 1, none⟩ = some (.slice A0 l0.length c0) := (World.cell?_alloc_lt _ _ _ (show W.heap.size < w4.heap.size by omega)).trans f4_1
  clear o4_0 r2
  clear o4_1 r3
  go_wp2_with fail
  refine (toParty_any p0 l0 A0 c0 _ hn0 ((hA0.below (B' := W.heap.size) (Below.trans k4 (by go_grown)) (Nat.le_refl _)).more (by go_size))).mono ?_
  rintro e w6 ⟨T6, d6, rfl, n6, hb6⟩
  simp only [World.size_alloc] at n6
  simp only [World.size_alloc] at hb6
  have g6 : Below w4.heap.size w4 w6 := Below.trans (b := _) (by go_grown) (hb6.mono (by omega))
  have s6 := hb6.size
  simp only [World.size_alloc] at s6
  have f6_0 := carry g6 f4_0 (by omega)
  have f6_1 := carry g6 f4_1 (by omega)
  have f6_2 : w6.cell? ⟨w4.heap.size, 0, none⟩ = some (.int .i64 rq) := carry hb6 (by simp) (by omega)
  have f6_3 : w6.cell? ⟨w4.heap.size, 1, none⟩ = some (.slice T4 rm.length d4) := carry hb6 (by simp) (by omega)
  have o6_0 := own_below n4 g6 (Nat.le_refl _)
  have k6 := k4.trans (g6.mono k4.size)
  clear f4_0 f4_1 n4 q5_0 q5_1
  have r6 : Lies (.slice T6 l0.length d6) (w4.heap.size + 1) w6.heap.size := own_lies n6
  have q7_0 : (w6.alloc (Obj.cells #[.int .i64 p0, .slice T6 l0.length d6] 29)).cell? ⟨W.heap.size, 0, none⟩ = some (.int .i64 p0) := (World.cell?_alloc_lt _ _ _ (show W.heap.size < w6.heap.size by omega)).trans f6_0
  have q7_1 : (w6.alloc (Obj.cells #[.int .i64 p0, .slice T6 l0.length d6] 29)).cell? ⟨W.heap.size, 1, none⟩ = some (.slice A0 l0.length c0) := (World.cell?_alloc_lt _ _ _ (show W.heap.size < w6.heap.size by omega)).trans f6_1
  have q7_2 : (w6.alloc (Obj.cells #[.int .i64 p0, .slice T6 l0.length d6] 29)).cell? ⟨w4.heap.size, 0, none⟩ = some (.int .i64 rq) := (World.cell?_alloc_lt _ _ _ (show w4.heap.size < w6.heap.size by omega)).trans f6_2
  have q7_3 : (w6.alloc (Obj.cells #[.int .i64 p0, .slice T6 l0.length d6] 29)).cell? ⟨w4.heap.size, 1, none⟩ = some (.slice T4 rm.length d4) := (World.cell?_alloc_lt _ _ _ (show w4.heap.size < w6.heap.size by omega)).trans f6_3
  go_wp2_with fail
  refine (toIntS_got q1 A1 c1 _ hn1 ((hA1.below (B' := W.heap.size) (Below.trans k6 (by go_grown)) (Nat.le_refl _)).more (by go_size))).mono ?_
  rintro e w8 ⟨T8, d8, rfl, n8, hb8⟩
  simp only [World.size_alloc] at n8
  simp only [World.size_alloc] at hb8
  have g8 : Below w6.heap.size w6 w8 := Below.trans (b := _) (by go_grown) (hb8.mono (by omega))
  have s8 := hb8.size
  simp only [World.size_alloc] at s8
  have f8_0 := carry g8 f6_0 (by omega)
  have f8_1 := carry g8 f6_1 (by omega)
  have f8_2 := carry g8 f6_2 (by omega)
  have f8_3 := carry g8 f6_3 (by omega)
  have f8_4 : w8.cell? ⟨w6.heap.size, 0, none⟩ = some (.int .i64 p0) := carry hb8 (by simp) (by omega)
  have f8_5 : w8.cell? ⟨w6.heap.size, 1, none⟩ = some (.slice T6 l0.length d6) := carry hb8 (by simp) (by omega)
  have o8_0 := own_below o6_0 g8 (Nat.le_refl _)
  have o8_1 := own_below n6 g8 (Nat.le_refl _)
  have k8 := k6.trans (g8.mono k6.size)
  clear f6_0 f6_1 f6_2 f6_3 o6_0 n6 q7_0 q7_1 q7_2 q7_3
  have r8 : Lies (.slice T8 q1.length d8) (w6.heap.size + 1) w8.heap.size := own_lies n8
  go_wp2_with fail
  refine (implRenameParty_any p0 l0 _ _ q1 _ _ _ hn0 (CRead.of_own o8_1) hn1 (CRead.of_own n8)).mono ?_
  rw [Hres.out]
  rintro e w9 ⟨T9, d9, rfl, n9, hb9⟩
  have g9 : Below w8.heap.size w8 w9 := hb9
  have s9 := hb9.size
  have f9_0 := carry g9 f8_0 (by omega)
  have f9_1 := carry g9 f8_1 (by omega)
  have f9_2 := carry g9 f8_2 (by omega)
  have f9_3 := carry g9 f8_3 (by omega)
  have f9_4 := carry g9 f8_4 (by omega)
  have f9_5 := carry g9 f8_5 (by omega)
  have o9_0 := own_below o8_0 g9 (Nat.le_refl _)
  have o9_1 := own_below o8_1 g9 (Nat.le_refl _)
  have o9_2 := own_below n8 g9 (Nat.le_refl _)
  have k9 := k8.trans (g9.mono k8.size)
  clear f8_0 f8_1 f8_2 f8_3 f8_4 f8_5 o8_0 o8_1 n8
  have r9 : Lies (.slice T9 rm.length d9) (w8.heap.size) w9.heap.size := own_lies n9
  have q10_0 : (w9.alloc (Obj.cells #[.int .i64 rq, .slice T9 rm.length d9] 29)).cell? ⟨W.heap.size, 0, none⟩ = some (.int .i64 p0) := (World.cell?_alloc_lt _ _ _ (show W.heap.size < w9.heap.size by omega)).trans f9_0
  have q10_1 : (w9.alloc (Obj.cells #[.int .i64 rq, .slice T9 rm.length d9] 29)).cell? ⟨W.heap.size, 1, none⟩ = some (.slice A0 l0.length c0) := (World.cell?_alloc_lt _ _ _ (show W.heap.size < w9.heap.size by omega)).trans f9_1
  have q10_2 : (w9.alloc (Obj.cells #[.int .i64 rq, .slice T9 rm.length d9] 29)).cell? ⟨w4.heap.size, 0, none⟩ = some (.int .i64 rq) := (World.cell?_alloc_lt _ _ _ (show w4.heap.size < w9.heap.size by omega)).trans f9_2
  have q10_3 : (w9.alloc (Obj.cells #[.int .i64 rq, .slice T9 rm.length d9] 29)).cell? ⟨w4.heap.size, 1, none⟩ = some (.slice T4 rm.length d4) := (World.cell?_alloc_lt _ _ _ (show w4.heap.size < w9.heap.size by omega)).trans f9_3
  have q10_4 : (w9.alloc (Obj.cells #[.int .i64 rq, .slice T9 rm.length d9] 29)).cell? ⟨w6.heap.size, 0, none⟩ = some (.int .i64 p0) := (World.cell?_alloc_lt _ _ _ (show w6.heap.size < w9.heap.size by omega)).trans f9_4
  have q10_5 : (w9.alloc (Obj.cells #[.int .i64 rq, .slice T9 rm.length d9] 29)).cell? ⟨w6.heap.size, 1, none⟩ = some (.slice T6 l0.length d6) := (World.cell?_alloc_lt _ _ _ (show w6.heap.size < w9.heap.size by omega)).trans f9_5
  go_wp2_with fail
  refine (eqParty_any rq rq rm rm _ _ _ _ _ hrl hrl ((((CRead.of_own n9).below (B' := w9.heap.size) (by go_grown) (Nat.le_refl _)).more (by go_size))) ((((CRead.of_own o9_0).below (B' := w9.heap.size) (by go_grown) (Nat.le_refl _)).more (by go_size)))).mono ?_
  rw [decide_eq_true ⟨rfl, rfl⟩]
  rintro e w11 ⟨rfl, hb11⟩
  simp only [World.size_alloc] at hb11
  have g11 : Below w9.heap.size w9 w11 := Below.trans (b := _) (by go_grown) (hb11.mono (by omega))
  have s11 := hb11.size
  simp only [World.size_alloc] at s11
  have f11_0 := carry g11 f9_0 (by omega)
  have f11_1 := carry g11 f9_1 (by omega)
  have f11_2 := carry g11 f9_2 (by omega)
  have f11_3 := carry g11 f9_3 (by omega)
  have f11_4 := carry g11 f9_4 (by omega)
  have f11_5 := carry g11 f9_5 (by omega)
  have f11_6 : w11.cell? ⟨w9.heap.size, 0, none⟩ = some (.int .i64 rq) := carry hb11 (by simp) (by omega)
  have f11_7 : w11.cell? ⟨w9.heap.size, 1, none⟩ = some (.slice T9 rm.length d9) := carry hb11 (by simp) (by omega)
  have o11_0 := own_below o9_0 g11 (Nat.le_refl _)
  have o11_1 := own_below o9_1 g11 (Nat.le_refl _)
  have o11_2 := own_below o9_2 g11 (Nat.le_refl _)
  have o11_3 := own_below n9 g11 (Nat.le_refl _)
  have k11 := k9.trans (g11.mono k9.size)
  clear f9_0 f9_1 f9_2 f9_3 f9_4 f9_5 o9_0 o9_1 o9_2 n9 q10_0 q10_1 q10_2 q10_3 q10_4 q10_5
  go_wp2
  go_region_held3 (fun w' => w'.cell? ⟨W.heap.size, 0, none⟩ = some (.int .i64 p0) ∧ w'.cell? ⟨W.heap.size, 1, none⟩ = some (.slice A0 l0.length c0) ∧ w'.cell? ⟨w6.heap.size, 0, none⟩ = some (.int .i64 p0) ∧ w'.cell? ⟨w6.heap.size, 1, none⟩ = some (.slice T6 l0.length d6) ∧ w'.cell? ⟨w4.heap.size, 0, none⟩ = some (.int .i64 rq) ∧ w'.cell? ⟨w4.heap.size, 1, none⟩ = some (.slice T4 rm.length d4) ∧ w'.cell? ⟨w9.heap.size, 0, none⟩ = some (.int .i64 rq) ∧ w'.cell? ⟨w9.heap.size, 1, none⟩ = some (.slice T9 rm.length d9)) (first | exact ⟨f11_0, f11_1, f11_4, f11_5, f11_2, f11_3, f11_6, f11_7⟩ | exact ⟨f12_0, f12_1, f12_2, f12_3, f12_4, f12_5, f12_6, f12_7⟩ | exact ⟨f13_0, f13_1, f13_2, f13_3, f13_4, f13_5, f13_6, f13_7⟩) ((first | (go_at_call 15; refine (toParty_any p0 l0 A0 c0 _ hn0 ((hA0.below k11.drew (Nat.le_refl _)).more k11.size)).mono ?_; rintro e w12 ⟨T12, d12, rfl, n12, hb12⟩; have g12 : Below w11.heap.size w11 w12 := (Below.refl _ _).drew.trans hb12; have s12 := g12.size; have f12_0 := carry g12 f11_0 (by omega); have f12_1 := carry g12 f11_1 (by omega); have f12_2 := carry g12 f11_4 (by omega); have f12_3 := carry g12 f11_5 (by omega); have f12_4 := carry g12 f11_2 (by omega); have f12_5 := carry g12 f11_3 (by omega); have f12_6 := carry g12 f11_6 (by omega); have f12_7 := carry g12 f11_7 (by omega); have o12_0 := own_below o11_0 g12 (Nat.le_refl _); have o12_1 := own_below o11_1 g12 (Nat.le_refl _); have o12_2 := own_below o11_2 g12 (Nat.le_refl _); have o12_3 := own_below o11_3 g12 (Nat.le_refl _); have k12 := k11.trans (g12.mono k11.size)) | (go_at_call 18; refine (eqParty_any p0 p0 l0 l0 _ _ _ _ _ hl0 hl0 (CRead.of_own o12_1) (CRead.of_own n12)).mono ?_; rw [decide_eq_true ⟨rfl, rfl⟩]; rintro e w13 ⟨rfl, hb13⟩; have g13 : Below w12.heap.size w12 w13 := hb13; have s13 := g13.size; have f13_0 := carry g13 f12_0 (by omega); have f13_1 := carry g13 f12_1 (by omega); have f13_2 := carry g13 f12_2 (by omega); have f13_3 := carry g13 f12_3 (by omega); have f13_4 := carry g13 f12_4 (by omega); have f13_5 := carry g13 f12_5 (by omega); have f13_6 := carry g13 f12_6 (by omega); have f13_7 := carry g13 f12_7 (by omega); have o13_0 := own_below o12_0 g13 (Nat.le_refl _); have o13_1 := own_below o12_1 g13 (Nat.le_refl _); have o13_2 := own_below o12_2 g13 (Nat.le_refl _); have o13_3 := own_below o12_3 g13 (Nat.le_refl _); have k13 := k12.trans (g13.mono k12.size))))
  clear f11_0 f11_1 f11_2 f11_3 f11_4 f11_5 f11_6 f11_7 o11_0 o11_1 o11_2 o11_3 f12_0 f12_1 f12_2 f12_3 f12_4 f12_5 f12_6 f12_7 o12_0 o12_1 o12_2 o12_3 n12
  go_wp2_with fail
  refine (toIntS_got q1 A1 c1 _ hn1 ((hA1.below k13 (Nat.le_refl _)).more k13.size)).mono ?_
  rintro e w14 ⟨T14, d14, rfl, n14, hb14⟩
  have g14 : Below w13.heap.size w13 w14 := hb14
  have s14 := hb14.size
  have f14_0 := carry g14 f13_0 (by omega)
  have f14_1 := carry g14 f13_1 (by omega)
  have f14_2 := carry g14 f13_2 (by omega)
  have f14_3 := carry g14 f13_3 (by omega)
  have f14_4 := carry g14 f13_4 (by omega)
  have f14_5 := carry g14 f13_5 (by omega)
  have f14_6 := carry g14 f13_6 (by omega)
  have f14_7 := carry g14 f13_7 (by omega)
  have o14_0 := own_below o13_0 g14 (Nat.le_refl _)
  have o14_1 := own_below o13_1 g14 (Nat.le_refl _)
  have o14_2 := own_below o13_2 g14 (Nat.le_refl _)
  have o14_3 := own_below o13_3 g14 (Nat.le_refl _)
  have k14 := k13.trans (g14.mono k13.size)
  clear f13_0 f13_1 f13_2 f13_3 f13_4 f13_5 f13_6 f13_7 o13_0 o13_1 o13_2 o13_3
  have r14 : Lies (.slice T14 q1.length d14) (w13.heap.size) w14.heap.size := own_lies n14
  go_wp2_with fail
  refine (eqIntS_any q1 q1 _ _ _ _ _ hl1 hl1 (CRead.of_own o14_2) (CRead.of_own n14)).mono ?_
  rw [decide_eq_true rfl]
  rintro e w15 ⟨rfl, hb15⟩
  have g15 : Below w14.heap.size w14 w15 := hb15
  have s15 := hb15.size
  have f15_0 := carry g15 f14_0 (by omega)
  have f15_1 := carry g15 f14_1 (by omega)
  have f15_2 := carry g15 f14_2 (by omega)
  have f15_3 := carry g15 f14_3 (by omega)
  have f15_4 := carry g15 f14_4 (by omega)
  have f15_5 := carry g15 f14_5 (by omega)
  have f15_6 := carry g15 f14_6 (by omega)
  have f15_7 := carry g15 f14_7 (by omega)
  have o15_0 := own_below o14_0 g15 (Nat.le_refl _)
  have o15_1 := own_below o14_1 g15 (Nat.le_refl _)
  have o15_2 := own_below o14_2 g15 (Nat.le_refl _)
  have o15_3 := own_below o14_3 g15 (Nat.le_refl _)
  have o15_4 := own_below n14 g15 (Nat.le_refl _)
  have k15 := k14.trans (g15.mono k14.size)
  clear f14_0 f14_1 f14_2 f14_3 f14_4 f14_5 f14_6 f14_7 o14_0 o14_1 o14_2 o14_3 n14
  clear o15_4 r14
  go_wp2_with fail
  refine (markParty_any p0 l0 _ _ _ (1) _ _ rfl hn0 (by omega) o15_1).mono ?_
  rintro e w16 ⟨rfl, n16, hg16⟩
  have s16 := hg16.size
  have f16_0 := carryG hg16 r6 f15_0 (by omega)
  have f16_1 := carryG hg16 r6 f15_1 (by omega)
  have f16_2 := carryG hg16 r6 f15_2 (by omega)
  have f16_3 := carryG hg16 r6 f15_3 (by omega)
  have f16_4 := carryG hg16 r6 f15_4 (by omega)
  have f16_5 := carryG hg16 r6 f15_5 (by omega)
  have f16_6 := carryG hg16 r6 f15_6 (by omega)
  have f16_7 := carryG hg16 r6 f15_7 (by omega)
  have o16_0 := keptG hg16 r6 o15_0 r4 (by omega)
  have o16_2 := keptG hg16 r6 o15_2 r8 (by omega)
  have o16_3 := keptG hg16 r6 o15_3 r9 (by omega)
  have k16 := belowG k15 hg16 r6 k15.size (by omega)
  clear f15_0 f15_1 f15_2 f15_3 f15_4 f15_5 f15_6 f15_7 o15_0 o15_1 o15_2 o15_3
  go_wp2_with fail
  refine (markIntS_any q1 _ _ _ (1 + 2 * (l0.length : Int)) _ _ rfl hn1 (by omega) o16_2).mono ?_
  rintro e w17 ⟨rfl, n17, hg17⟩
  have s17 := hg17.size
  have f17_0 := carryG hg17 r8 f16_0 (by omega)
  have f17_1 := carryG hg17 r8 f16_1 (by omega)
  have f17_2 := carryG hg17 r8 f16_2 (by omega)
  have f17_3 := carryG hg17 r8 f16_3 (by omega)
  have f17_4 := carryG hg17 r8 f16_4 (by omega)
  have f17_5 := carryG hg17 r8 f16_5 (by omega)
  have f17_6 := carryG hg17 r8 f16_6 (by omega)
  have f17_7 := carryG hg17 r8 f16_7 (by omega)
  have o17_0 := keptG hg17 r8 o16_0 r4 (by omega)
  have o17_1 := keptG hg17 r8 n16 r6 (by omega)
  have o17_3 := keptG hg17 r8 o16_3 r9 (by omega)
  have k17 := belowG k16 hg17 r8 k16.size (by omega)
  clear f16_0 f16_1 f16_2 f16_3 f16_4 f16_5 f16_6 f16_7 o16_0 n16 o16_2 o16_3
  have hmk : ¬ (1 + 2 * (l0.length : Int) + (q1.length : Int) < 0) := by omega
  go_wp2_with fail
  refine (eqParty_any rq rq rm rm _ _ _ _ _ hrl hrl (CRead.of_own o17_3) (CRead.of_own o17_0)).mono ?_
  rw [decide_eq_true ⟨rfl, rfl⟩]
  rintro e w18 ⟨rfl, hb18⟩
  have g18 : Below w17.heap.size w17 w18 := hb18
  have s18 := hb18.size
  have f18_0 := carry g18 f17_0 (by omega)
  have f18_1 := carry g18 f17_1 (by omega)
  have f18_2 := carry g18 f17_2 (by omega)
  have f18_3 := carry g18 f17_3 (by omega)
  have f18_4 := carry g18 f17_4 (by omega)
  have f18_5 := carry g18 f17_5 (by omega)
  have f18_6 := carry g18 f17_6 (by omega)
  have f18_7 := carry g18 f17_7 (by omega)
  have o18_0 := own_below o17_0 g18 (Nat.le_refl _)
  have o18_1 := own_below o17_1 g18 (Nat.le_refl _)
  have o18_2 := own_below n17 g18 (Nat.le_refl _)
  have o18_3 := own_below o17_3 g18 (Nat.le_refl _)
  have k18 := k17.trans (g18.mono k17.size)
  clear f17_0 f17_1 f17_2 f17_3 f17_4 f17_5 f17_6 f17_7 o17_0 o17_1 n17 o17_3
  clear o18_1 r6
  clear o18_2 r8
  go_wp2_with fail
  refine (markParty_any rq rm _ _ _ 1 _ _ rfl hrn hone o18_3).mono ?_
  rintro e w19 ⟨rfl, n19, hg19⟩
  have s19 := hg19.size
  have f19_0 := carryG hg19 r9 f18_0 (by omega)
  have f19_1 := carryG hg19 r9 f18_1 (by omega)
  have f19_2 := carryG hg19 r9 f18_2 (by omega)
  have f19_3 := carryG hg19 r9 f18_3 (by omega)
  have f19_4 := carryG hg19 r9 f18_4 (by omega)
  have f19_5 := carryG hg19 r9 f18_5 (by omega)
  have f19_6 := carryG hg19 r9 f18_6 (by omega)
  have f19_7 := carryG hg19 r9 f18_7 (by omega)
  have o19_0 := keptG hg19 r9 o18_0 r4 (by omega)
  have k19 := belowG k18 hg19 r9 k18.size (by omega)
  clear f18_0 f18_1 f18_2 f18_3 f18_4 f18_5 f18_6 f18_7 o18_0 o18_3
  have hmr : ¬ (1 + 2 * (rm.length : Int) < 0) := by omega
  go_wp2_with fail
  refine (heldParty_any _ _ _ _ 1 _ hrn hone (CRead.of_own n19)).mono ?_
  rintro e w20 ⟨rfl, hb20⟩
  have g20 : Below w19.heap.size w19 w20 := hb20
  have s20 := hb20.size
  have f20_0 := carry g20 f19_0 (by omega)
  have f20_1 := carry g20 f19_1 (by omega)
  have f20_2 := carry g20 f19_2 (by omega)
  have f20_3 := carry g20 f19_3 (by omega)
  have f20_4 := carry g20 f19_4 (by omega)
  have f20_5 := carry g20 f19_5 (by omega)
  have f20_6 := carry g20 f19_6 (by omega)
  have f20_7 := carry g20 f19_7 (by omega)
  have o20_0 := own_below o19_0 g20 (Nat.le_refl _)
  have o20_1 := own_below n19 g20 (Nat.le_refl _)
  have k20 := k19.trans (g20.mono k19.size)
  clear f19_0 f19_1 f19_2 f19_3 f19_4 f19_5 f19_6 f19_7 o19_0 n19
  go_wp2_with fail
  refine (toParty_any p0 l0 A0 c0 _ hn0 ((hA0.below k20 (Nat.le_refl _)).more k20.size)).mono ?_
  rintro e w21 ⟨T21, d21, rfl, n21, hb21⟩
  have g21 : Below w20.heap.size w20 w21 := hb21
  have s21 := hb21.size
  have f21_0 := carry g21 f20_0 (by omega)
  have f21_1 := carry g21 f20_1 (by omega)
  have f21_2 := carry g21 f20_2 (by omega)
  have f21_3 := carry g21 f20_3 (by omega)
  have f21_4 := carry g21 f20_4 (by omega)
  have f21_5 := carry g21 f20_5 (by omega)
  have f21_6 := carry g21 f20_6 (by omega)
  have f21_7 := carry g21 f20_7 (by omega)
  have o21_0 := own_below o20_0 g21 (Nat.le_refl _)
  have o21_1 := own_below o20_1 g21 (Nat.le_refl _)
  have k21 := k20.trans (g21.mono k20.size)
  clear f20_0 f20_1 f20_2 f20_3 f20_4 f20_5 f20_6 f20_7 o20_0 o20_1
  have r21 : Lies (.slice T21 l0.length d21) (w20.heap.size) w21.heap.size := own_lies n21
  go_wp2_with fail
  refine (toIntS_got q1 A1 c1 _ hn1 ((hA1.below k21 (Nat.le_refl _)).more k21.size)).mono ?_
  rintro e w22 ⟨T22, d22, rfl, n22, hb22⟩
  have g22 : Below w21.heap.size w21 w22 := hb22
  have s22 := hb22.size
  have f22_0 := carry g22 f21_0 (by omega)
  have f22_1 := carry g22 f21_1 (by omega)
  have f22_2 := carry g22 f21_2 (by omega)
  have f22_3 := carry g22 f21_3 (by omega)
  have f22_4 := carry g22 f21_4 (by omega)
  have f22_5 := carry g22 f21_5 (by omega)
  have f22_6 := carry g22 f21_6 (by omega)
  have f22_7 := carry g22 f21_7 (by omega)
  have o22_0 := own_below o21_0 g22 (Nat.le_refl _)
  have o22_1 := own_below o21_1 g22 (Nat.le_refl _)
  have o22_2 := own_below n21 g22 (Nat.le_refl _)
  have k22 := k21.trans (g22.mono k21.size)
  clear f21_0 f21_1 f21_2 f21_3 f21_4 f21_5 f21_6 f21_7 o21_0 o21_1 n21
  have r22 : Lies (.slice T22 q1.length d22) (w21.heap.size) w22.heap.size := own_lies n22
  go_wp2_with fail
  refine (implRenameParty_any p0 l0 _ _ q1 _ _ _ hn0 (CRead.of_own o22_2) hn1 (CRead.of_own n22)).mono ?_
  rw [Hres.out]
  rintro e w23 ⟨T23, d23, rfl, n23, hb23⟩
  have g23 : Below w22.heap.size w22 w23 := hb23
  have s23 := hb23.size
  have f23_0 := carry g23 f22_0 (by omega)
  have f23_1 := carry g23 f22_1 (by omega)
  have f23_2 := carry g23 f22_2 (by omega)
  have f23_3 := carry g23 f22_3 (by omega)
  have f23_4 := carry g23 f22_4 (by omega)
  have f23_5 := carry g23 f22_5 (by omega)
  have f23_6 := carry g23 f22_6 (by omega)
  have f23_7 := carry g23 f22_7 (by omega)
  have o23_0 := own_below o22_0 g23 (Nat.le_refl _)
  have o23_1 := own_below o22_1 g23 (Nat.le_refl _)
  have o23_2 := own_below o22_2 g23 (Nat.le_refl _)
  have o23_3 := own_below n22 g23 (Nat.le_refl _)
  have k23 := k22.trans (g23.mono k22.size)
  clear f22_0 f22_1 f22_2 f22_3 f22_4 f22_5 f22_6 f22_7 o22_0 o22_1 o22_2 n22
  have r23 : Lies (.slice T23 rm.length d23) (w22.heap.size) w23.heap.size := own_lies n23
  have q24_0 : (w23.alloc (Obj.cells #[.int .i64 rq, .slice T23 rm.length d23] 29)).cell? ⟨W.heap.size, 0, none⟩ = some (.int .i64 p0) := (World.cell?_alloc_lt _ _ _ (show W.heap.size < w23.heap.size by omega)).trans f23_0
  have q24_1 : (w23.alloc (Obj.cells #[.int .i64 rq, .slice T23 rm.length d23] 29)).cell? ⟨W.heap.size, 1, none⟩ = some (.slice A0 l0.length c0) := (World.cell?_alloc_lt _ _ _ (show W.heap.size < w23.heap.size by omega)).trans f23_1
  have q24_2 : (w23.alloc (Obj.cells #[.int .i64 rq, .slice T23 rm.length d23] 29)).cell? ⟨w6.heap.size, 0, none⟩ = some (.int .i64 p0) := (World.cell?_alloc_lt _ _ _ (show w6.heap.size < w23.heap.size by omega)).trans f23_2
  have q24_3 : (w23.alloc (Obj.cells #[.int .i64 rq, .slice T23 rm.length d23] 29)).cell? ⟨w6.heap.size, 1, none⟩ = some (.slice T6 l0.length d6) := (World.cell?_alloc_lt _ _ _ (show w6.heap.size < w23.heap.size by omega)).trans f23_3
  have q24_4 : (w23.alloc (Obj.cells #[.int .i64 rq, .slice T23 rm.length d23] 29)).cell? ⟨w4.heap.size, 0, none⟩ = some (.int .i64 rq) := (World.cell?_alloc_lt _ _ _ (show w4.heap.size < w23.heap.size by omega)).trans f23_4
  have q24_5 : (w23.alloc (Obj.cells #[.int .i64 rq, .slice T23 rm.length d23] 29)).cell? ⟨w4.heap.size, 1, none⟩ = some (.slice T4 rm.length d4) := (World.cell?_alloc_lt _ _ _ (show w4.heap.size < w23.heap.size by omega)).trans f23_5
  have q24_6 : (w23.alloc (Obj.cells #[.int .i64 rq, .slice T23 rm.length d23] 29)).cell? ⟨w9.heap.size, 0, none⟩ = some (.int .i64 rq) := (World.cell?_alloc_lt _ _ _ (show w9.heap.size < w23.heap.size by omega)).trans f23_6
  have q24_7 : (w23.alloc (Obj.cells #[.int .i64 rq, .slice T23 rm.length d23] 29)).cell? ⟨w9.heap.size, 1, none⟩ = some (.slice T9 rm.length d9) := (World.cell?_alloc_lt _ _ _ (show w9.heap.size < w23.heap.size by omega)).trans f23_7
  clear o23_2 r21
  clear o23_3 r22
  go_wp2_with fail
  refine (eqParty_any rq rq rm rm _ _ _ _ _ hrl hrl ((((CRead.of_own n23).below (B' := w23.heap.size) (by go_grown) (Nat.le_refl _)).more (by go_size))) ((((CRead.of_own o23_0).below (B' := w23.heap.size) (by go_grown) (Nat.le_refl _)).more (by go_size)))).mono ?_
  rw [decide_eq_true ⟨rfl, rfl⟩]
  rintro e w25 ⟨rfl, hb25⟩
  simp only [World.size_alloc] at hb25
  have g25 : Below w23.heap.size w23 w25 := Below.trans (b := _) (by go_grown) (hb25.mono (by omega))
  have s25 := hb25.size
  simp only [World.size_alloc] at s25
  have f25_0 := carry g25 f23_0 (by omega)
  have f25_1 := carry g25 f23_1 (by omega)
  have f25_2 := carry g25 f23_2 (by omega)
  have f25_3 := carry g25 f23_3 (by omega)
  have f25_4 := carry g25 f23_4 (by omega)
  have f25_5 := carry g25 f23_5 (by omega)
  have f25_6 := carry g25 f23_6 (by omega)
  have f25_7 := carry g25 f23_7 (by omega)
  have f25_8 : w25.cell? ⟨w23.heap.size, 0, none⟩ = some (.int .i64 rq) := carry hb25 (by simp) (by omega)
  have f25_9 : w25.cell? ⟨w23.heap.size, 1, none⟩ = some (.slice T23 rm.length d23) := carry hb25 (by simp) (by omega)
  have o25_0 := own_below o23_0 g25 (Nat.le_refl _)
  have o25_1 := own_below o23_1 g25 (Nat.le_refl _)
  have o25_2 := own_below n23 g25 (Nat.le_refl _)
  have k25 := k23.trans (g25.mono k23.size)
  clear f23_0 f23_1 f23_2 f23_3 f23_4 f23_5 f23_6 f23_7 o23_0 o23_1 n23 q24_0 q24_1 q24_2 q24_3 q24_4 q24_5 q24_6 q24_7
  go_wp2_with fail
  refine (heldParty_any _ _ _ _ 1 _ hrn hone (CRead.of_own o25_1)).mono ?_
  rintro e w26 ⟨rfl, hb26⟩
  have g26 : Below w25.heap.size w25 w26 := hb26
  have s26 := hb26.size
  have f26_0 := carry g26 f25_0 (by omega)
  have f26_1 := carry g26 f25_1 (by omega)
  have f26_2 := carry g26 f25_2 (by omega)
  have f26_3 := carry g26 f25_3 (by omega)
  have f26_4 := carry g26 f25_4 (by omega)
  have f26_5 := carry g26 f25_5 (by omega)
  have f26_6 := carry g26 f25_6 (by omega)
  have f26_7 := carry g26 f25_7 (by omega)
  have f26_8 := carry g26 f25_8 (by omega)
  have f26_9 := carry g26 f25_9 (by omega)
  have o26_0 := own_below o25_0 g26 (Nat.le_refl _)
  have o26_1 := own_below o25_1 g26 (Nat.le_refl _)
  have o26_2 := own_below o25_2 g26 (Nat.le_refl _)
  have k26 := k25.trans (g26.mono k25.size)
  clear f25_0 f25_1 f25_2 f25_3 f25_4 f25_5 f25_6 f25_7 f25_8 f25_9 o25_0 o25_1 o25_2
  go_wp2
  go_ret
  exact ⟨rfl, k26⟩
end Go.Proofs.Ytaemodpolopcfaa
