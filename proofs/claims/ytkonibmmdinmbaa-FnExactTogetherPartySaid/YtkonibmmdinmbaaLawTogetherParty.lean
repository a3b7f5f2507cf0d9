/-
  'laws.FnExactTogetherParty' returns true, whatever its arguments: out of the contracts of the model's function and of the program's.
-/
import Derived.Test.YtkonibmmdinmbaaBT
import Derived.Test.YtkonibmmdinmbaaCutP
import Derived.Deep.RegionHeld3
namespace Go.Proofs.Ytkonibmmdinmbaa
open Go.RowKit

set_option maxHeartbeats 4000000 in
set_option maxRecDepth 100000 in
theorem lawTogetherParty_any (p0 : Int) (l0 : PL) (A0 : Option Addr) (c0 : Nat) (p1 : Int) (l1 : PL) (A1 : Option Addr) (c1 : Nat) (W : World) (hl0 : l0.length ≤ maxLen) (hA0 : CRead W W.heap.size A0 (pcells l0)) (hl1 : l1.length ≤ maxLen) (hA1 : CRead W W.heap.size A1 (pcells l1)) :
    Calls Try.prog 6 #[.agg #[.int .i64 p0, .slice A0 l0.length c0], .agg #[.int .i64 p1, .slice A1 l1.length c1]] W fun e w' => e = .returned (.bool true) ∧ Below W.heap.size W w' := by
  have hone : (0 : Int) ≤ 1 ∧ (1 : Int) ≤ 16777216 := by omega
  by_cases hz0 : szI (1048576) l0.length < 0
  · go_enter Try.func6, Try.ntmps6
    go_wp2_with fail
    refine (szParty_any _ _ _ _ _ hl0 (by omega) (by omega) _).mono ?_
    rintro e w1 ⟨rfl, hb1⟩
    simp only [World.size_alloc] at hb1
    have g1 : Below W.heap.size W w1 := Below.trans (b := _) (by go_grown) (hb1.mono (by omega))
    have s1 := hb1.size
    simp only [World.size_alloc] at s1
    have f1_0 : w1.cell? ⟨W.heap.size, 0, none⟩ = some (.int .i64 p0) := carry hb1 (by simp) (by omega)
    have f1_1 : w1.cell? ⟨W.heap.size, 1, none⟩ = some (.slice A0 l0.length c0) := carry hb1 (by simp) (by omega)
    have f1_2 : w1.cell? ⟨W.heap.size + 1, 0, none⟩ = some (.int .i64 p1) := carry hb1 (by simp) (by omega)
    have f1_3 : w1.cell? ⟨W.heap.size + 1, 1, none⟩ = some (.slice A1 l1.length c1) := carry hb1 (by simp) (by omega)
    have k1 : Below W.heap.size W w1 := g1
    go_wp2
    go_ret
    exact ⟨rfl, k1⟩
  have hn0 : l0.length ≤ 1048576 := by have h1 := szI_len _ _ hz0; have h2 := szI_hi (1048576) l0.length (by omega); omega
  have hz0' : 0 ≤ szI (1048576) l0.length := by omega
  have hz0'' : szI (1048576) l0.length ≤ 1048576 := by have h2 := szI_hi (1048576) l0.length (by omega); omega
  by_cases hz1 : szI (szI (1048576) l0.length) l1.length < 0
  · go_enter Try.func6, Try.ntmps6
    go_wp2_with fail
    refine (szParty_any _ _ _ _ _ hl0 (by omega) (by omega) _).mono ?_
    rintro e w1 ⟨rfl, hb1⟩
    simp only [World.size_alloc] at hb1
    have g1 : Below W.heap.size W w1 := Below.trans (b := _) (by go_grown) (hb1.mono (by omega))
    have s1 := hb1.size
    simp only [World.size_alloc] at s1
    have f1_0 : w1.cell? ⟨W.heap.size, 0, none⟩ = some (.int .i64 p0) := carry hb1 (by simp) (by omega)
    have f1_1 : w1.cell? ⟨W.heap.size, 1, none⟩ = some (.slice A0 l0.length c0) := carry hb1 (by simp) (by omega)
    have f1_2 : w1.cell? ⟨W.heap.size + 1, 0, none⟩ = some (.int .i64 p1) := carry hb1 (by simp) (by omega)
    have f1_3 : w1.cell? ⟨W.heap.size + 1, 1, none⟩ = some (.slice A1 l1.length c1) := carry hb1 (by simp) (by omega)
    have k1 : Below W.heap.size W w1 := g1
    go_wp2_with fail
    refine (szParty_any _ _ _ _ _ hl1 (by omega) (by omega) _).mono ?_
    rintro e w2 ⟨rfl, hb2⟩
    have g2 : Below w1.heap.size w1 w2 := hb2
    have s2 := hb2.size
    have f2_0 := carry g2 f1_0 (by omega)
    have f2_1 := carry g2 f1_1 (by omega)
    have f2_2 := carry g2 f1_2 (by omega)
    have f2_3 := carry g2 f1_3 (by omega)
    have k2 := k1.trans (g2.mono k1.size)
    clear f1_0 f1_1 f1_2 f1_3
    go_wp2
    go_ret
    exact ⟨rfl, k2⟩
  have hn1 : l1.length ≤ 1048576 := by have h1 := szI_len _ _ hz1; have h2 := szI_hi (szI (1048576) l0.length) l1.length (by omega); have h3 := szI_hi 1048576 l0.length (by omega); omega
  have hz1' : 0 ≤ szI (szI (1048576) l0.length) l1.length := by omega
  have hz1'' : szI (szI (1048576) l0.length) l1.length ≤ 1048576 := by have h2 := szI_hi (szI (1048576) l0.length) l1.length (by omega); omega
  obtain ⟨⟨rq, rm, rok⟩, hres⟩ : ∃ r, resTogetherParty p0 l0 p1 l1 = r := ⟨_, rfl⟩
  have hrn : rm.length ≤ 1048576 := by have h := resTogetherParty_len p0 l0 p1 l1; rw [hres] at h; exact h
  have hrl : rm.length ≤ maxLen := by unfold maxLen; omega
  have Hres := Lib.hid hres
  clear hres
  go_enter Try.func6, Try.ntmps6
  go_wp2_with fail
  refine (szParty_any _ _ _ _ _ hl0 (by omega) (by omega) _).mono ?_
  rintro e w1 ⟨rfl, hb1⟩
  simp only [World.size_alloc] at hb1
  have g1 : Below W.heap.size W w1 := Below.trans (b := _) (by go_grown) (hb1.mono (by omega))
  have s1 := hb1.size
  simp only [World.size_alloc] at s1
  have f1_0 : w1.cell? ⟨W.heap.size, 0, none⟩ = some (.int .i64 p0) := carry hb1 (by simp) (by omega)
  have f1_1 : w1.cell? ⟨W.heap.size, 1, none⟩ = some (.slice A0 l0.length c0) := carry hb1 (by simp) (by omega)
  have f1_2 : w1.cell? ⟨W.heap.size + 1, 0, none⟩ = some (.int .i64 p1) := carry hb1 (by simp) (by omega)
  have f1_3 : w1.cell? ⟨W.heap.size + 1, 1, none⟩ = some (.slice A1 l1.length c1) := carry hb1 (by simp) (by omega)
  have k1 : Below W.heap.size W w1 := g1
  go_wp2_with fail
  refine (szParty_any _ _ _ _ _ hl1 (by omega) (by omega) _).mono ?_
  rintro e w2 ⟨rfl, hb2⟩
  have g2 : Below w1.heap.size w1 w2 := hb2
  have s2 := hb2.size
  have f2_0 := carry g2 f1_0 (by omega)
  have f2_1 := carry g2 f1_1 (by omega)
  have f2_2 := carry g2 f1_2 (by omega)
  have f2_3 := carry g2 f1_3 (by omega)
  have k2 := k1.trans (g2.mono k1.size)
  clear f1_0 f1_1 f1_2 f1_3
  go_wp2_with fail
  go_cut [6, 7] (fun s6 s7 wx => ∃ (g6 : Nat) (T : Option Addr) (d : Nat), s6 = .pointer (some ⟨g6, 0, none⟩) ∧ s7 = .bool rok ∧ CutP w2 rq rm wx g6 T d)
  case first =>
    have kS : ∀ X : World, Below w2.heap.size w2 X → X.cell? ⟨W.heap.size, 0, none⟩ = some (.int .i64 p0) ∧ X.cell? ⟨W.heap.size, 1, none⟩ = some (.slice A0 l0.length c0) ∧ X.cell? ⟨W.heap.size + 1, 0, none⟩ = some (.int .i64 p1) ∧ X.cell? ⟨W.heap.size + 1, 1, none⟩ = some (.slice A1 l1.length c1) := fun X hX => ⟨carry hX f2_0 (by omega), carry hX f2_1 (by omega), carry hX f2_2 (by omega), carry hX f2_3 (by omega)⟩
    have KA : Below W.heap.size W (w2.drew.alloc (Obj.cells #[.int .i64 0, .slice none 0 0] 29)) := k2.drew.alloc k2.size _
    have KD : Below w2.heap.size w2 w2.drew := (Below.refl _ _).drew
    have KE : Below w2.heap.size w2 (w2.drew.alloc (Obj.cells #[.int .i64 0, .slice none 0 0] 29)) := KD.alloc (Nat.le_refl _) _
    have KD' : ∀ v, Below w2.drew.heap.size w2.drew v → Below w2.heap.size w2 v := fun v h => KD.trans h
    have KE' : ∀ v, Below (w2.drew.alloc (Obj.cells #[.int .i64 0, .slice none 0 0] 29)).heap.size (w2.drew.alloc (Obj.cells #[.int .i64 0, .slice none 0 0] 29)) v → Below w2.heap.size w2 v := fun v h => KE.trans (h.mono (by rw [World.size_alloc]; exact Nat.le_succ _))
    have N0 : (w2.drew.alloc (Obj.cells #[.int .i64 0, .slice none 0 0] 29)).heap[w2.heap.size]? = some (Obj.cells #[.int .i64 0, .slice none 0 0] 29 (0, 0)) := heap_alloc_new w2.drew _
    have rdA : CRead w2.drew w2.drew.heap.size A0 (pcells l0) := (hA0.below k2.drew (Nat.le_refl _)).more k2.size
    have rdB : CRead (w2.drew.alloc (Obj.cells #[.int .i64 0, .slice none 0 0] 29)) (w2.drew.alloc (Obj.cells #[.int .i64 0, .slice none 0 0] 29)).heap.size A0 (pcells l0) := (hA0.below KA (Nat.le_refl _)).more KA.size
    go_region_held3 (fun w' => w'.cell? ⟨W.heap.size, 0, none⟩ = some (.int .i64 p0) ∧ w'.cell? ⟨W.heap.size, 1, none⟩ = some (.slice A0 l0.length c0) ∧ w'.cell? ⟨W.heap.size + 1, 0, none⟩ = some (.int .i64 p1) ∧ w'.cell? ⟨W.heap.size + 1, 1, none⟩ = some (.slice A1 l1.length c1)) (first | exact kS _ KD | exact kS _ KE | exact kS _ zg1 | exact kS _ (zg1.alloc z1s _) | exact kS _ zg2 | exact kS _ (zg2.alloc z2s _) | exact kS _ zg3 | exact kS _ (zg3.alloc z3s _) | exact kS _ ((zg3.setCell (p := ⟨_, 0, none⟩) (by first | exact Nat.le_refl _ | exact z1s | exact z2s) _).setCell (p := ⟨_, 1, none⟩) (by first | exact Nat.le_refl _ | exact z1s | exact z2s) _)) ((first | ((have gg := zg2); go_at_call 41; refine (specTogetherParty_any p0 l0 _ _ p1 l1 _ _ _ hn0 (by first | exact CRead.of_own o1 | exact CRead.of_own (o1.alloc _)) hn1 (by first | exact CRead.of_own n2 | exact CRead.of_own (n2.alloc _))).mono ?_; rw [Hres.out]; rintro e v3 ⟨T3, d3, rfl, n3, hb3⟩; have zg3 : Below w2.heap.size w2 v3 := (by first | exact zg2.trans (hb3.mono z2s) | exact (zg2.alloc z2s _).trans (hb3.mono (by simp only [World.size_alloc]; omega))); (first | (have Y := (hb3.block _ (lt_of_heap Y)).trans Y) | (have Y := (hb3.block v2.heap.size (by simp)).trans (heap_alloc_new v2 (Obj.cells #[.int .i64 0, .slice none 0 0] 29))) | skip); have z3s := zg3.size; (first | (have YY := box_cells Y; obtain ⟨Y0, Y1, Y2, Y3⟩ := YY) | skip)) | (have gg := zg1; clear gg; go_at_call 29; refine (toParty_any p1 l1 A1 c1 _ hn1 (by first | exact (hA1.below (k2.trans (zg1.mono k2.size)) (Nat.le_refl _)).more (k2.trans (zg1.mono k2.size)).size | exact (hA1.below ((k2.trans (zg1.mono k2.size)).alloc (k2.trans (zg1.mono k2.size)).size _) (Nat.le_refl _)).more ((k2.trans (zg1.mono k2.size)).alloc (k2.trans (zg1.mono k2.size)).size _).size)).mono ?_; rintro e v2 ⟨T2, d2, rfl, n2, hb2⟩; have zg2 : Below w2.heap.size w2 v2 := (by first | exact zg1.trans (hb2.mono z1s) | exact (zg1.alloc z1s _).trans (hb2.mono (by simp only [World.size_alloc]; omega))); (first | (have o1 := own_below n1 hb2 (Nat.le_refl _)) | (have o1 := own_below (n1.alloc (Obj.cells #[.int .i64 0, .slice none 0 0] 29)) hb2 (Nat.le_refl _))); (first | (have Y := (hb2.block _ (lt_of_heap Y)).trans Y) | (have Y := (hb2.block v1.heap.size (by simp)).trans (heap_alloc_new v1 (Obj.cells #[.int .i64 0, .slice none 0 0] 29))) | skip); have z2s := zg2.size; (first | (have zY2 := lt_of_heap Y) | skip)) | ((fail_if_success (have gg := zg1)); go_at_call 29; refine (toParty_any p0 l0 A0 c0 w2.drew hn0 rdA).mono ?_; rintro e v1 ⟨T1, d1, rfl, n1, hb1⟩; have zg1 : Below w2.heap.size w2 v1 := KD' _ hb1; have z1s := zg1.size) | ((fail_if_success (have gg := zg1)); go_at_call 29; refine (toParty_any p0 l0 A0 c0 (w2.drew.alloc (Obj.cells #[.int .i64 0, .slice none 0 0] 29)) hn0 rdB).mono ?_; rintro e v1 ⟨T1, d1, rfl, n1, hb1⟩; have zg1 : Below w2.heap.size w2 v1 := KE' _ hb1; have Y := (hb1.block w2.heap.size (by simp)).trans N0; have z1s := zg1.size)))
    all_goals (go_wp2_with fail; go_meet; exact ⟨_, T3, d3, rfl, rfl, by first | exact cut_last zg3 (by omega) n3 | exact cut_early zg3 (by omega) (by omega) n3 Y | exact cut_early zg3 (by omega) (by simp only [World.size_alloc]; omega) n3 Y⟩)
  case rest =>
    obtain ⟨b3, T3, d3, rfl, rfl, hcut⟩ := hcut
    obtain ⟨w3, hw3⟩ : ∃ w', w' = wc := ⟨_, rfl⟩
    subst hw3
    obtain ⟨g3, e3_0, e3_1, n3, ⟨lo3, hi3, r3, la3, lb3, lc3⟩, lg3, lt3⟩ := hcut
    have s3 := g3.size
    have f3_0 := carry g3 f2_0 (by omega)
    have f3_1 := carry g3 f2_1 (by omega)
    have f3_2 := carry g3 f2_2 (by omega)
    have f3_3 := carry g3 f2_3 (by omega)
    have k3 := k2.trans (g3.mono k2.size)
    clear f2_0 f2_1 f2_2 f2_3
    go_wp2_with fail
    refine (toParty_any p0 l0 A0 c0 _ hn0 ((hA0.below k3 (Nat.le_refl _)).more k3.size)).mono ?_
    rintro e w4 ⟨T4, d4, rfl, n4, hb4⟩
    have g4 : Below w3.heap.size w3 w4 := hb4
    have s4 := hb4.size
    have f4_0 := carry g4 f3_0 (by omega)
    have f4_1 := carry g4 f3_1 (by omega)
    have f4_2 := carry g4 f3_2 (by omega)
    have f4_3 := carry g4 f3_3 (by omega)
    have f4_4 := carry g4 e3_0 (by omega)
    have f4_5 := carry g4 e3_1 (by omega)
    have o4_0 := own_below n3 g4 (Nat.le_refl _)
    have k4 := k3.trans (g4.mono k3.size)
    clear f3_0 f3_1 f3_2 f3_3 e3_0 e3_1 n3
    have r4 : Lies (.slice T4 l0.length d4) (w3.heap.size) w4.heap.size := own_lies n4
    have q5_0 : (w4.alloc (Obj.cells #[.int .i64 p0, .slice T4 l0.length d4] 29)).cell? ⟨W.heap.size, 0, none⟩ = some (.int .i64 p0) := (World.cell?_alloc_lt _ _ _ (show W.heap.size < w4.heap.size by omega)).trans f4_0
    have q5_1 : (w4.alloc (Obj.cells #[.int .i64 p0, .slice T4 l0.length d4] 29)).cell? ⟨W.heap.size, 1, none⟩ = some (.slice A0 l0.length c0) := (World.cell?_alloc_lt _ _ _ (show W.heap.size < w4.heap.size by omega)).trans f4_1
    have q5_2 : (w4.alloc (Obj.cells #[.int .i64 p0, .slice T4 l0.length d4] 29)).cell? ⟨W.heap.size + 1, 0, none⟩ = some (.int .i64 p1) := (World.cell?_alloc_lt _ _ _ (show W.heap.size + 1 < w4.heap.size by omega)).trans f4_2
    have q5_3 : (w4.alloc (Obj.cells #[.int .i64 p0, .slice T4 l0.length d4] 29)).cell? ⟨W.heap.size + 1, 1, none⟩ = some (.slice A1 l1.length c1) := (World.cell?_alloc_lt _ _ _ (show W.heap.size + 1 < w4.heap.size by omega)).trans f4_3
    have q5_4 : (w4.alloc (Obj.cells #[.int .i64 p0, .slice T4 l0.length d4] 29)).cell? ⟨b3, 0, none⟩ = some (.int .i64 rq) := (World.cell?_alloc_lt _ _ _ (show b3 < w4.heap.size by omega)).trans f4_4
    have q5_5 : (w4.alloc (Obj.cells #[.int .i64 p0, .slice T4 l0.length d4] 29)).cell? ⟨b3, 1, none⟩ = some (.slice T3 rm.length d3) := (World.cell?_alloc_lt _ _ _ (show b3 < w4.heap.size by omega)).trans f4_5
    go_wp2_with fail
    refine (toParty_any p1 l1 A1 c1 _ hn1 ((hA1.below (B' := W.heap.size) (Below.trans k4 (by go_grown)) (Nat.le_refl _)).more (by go_size))).mono ?_
    rintro e w6 ⟨T6, d6, rfl, n6, hb6⟩
    simp only [World.size_alloc] at n6
    simp only [World.size_alloc] at hb6
    have g6 : Below w4.heap.size w4 w6 := Below.trans (b := _) (by go_grown) (hb6.mono (by omega))
    have s6 := hb6.size
    simp only [World.size_alloc] at s6
    have f6_0 := carry g6 f4_0 (by omega)
    have f6_1 := carry g6 f4_1 (by omega)
    have f6_2 := carry g6 f4_2 (by omega)
    have f6_3 := carry g6 f4_3 (by omega)
    have f6_4 := carry g6 f4_4 (by omega)
    have f6_5 := carry g6 f4_5 (by omega)
    have f6_6 : w6.cell? ⟨w4.heap.size, 0, none⟩ = some (.int .i64 p0) := carry hb6 (by simp) (by omega)
    have f6_7 : w6.cell? ⟨w4.heap.size, 1, none⟩ = some (.slice T4 l0.length d4) := carry hb6 (by simp) (by omega)
    have o6_0 := own_below o4_0 g6 (Nat.le_refl _)
    have o6_1 := own_below n4 g6 (Nat.le_refl _)
    have k6 := k4.trans (g6.mono k4.size)
    clear f4_0 f4_1 f4_2 f4_3 f4_4 f4_5 o4_0 n4 q5_0 q5_1 q5_2 q5_3 q5_4 q5_5
    have r6 : Lies (.slice T6 l1.length d6) (w4.heap.size + 1) w6.heap.size := own_lies n6
    have q7_0 : (w6.alloc (Obj.cells #[.int .i64 p1, .slice T6 l1.length d6] 29)).cell? ⟨W.heap.size, 0, none⟩ = some (.int .i64 p0) := (World.cell?_alloc_lt _ _ _ (show W.heap.size < w6.heap.size by omega)).trans f6_0
    have q7_1 : (w6.alloc (Obj.cells #[.int .i64 p1, .slice T6 l1.length d6] 29)).cell? ⟨W.heap.size, 1, none⟩ = some (.slice A0 l0.length c0) := (World.cell?_alloc_lt _ _ _ (show W.heap.size < w6.heap.size by omega)).trans f6_1
    have q7_2 : (w6.alloc (Obj.cells #[.int .i64 p1, .slice T6 l1.length d6] 29)).cell? ⟨W.heap.size + 1, 0, none⟩ = some (.int .i64 p1) := (World.cell?_alloc_lt _ _ _ (show W.heap.size + 1 < w6.heap.size by omega)).trans f6_2
    have q7_3 : (w6.alloc (Obj.cells #[.int .i64 p1, .slice T6 l1.length d6] 29)).cell? ⟨W.heap.size + 1, 1, none⟩ = some (.slice A1 l1.length c1) := (World.cell?_alloc_lt _ _ _ (show W.heap.size + 1 < w6.heap.size by omega)).trans f6_3
    have q7_4 : (w6.alloc (Obj.cells #[.int .i64 p1, .slice T6 l1.length d6] 29)).cell? ⟨b3, 0, none⟩ = some (.int .i64 rq) := (World.cell?_alloc_lt _ _ _ (show b3 < w6.heap.size by omega)).trans f6_4
    have q7_5 : (w6.alloc (Obj.cells #[.int .i64 p1, .slice T6 l1.length d6] 29)).cell? ⟨b3, 1, none⟩ = some (.slice T3 rm.length d3) := (World.cell?_alloc_lt _ _ _ (show b3 < w6.heap.size by omega)).trans f6_5
    have q7_6 : (w6.alloc (Obj.cells #[.int .i64 p1, .slice T6 l1.length d6] 29)).cell? ⟨w4.heap.size, 0, none⟩ = some (.int .i64 p0) := (World.cell?_alloc_lt _ _ _ (show w4.heap.size < w6.heap.size by omega)).trans f6_6
    have q7_7 : (w6.alloc (Obj.cells #[.int .i64 p1, .slice T6 l1.length d6] 29)).cell? ⟨w4.heap.size, 1, none⟩ = some (.slice T4 l0.length d4) := (World.cell?_alloc_lt _ _ _ (show w4.heap.size < w6.heap.size by omega)).trans f6_7
    go_wp2_with fail
    refine (implTogetherParty_any p0 l0 _ _ p1 l1 _ _ _ hn0 (((CRead.of_own o6_1).below (B' := w6.heap.size) (by go_grown) (Nat.le_refl _)).more (by go_size)) hn1 (((CRead.of_own n6).below (B' := w6.heap.size) (by go_grown) (Nat.le_refl _)).more (by go_size))).mono ?_
    rw [Hres.out]
    rintro e w8 ⟨T8, d8, rfl, n8, hb8⟩
    simp only [World.size_alloc] at n8
    simp only [World.size_alloc] at hb8
    have g8 : Below w6.heap.size w6 w8 := Below.trans (b := _) (by go_grown) (hb8.mono (by omega))
    have s8 := hb8.size
    simp only [World.size_alloc] at s8
    have f8_0 := carry g8 f6_0 (by omega)
    have f8_1 := carry g8 f6_1 (by omega)
    have f8_2 := carry g8 f6_2 (by omega)
    have f8_3 := carry g8 f6_3 (by omega)
    have f8_4 := carry g8 f6_4 (by omega)
    have f8_5 := carry g8 f6_5 (by omega)
    have f8_6 := carry g8 f6_6 (by omega)
    have f8_7 := carry g8 f6_7 (by omega)
    have f8_8 : w8.cell? ⟨w6.heap.size, 0, none⟩ = some (.int .i64 p1) := carry hb8 (by simp) (by omega)
    have f8_9 : w8.cell? ⟨w6.heap.size, 1, none⟩ = some (.slice T6 l1.length d6) := carry hb8 (by simp) (by omega)
    have o8_0 := own_below o6_0 g8 (Nat.le_refl _)
    have o8_1 := own_below o6_1 g8 (Nat.le_refl _)
    have o8_2 := own_below n6 g8 (Nat.le_refl _)
    have k8 := k6.trans (g8.mono k6.size)
    clear f6_0 f6_1 f6_2 f6_3 f6_4 f6_5 f6_6 f6_7 o6_0 o6_1 n6 q7_0 q7_1 q7_2 q7_3 q7_4 q7_5 q7_6 q7_7
    have r8 : Lies (.slice T8 rm.length d8) (w6.heap.size + 1) w8.heap.size := own_lies n8
    have q9_0 : (w8.alloc (Obj.cells #[.int .i64 rq, .slice T8 rm.length d8] 29)).cell? ⟨W.heap.size, 0, none⟩ = some (.int .i64 p0) := (World.cell?_alloc_lt _ _ _ (show W.heap.size < w8.heap.size by omega)).trans f8_0
    have q9_1 : (w8.alloc (Obj.cells #[.int .i64 rq, .slice T8 rm.length d8] 29)).cell? ⟨W.heap.size, 1, none⟩ = some (.slice A0 l0.length c0) := (World.cell?_alloc_lt _ _ _ (show W.heap.size < w8.heap.size by omega)).trans f8_1
    have q9_2 : (w8.alloc (Obj.cells #[.int .i64 rq, .slice T8 rm.length d8] 29)).cell? ⟨W.heap.size + 1, 0, none⟩ = some (.int .i64 p1) := (World.cell?_alloc_lt _ _ _ (show W.heap.size + 1 < w8.heap.size by omega)).trans f8_2
    have q9_3 : (w8.alloc (Obj.cells #[.int .i64 rq, .slice T8 rm.length d8] 29)).cell? ⟨W.heap.size + 1, 1, none⟩ = some (.slice A1 l1.length c1) := (World.cell?_alloc_lt _ _ _ (show W.heap.size + 1 < w8.heap.size by omega)).trans f8_3
    have q9_4 : (w8.alloc (Obj.cells #[.int .i64 rq, .slice T8 rm.length d8] 29)).cell? ⟨b3, 0, none⟩ = some (.int .i64 rq) := (World.cell?_alloc_lt _ _ _ (show b3 < w8.heap.size by omega)).trans f8_4
    have q9_5 : (w8.alloc (Obj.cells #[.int .i64 rq, .slice T8 rm.length d8] 29)).cell? ⟨b3, 1, none⟩ = some (.slice T3 rm.length d3) := (World.cell?_alloc_lt _ _ _ (show b3 < w8.heap.size by omega)).trans f8_5
    have q9_6 : (w8.alloc (Obj.cells #[.int .i64 rq, .slice T8 rm.length d8] 29)).cell? ⟨w4.heap.size, 0, none⟩ = some (.int .i64 p0) := (World.cell?_alloc_lt _ _ _ (show w4.heap.size < w8.heap.size by omega)).trans f8_6
    have q9_7 : (w8.alloc (Obj.cells #[.int .i64 rq, .slice T8 rm.length d8] 29)).cell? ⟨w4.heap.size, 1, none⟩ = some (.slice T4 l0.length d4) := (World.cell?_alloc_lt _ _ _ (show w4.heap.size < w8.heap.size by omega)).trans f8_7
    have q9_8 : (w8.alloc (Obj.cells #[.int .i64 rq, .slice T8 rm.length d8] 29)).cell? ⟨w6.heap.size, 0, none⟩ = some (.int .i64 p1) := (World.cell?_alloc_lt _ _ _ (show w6.heap.size < w8.heap.size by omega)).trans f8_8
    have q9_9 : (w8.alloc (Obj.cells #[.int .i64 rq, .slice T8 rm.length d8] 29)).cell? ⟨w6.heap.size, 1, none⟩ = some (.slice T6 l1.length d6) := (World.cell?_alloc_lt _ _ _ (show w6.heap.size < w8.heap.size by omega)).trans f8_9
    go_wp2_with fail
    refine (eqParty_any rq rq rm rm _ _ _ _ _ hrl hrl ((((CRead.of_own n8).below (B' := w8.heap.size) (by go_grown) (Nat.le_refl _)).more (by go_size))) ((((CRead.of_own o8_0).below (B' := w8.heap.size) (by go_grown) (Nat.le_refl _)).more (by go_size)))).mono ?_
    rw [decide_eq_true ⟨rfl, rfl⟩]
    rintro e w10 ⟨rfl, hb10⟩
    simp only [World.size_alloc] at hb10
    have g10 : Below w8.heap.size w8 w10 := Below.trans (b := _) (by go_grown) (hb10.mono (by omega))
    have s10 := hb10.size
    simp only [World.size_alloc] at s10
    have f10_0 := carry g10 f8_0 (by omega)
    have f10_1 := carry g10 f8_1 (by omega)
    have f10_2 := carry g10 f8_2 (by omega)
    have f10_3 := carry g10 f8_3 (by omega)
    have f10_4 := carry g10 f8_4 (by omega)
    have f10_5 := carry g10 f8_5 (by omega)
    have f10_6 := carry g10 f8_6 (by omega)
    have f10_7 := carry g10 f8_7 (by omega)
    have f10_8 := carry g10 f8_8 (by omega)
    have f10_9 := carry g10 f8_9 (by omega)
    have f10_10 : w10.cell? ⟨w8.heap.size, 0, none⟩ = some (.int .i64 rq) := carry hb10 (by simp) (by omega)
    have f10_11 : w10.cell? ⟨w8.heap.size, 1, none⟩ = some (.slice T8 rm.length d8) := carry hb10 (by simp) (by omega)
    have o10_0 := own_below o8_0 g10 (Nat.le_refl _)
    have o10_1 := own_below o8_1 g10 (Nat.le_refl _)
    have o10_2 := own_below o8_2 g10 (Nat.le_refl _)
    have o10_3 := own_below n8 g10 (Nat.le_refl _)
    have k10 := k8.trans (g10.mono k8.size)
    clear f8_0 f8_1 f8_2 f8_3 f8_4 f8_5 f8_6 f8_7 f8_8 f8_9 o8_0 o8_1 o8_2 n8 q9_0 q9_1 q9_2 q9_3 q9_4 q9_5 q9_6 q9_7 q9_8 q9_9
    go_wp2
    go_region_held3 (fun w' => w'.cell? ⟨W.heap.size, 0, none⟩ = some (.int .i64 p0) ∧ w'.cell? ⟨W.heap.size, 1, none⟩ = some (.slice A0 l0.length c0) ∧ w'.cell? ⟨w4.heap.size, 0, none⟩ = some (.int .i64 p0) ∧ w'.cell? ⟨w4.heap.size, 1, none⟩ = some (.slice T4 l0.length d4) ∧ w'.cell? ⟨W.heap.size + 1, 0, none⟩ = some (.int .i64 p1) ∧ w'.cell? ⟨W.heap.size + 1, 1, none⟩ = some (.slice A1 l1.length c1) ∧ w'.cell? ⟨b3, 0, none⟩ = some (.int .i64 rq) ∧ w'.cell? ⟨b3, 1, none⟩ = some (.slice T3 rm.length d3) ∧ w'.cell? ⟨w6.heap.size, 0, none⟩ = some (.int .i64 p1) ∧ w'.cell? ⟨w6.heap.size, 1, none⟩ = some (.slice T6 l1.length d6) ∧ w'.cell? ⟨w8.heap.size, 0, none⟩ = some (.int .i64 rq) ∧ w'.cell? ⟨w8.heap.size, 1, none⟩ = some (.slice T8 rm.length d8)) (first | exact ⟨f10_0, f10_1, f10_6, f10_7, f10_2, f10_3, f10_4, f10_5, f10_8, f10_9, f10_10, f10_11⟩ | exact ⟨f11_0, f11_1, f11_2, f11_3, f11_4, f11_5, f11_6, f11_7, f11_8, f11_9, f11_10, f11_11⟩ | exact ⟨f12_0, f12_1, f12_2, f12_3, f12_4, f12_5, f12_6, f12_7, f12_8, f12_9, f12_10, f12_11⟩) ((first | (go_at_call 29; refine (toParty_any p0 l0 A0 c0 _ hn0 ((hA0.below k10.drew (Nat.le_refl _)).more k10.size)).mono ?_; rintro e w11 ⟨T11, d11, rfl, n11, hb11⟩; have g11 : Below w10.heap.size w10 w11 := (Below.refl _ _).drew.trans hb11; have s11 := g11.size; have f11_0 := carry g11 f10_0 (by omega); have f11_1 := carry g11 f10_1 (by omega); have f11_2 := carry g11 f10_6 (by omega); have f11_3 := carry g11 f10_7 (by omega); have f11_4 := carry g11 f10_2 (by omega); have f11_5 := carry g11 f10_3 (by omega); have f11_6 := carry g11 f10_4 (by omega); have f11_7 := carry g11 f10_5 (by omega); have f11_8 := carry g11 f10_8 (by omega); have f11_9 := carry g11 f10_9 (by omega); have f11_10 := carry g11 f10_10 (by omega); have f11_11 := carry g11 f10_11 (by omega); have o11_0 := own_below o10_0 g11 (Nat.le_refl _); have o11_1 := own_below o10_1 g11 (Nat.le_refl _); have o11_2 := own_below o10_2 g11 (Nat.le_refl _); have o11_3 := own_below o10_3 g11 (Nat.le_refl _); have k11 := k10.trans (g11.mono k10.size)) | (go_at_call 32; refine (eqParty_any p0 p0 l0 l0 _ _ _ _ _ hl0 hl0 (CRead.of_own o11_1) (CRead.of_own n11)).mono ?_; rw [decide_eq_true ⟨rfl, rfl⟩]; rintro e w12 ⟨rfl, hb12⟩; have g12 : Below w11.heap.size w11 w12 := hb12; have s12 := g12.size; have f12_0 := carry g12 f11_0 (by omega); have f12_1 := carry g12 f11_1 (by omega); have f12_2 := carry g12 f11_2 (by omega); have f12_3 := carry g12 f11_3 (by omega); have f12_4 := carry g12 f11_4 (by omega); have f12_5 := carry g12 f11_5 (by omega); have f12_6 := carry g12 f11_6 (by omega); have f12_7 := carry g12 f11_7 (by omega); have f12_8 := carry g12 f11_8 (by omega); have f12_9 := carry g12 f11_9 (by omega); have f12_10 := carry g12 f11_10 (by omega); have f12_11 := carry g12 f11_11 (by omega); have o12_0 := own_below o11_0 g12 (Nat.le_refl _); have o12_1 := own_below o11_1 g12 (Nat.le_refl _); have o12_2 := own_below o11_2 g12 (Nat.le_refl _); have o12_3 := own_below o11_3 g12 (Nat.le_refl _); have k12 := k11.trans (g12.mono k11.size))))
    clear f10_0 f10_1 f10_2 f10_3 f10_4 f10_5 f10_6 f10_7 f10_8 f10_9 f10_10 f10_11 o10_0 o10_1 o10_2 o10_3 f11_0 f11_1 f11_2 f11_3 f11_4 f11_5 f11_6 f11_7 f11_8 f11_9 f11_10 f11_11 o11_0 o11_1 o11_2 o11_3 n11
    go_wp2
    go_region_held3 (fun w' => w'.cell? ⟨W.heap.size + 1, 0, none⟩ = some (.int .i64 p1) ∧ w'.cell? ⟨W.heap.size + 1, 1, none⟩ = some (.slice A1 l1.length c1) ∧ w'.cell? ⟨w6.heap.size, 0, none⟩ = some (.int .i64 p1) ∧ w'.cell? ⟨w6.heap.size, 1, none⟩ = some (.slice T6 l1.length d6) ∧ w'.cell? ⟨W.heap.size, 0, none⟩ = some (.int .i64 p0) ∧ w'.cell? ⟨W.heap.size, 1, none⟩ = some (.slice A0 l0.length c0) ∧ w'.cell? ⟨w4.heap.size, 0, none⟩ = some (.int .i64 p0) ∧ w'.cell? ⟨w4.heap.size, 1, none⟩ = some (.slice T4 l0.length d4) ∧ w'.cell? ⟨b3, 0, none⟩ = some (.int .i64 rq) ∧ w'.cell? ⟨b3, 1, none⟩ = some (.slice T3 rm.length d3) ∧ w'.cell? ⟨w8.heap.size, 0, none⟩ = some (.int .i64 rq) ∧ w'.cell? ⟨w8.heap.size, 1, none⟩ = some (.slice T8 rm.length d8)) (first | exact ⟨f12_4, f12_5, f12_8, f12_9, f12_0, f12_1, f12_2, f12_3, f12_6, f12_7, f12_10, f12_11⟩ | exact ⟨f13_0, f13_1, f13_2, f13_3, f13_4, f13_5, f13_6, f13_7, f13_8, f13_9, f13_10, f13_11⟩ | exact ⟨f14_0, f14_1, f14_2, f14_3, f14_4, f14_5, f14_6, f14_7, f14_8, f14_9, f14_10, f14_11⟩) ((first | (go_at_call 29; refine (toParty_any p1 l1 A1 c1 _ hn1 ((hA1.below k12.drew (Nat.le_refl _)).more k12.size)).mono ?_; rintro e w13 ⟨T13, d13, rfl, n13, hb13⟩; have g13 : Below w12.heap.size w12 w13 := (Below.refl _ _).drew.trans hb13; have s13 := g13.size; have f13_0 := carry g13 f12_4 (by omega); have f13_1 := carry g13 f12_5 (by omega); have f13_2 := carry g13 f12_8 (by omega); have f13_3 := carry g13 f12_9 (by omega); have f13_4 := carry g13 f12_0 (by omega); have f13_5 := carry g13 f12_1 (by omega); have f13_6 := carry g13 f12_2 (by omega); have f13_7 := carry g13 f12_3 (by omega); have f13_8 := carry g13 f12_6 (by omega); have f13_9 := carry g13 f12_7 (by omega); have f13_10 := carry g13 f12_10 (by omega); have f13_11 := carry g13 f12_11 (by omega); have o13_0 := own_below o12_0 g13 (Nat.le_refl _); have o13_1 := own_below o12_1 g13 (Nat.le_refl _); have o13_2 := own_below o12_2 g13 (Nat.le_refl _); have o13_3 := own_below o12_3 g13 (Nat.le_refl _); have k13 := k12.trans (g13.mono k12.size)) | (go_at_call 32; refine (eqParty_any p1 p1 l1 l1 _ _ _ _ _ hl1 hl1 (CRead.of_own o13_2) (CRead.of_own n13)).mono ?_; rw [decide_eq_true ⟨rfl, rfl⟩]; rintro e w14 ⟨rfl, hb14⟩; have g14 : Below w13.heap.size w13 w14 := hb14; have s14 := g14.size; have f14_0 := carry g14 f13_0 (by omega); have f14_1 := carry g14 f13_1 (by omega); have f14_2 := carry g14 f13_2 (by omega); have f14_3 := carry g14 f13_3 (by omega); have f14_4 := carry g14 f13_4 (by omega); have f14_5 := carry g14 f13_5 (by omega); have f14_6 := carry g14 f13_6 (by omega); have f14_7 := carry g14 f13_7 (by omega); have f14_8 := carry g14 f13_8 (by omega); have f14_9 := carry g14 f13_9 (by omega); have f14_10 := carry g14 f13_10 (by omega); have f14_11 := carry g14 f13_11 (by omega); have o14_0 := own_below o13_0 g14 (Nat.le_refl _); have o14_1 := own_below o13_1 g14 (Nat.le_refl _); have o14_2 := own_below o13_2 g14 (Nat.le_refl _); have o14_3 := own_below o13_3 g14 (Nat.le_refl _); have k14 := k13.trans (g14.mono k13.size))))
    clear f12_0 f12_1 f12_2 f12_3 f12_4 f12_5 f12_6 f12_7 f12_8 f12_9 f12_10 f12_11 o12_0 o12_1 o12_2 o12_3 f13_0 f13_1 f13_2 f13_3 f13_4 f13_5 f13_6 f13_7 f13_8 f13_9 f13_10 f13_11 o13_0 o13_1 o13_2 o13_3 n13
    go_wp2_with fail
    refine (markParty_any p0 l0 _ _ _ (1) _ _ rfl hn0 (by omega) o14_1).mono ?_
    rintro e w15 ⟨rfl, n15, hg15⟩
    have s15 := hg15.size
    have f15_0 := carryG hg15 r4 f14_0 (by omega)
    have f15_1 := carryG hg15 r4 f14_1 (by omega)
    have f15_2 := carryG hg15 r4 f14_2 (by omega)
    have f15_3 := carryG hg15 r4 f14_3 (by omega)
    have f15_4 := carryG hg15 r4 f14_4 (by omega)
    have f15_5 := carryG hg15 r4 f14_5 (by omega)
    have f15_6 := carryG hg15 r4 f14_6 (by omega)
    have f15_7 := carryG hg15 r4 f14_7 (by omega)
    have f15_8 := carryG hg15 r4 f14_8 (by omega)
    have f15_9 := carryG hg15 r4 f14_9 (by omega)
    have f15_10 := carryG hg15 r4 f14_10 (by omega)
    have f15_11 := carryG hg15 r4 f14_11 (by omega)
    have o15_0 := keptG hg15 r4 o14_0 r3 (by omega)
    have o15_2 := keptG hg15 r4 o14_2 r6 (by omega)
    have o15_3 := keptG hg15 r4 o14_3 r8 (by omega)
    have k15 := belowG k14 hg15 r4 k14.size (by omega)
    clear f14_0 f14_1 f14_2 f14_3 f14_4 f14_5 f14_6 f14_7 f14_8 f14_9 f14_10 f14_11 o14_0 o14_1 o14_2 o14_3
    go_wp2_with fail
    refine (markParty_any p1 l1 _ _ _ (1 + 2 * (l0.length : Int)) _ _ rfl hn1 (by omega) o15_2).mono ?_
    rintro e w16 ⟨rfl, n16, hg16⟩
    have s16 := hg16.size
    have f16_0 := carryG hg16 r6 f15_0 (by omega)
    have f16_1 := carryG hg16 r6 f15_1 (by omega)
    have f16_2 := carryG hg16 r6 f15_2 (by omega)
    have f16_3 := carryG hg16 r6 f15_3 (by omega)
    have f16_4 := carryG hg16 r6 f15_4 (by omega)
    have f16_5 := carryG hg16 r6 f15_5 (by omega)
    have f16_6 := carryG hg16 r6 f15_6 (by omega)
    have f16_7 := carryG hg16 r6 f15_7 (by omega)
    have f16_8 := carryG hg16 r6 f15_8 (by omega)
    have f16_9 := carryG hg16 r6 f15_9 (by omega)
    have f16_10 := carryG hg16 r6 f15_10 (by omega)
    have f16_11 := carryG hg16 r6 f15_11 (by omega)
    have o16_0 := keptG hg16 r6 o15_0 r3 (by omega)
    have o16_1 := keptG hg16 r6 n15 r4 (by omega)
    have o16_3 := keptG hg16 r6 o15_3 r8 (by omega)
    have k16 := belowG k15 hg16 r6 k15.size (by omega)
    clear f15_0 f15_1 f15_2 f15_3 f15_4 f15_5 f15_6 f15_7 f15_8 f15_9 f15_10 f15_11 o15_0 n15 o15_2 o15_3
    have hmk : ¬ (1 + 2 * (l0.length : Int) + 2 * (l1.length : Int) < 0) := by omega
    go_wp2_with fail
    refine (eqParty_any rq rq rm rm _ _ _ _ _ hrl hrl (CRead.of_own o16_3) (CRead.of_own o16_0)).mono ?_
    rw [decide_eq_true ⟨rfl, rfl⟩]
    rintro e w17 ⟨rfl, hb17⟩
    have g17 : Below w16.heap.size w16 w17 := hb17
    have s17 := hb17.size
    have f17_0 := carry g17 f16_0 (by omega)
    have f17_1 := carry g17 f16_1 (by omega)
    have f17_2 := carry g17 f16_2 (by omega)
    have f17_3 := carry g17 f16_3 (by omega)
    have f17_4 := carry g17 f16_4 (by omega)
    have f17_5 := carry g17 f16_5 (by omega)
    have f17_6 := carry g17 f16_6 (by omega)
    have f17_7 := carry g17 f16_7 (by omega)
    have f17_8 := carry g17 f16_8 (by omega)
    have f17_9 := carry g17 f16_9 (by omega)
    have f17_10 := carry g17 f16_10 (by omega)
    have f17_11 := carry g17 f16_11 (by omega)
    have o17_0 := own_below o16_0 g17 (Nat.le_refl _)
    have o17_1 := own_below o16_1 g17 (Nat.le_refl _)
    have o17_2 := own_below n16 g17 (Nat.le_refl _)
    have o17_3 := own_below o16_3 g17 (Nat.le_refl _)
    have k17 := k16.trans (g17.mono k16.size)
    clear f16_0 f16_1 f16_2 f16_3 f16_4 f16_5 f16_6 f16_7 f16_8 f16_9 f16_10 f16_11 o16_0 o16_1 n16 o16_3
    clear o17_1 r4
    clear o17_2 r6
    go_wp2_with fail
    refine (markParty_any rq rm _ _ _ 1 _ _ rfl hrn hone o17_3).mono ?_
    rintro e w18 ⟨rfl, n18, hg18⟩
    have s18 := hg18.size
    have f18_0 := carryG hg18 r8 f17_0 (by omega)
    have f18_1 := carryG hg18 r8 f17_1 (by omega)
    have f18_2 := carryG hg18 r8 f17_2 (by omega)
    have f18_3 := carryG hg18 r8 f17_3 (by omega)
    have f18_4 := carryG hg18 r8 f17_4 (by omega)
    have f18_5 := carryG hg18 r8 f17_5 (by omega)
    have f18_6 := carryG hg18 r8 f17_6 (by omega)
    have f18_7 := carryG hg18 r8 f17_7 (by omega)
    have f18_8 := carryG hg18 r8 f17_8 (by omega)
    have f18_9 := carryG hg18 r8 f17_9 (by omega)
    have f18_10 := carryG hg18 r8 f17_10 (by omega)
    have f18_11 := carryG hg18 r8 f17_11 (by omega)
    have o18_0 := keptG hg18 r8 o17_0 r3 (by omega)
    have k18 := belowG k17 hg18 r8 k17.size (by omega)
    clear f17_0 f17_1 f17_2 f17_3 f17_4 f17_5 f17_6 f17_7 f17_8 f17_9 f17_10 f17_11 o17_0 o17_3
    have hmr : ¬ (1 + 2 * (rm.length : Int) < 0) := by omega
    go_wp2_with fail
    refine (heldParty_any _ _ _ _ 1 _ hrn hone (CRead.of_own n18)).mono ?_
    rintro e w19 ⟨rfl, hb19⟩
    have g19 : Below w18.heap.size w18 w19 := hb19
    have s19 := hb19.size
    have f19_0 := carry g19 f18_0 (by omega)
    have f19_1 := carry g19 f18_1 (by omega)
    have f19_2 := carry g19 f18_2 (by omega)
    have f19_3 := carry g19 f18_3 (by omega)
    have f19_4 := carry g19 f18_4 (by omega)
    have f19_5 := carry g19 f18_5 (by omega)
    have f19_6 := carry g19 f18_6 (by omega)
    have f19_7 := carry g19 f18_7 (by omega)
    have f19_8 := carry g19 f18_8 (by omega)
    have f19_9 := carry g19 f18_9 (by omega)
    have f19_10 := carry g19 f18_10 (by omega)
    have f19_11 := carry g19 f18_11 (by omega)
    have o19_0 := own_below o18_0 g19 (Nat.le_refl _)
    have o19_1 := own_below n18 g19 (Nat.le_refl _)
    have k19 := k18.trans (g19.mono k18.size)
    clear f18_0 f18_1 f18_2 f18_3 f18_4 f18_5 f18_6 f18_7 f18_8 f18_9 f18_10 f18_11 o18_0 n18
    go_wp2_with fail
    go_cut [15, 16] (fun s6 s7 wx => ∃ (g6 : Nat) (T : Option Addr) (d : Nat), s6 = .pointer (some ⟨g6, 0, none⟩) ∧ s7 = .bool rok ∧ CutP w19 rq rm wx g6 T d)
    case first =>
      have kS : ∀ X : World, Below w19.heap.size w19 X → X.cell? ⟨W.heap.size + 1, 0, none⟩ = some (.int .i64 p1) ∧ X.cell? ⟨W.heap.size + 1, 1, none⟩ = some (.slice A1 l1.length c1) ∧ X.cell? ⟨W.heap.size, 0, none⟩ = some (.int .i64 p0) ∧ X.cell? ⟨W.heap.size, 1, none⟩ = some (.slice A0 l0.length c0) := fun X hX => ⟨carry hX f19_0 (by omega), carry hX f19_1 (by omega), carry hX f19_4 (by omega), carry hX f19_5 (by omega)⟩
      have KA : Below W.heap.size W (w19.drew.alloc (Obj.cells #[.int .i64 0, .slice none 0 0] 29)) := k19.drew.alloc k19.size _
      have KD : Below w19.heap.size w19 w19.drew := (Below.refl _ _).drew
      have KE : Below w19.heap.size w19 (w19.drew.alloc (Obj.cells #[.int .i64 0, .slice none 0 0] 29)) := KD.alloc (Nat.le_refl _) _
      have KD' : ∀ v, Below w19.drew.heap.size w19.drew v → Below w19.heap.size w19 v := fun v h => KD.trans h
      have KE' : ∀ v, Below (w19.drew.alloc (Obj.cells #[.int .i64 0, .slice none 0 0] 29)).heap.size (w19.drew.alloc (Obj.cells #[.int .i64 0, .slice none 0 0] 29)) v → Below w19.heap.size w19 v := fun v h => KE.trans (h.mono (by rw [World.size_alloc]; exact Nat.le_succ _))
      have N0 : (w19.drew.alloc (Obj.cells #[.int .i64 0, .slice none 0 0] 29)).heap[w19.heap.size]? = some (Obj.cells #[.int .i64 0, .slice none 0 0] 29 (0, 0)) := heap_alloc_new w19.drew _
      clear f19_2 f19_3 f19_6 f19_7 f19_8 f19_9 f19_10 f19_11 o19_0 o19_1
      have rdA : CRead w19.drew w19.drew.heap.size A0 (pcells l0) := (hA0.below k19.drew (Nat.le_refl _)).more k19.size
      have rdB : CRead (w19.drew.alloc (Obj.cells #[.int .i64 0, .slice none 0 0] 29)) (w19.drew.alloc (Obj.cells #[.int .i64 0, .slice none 0 0] 29)).heap.size A0 (pcells l0) := (hA0.below KA (Nat.le_refl _)).more KA.size
      go_region_held3 (fun w' => w'.cell? ⟨W.heap.size + 1, 0, none⟩ = some (.int .i64 p1) ∧ w'.cell? ⟨W.heap.size + 1, 1, none⟩ = some (.slice A1 l1.length c1) ∧ w'.cell? ⟨W.heap.size, 0, none⟩ = some (.int .i64 p0) ∧ w'.cell? ⟨W.heap.size, 1, none⟩ = some (.slice A0 l0.length c0)) (first | exact kS _ KD | exact kS _ KE | exact kS _ zg1 | exact kS _ (zg1.alloc z1s _) | exact kS _ zg2 | exact kS _ (zg2.alloc z2s _) | exact kS _ zg3 | exact kS _ (zg3.alloc z3s _) | exact kS _ ((zg3.setCell (p := ⟨_, 0, none⟩) (by first | exact Nat.le_refl _ | exact z1s | exact z2s) _).setCell (p := ⟨_, 1, none⟩) (by first | exact Nat.le_refl _ | exact z1s | exact z2s) _)) ((first | ((have gg := zg2); go_at_call 42; refine (implTogetherParty_any p0 l0 _ _ p1 l1 _ _ _ hn0 (by first | exact CRead.of_own o1 | exact CRead.of_own (o1.alloc _)) hn1 (by first | exact CRead.of_own n2 | exact CRead.of_own (n2.alloc _))).mono ?_; rw [Hres.out]; rintro e v3 ⟨T3, d3, rfl, n3, hb3⟩; have zg3 : Below w19.heap.size w19 v3 := (by first | exact zg2.trans (hb3.mono z2s) | exact (zg2.alloc z2s _).trans (hb3.mono (by simp only [World.size_alloc]; omega))); (first | (have Y := (hb3.block _ (lt_of_heap Y)).trans Y) | (have Y := (hb3.block v2.heap.size (by simp)).trans (heap_alloc_new v2 (Obj.cells #[.int .i64 0, .slice none 0 0] 29))) | skip); have z3s := zg3.size; (first | (have YY := box_cells Y; obtain ⟨Y0, Y1, Y2, Y3⟩ := YY) | skip)) | (have gg := zg1; clear gg; go_at_call 29; refine (toParty_any p1 l1 A1 c1 _ hn1 (by first | exact (hA1.below (k19.trans (zg1.mono k19.size)) (Nat.le_refl _)).more (k19.trans (zg1.mono k19.size)).size | exact (hA1.below ((k19.trans (zg1.mono k19.size)).alloc (k19.trans (zg1.mono k19.size)).size _) (Nat.le_refl _)).more ((k19.trans (zg1.mono k19.size)).alloc (k19.trans (zg1.mono k19.size)).size _).size)).mono ?_; rintro e v2 ⟨T2, d2, rfl, n2, hb2⟩; have zg2 : Below w19.heap.size w19 v2 := (by first | exact zg1.trans (hb2.mono z1s) | exact (zg1.alloc z1s _).trans (hb2.mono (by simp only [World.size_alloc]; omega))); (first | (have o1 := own_below n1 hb2 (Nat.le_refl _)) | (have o1 := own_below (n1.alloc (Obj.cells #[.int .i64 0, .slice none 0 0] 29)) hb2 (Nat.le_refl _))); (first | (have Y := (hb2.block _ (lt_of_heap Y)).trans Y) | (have Y := (hb2.block v1.heap.size (by simp)).trans (heap_alloc_new v1 (Obj.cells #[.int .i64 0, .slice none 0 0] 29))) | skip); have z2s := zg2.size; (first | (have zY2 := lt_of_heap Y) | skip)) | ((fail_if_success (have gg := zg1)); go_at_call 29; refine (toParty_any p0 l0 A0 c0 w19.drew hn0 rdA).mono ?_; rintro e v1 ⟨T1, d1, rfl, n1, hb1⟩; have zg1 : Below w19.heap.size w19 v1 := KD' _ hb1; have z1s := zg1.size) | ((fail_if_success (have gg := zg1)); go_at_call 29; refine (toParty_any p0 l0 A0 c0 (w19.drew.alloc (Obj.cells #[.int .i64 0, .slice none 0 0] 29)) hn0 rdB).mono ?_; rintro e v1 ⟨T1, d1, rfl, n1, hb1⟩; have zg1 : Below w19.heap.size w19 v1 := KE' _ hb1; have Y := (hb1.block w19.heap.size (by simp)).trans N0; have z1s := zg1.size)))
      all_goals (go_wp2_with fail; go_meet; exact ⟨_, T3, d3, rfl, rfl, by first | exact cut_last zg3 (by omega) n3 | exact cut_early zg3 (by omega) (by omega) n3 Y | exact cut_early zg3 (by omega) (by simp only [World.size_alloc]; omega) n3 Y⟩)
    case rest =>
      obtain ⟨b20, T20, d20, rfl, rfl, hcut⟩ := hcut
      obtain ⟨w20, hw20⟩ : ∃ w', w' = wc := ⟨_, rfl⟩
      subst hw20
      obtain ⟨g20, e20_0, e20_1, n20, ⟨lo20, hi20, r20, la20, lb20, lc20⟩, lg20, lt20⟩ := hcut
      have s20 := g20.size
      have f20_0 := carry g20 f19_0 (by omega)
      have f20_1 := carry g20 f19_1 (by omega)
      have f20_2 := carry g20 f19_2 (by omega)
      have f20_3 := carry g20 f19_3 (by omega)
      have f20_4 := carry g20 f19_4 (by omega)
      have f20_5 := carry g20 f19_5 (by omega)
      have f20_6 := carry g20 f19_6 (by omega)
      have f20_7 := carry g20 f19_7 (by omega)
      have f20_8 := carry g20 f19_8 (by omega)
      have f20_9 := carry g20 f19_9 (by omega)
      have f20_10 := carry g20 f19_10 (by omega)
      have f20_11 := carry g20 f19_11 (by omega)
      have o20_0 := own_below o19_0 g20 (Nat.le_refl _)
      have o20_1 := own_below o19_1 g20 (Nat.le_refl _)
      have k20 := k19.trans (g20.mono k19.size)
      clear f19_0 f19_1 f19_2 f19_3 f19_4 f19_5 f19_6 f19_7 f19_8 f19_9 f19_10 f19_11 o19_0 o19_1
      go_wp2_with fail
      refine (eqParty_any rq rq rm rm _ _ _ _ _ hrl hrl (CRead.of_own n20) (CRead.of_own o20_0)).mono ?_
      rw [decide_eq_true ⟨rfl, rfl⟩]
      rintro e w21 ⟨rfl, hb21⟩
      have g21 : Below w20.heap.size w20 w21 := hb21
      have s21 := hb21.size
      have f21_0 := carry g21 f20_0 (by omega)
      have f21_1 := carry g21 f20_1 (by omega)
      have f21_2 := carry g21 f20_2 (by omega)
      have f21_3 := carry g21 f20_3 (by omega)
      have f21_4 := carry g21 f20_4 (by omega)
      have f21_5 := carry g21 f20_5 (by omega)
      have f21_6 := carry g21 f20_6 (by omega)
      have f21_7 := carry g21 f20_7 (by omega)
      have f21_8 := carry g21 f20_8 (by omega)
      have f21_9 := carry g21 f20_9 (by omega)
      have f21_10 := carry g21 f20_10 (by omega)
      have f21_11 := carry g21 f20_11 (by omega)
      have f21_12 := carry g21 e20_0 (by omega)
      have f21_13 := carry g21 e20_1 (by omega)
      have o21_0 := own_below o20_0 g21 (Nat.le_refl _)
      have o21_1 := own_below o20_1 g21 (Nat.le_refl _)
      have o21_2 := own_below n20 g21 (Nat.le_refl _)
      have k21 := k20.trans (g21.mono k20.size)
      clear f20_0 f20_1 f20_2 f20_3 f20_4 f20_5 f20_6 f20_7 f20_8 f20_9 f20_10 f20_11 e20_0 e20_1 o20_0 o20_1 n20
      go_wp2_with fail
      refine (heldParty_any _ _ _ _ 1 _ hrn hone (CRead.of_own o21_1)).mono ?_
      rintro e w22 ⟨rfl, hb22⟩
      have g22 : Below w21.heap.size w21 w22 := hb22
      have s22 := hb22.size
      have f22_0 := carry g22 f21_0 (by omega)
      have f22_1 := carry g22 f21_1 (by omega)
      have f22_2 := carry g22 f21_2 (by omega)
      have f22_3 := carry g22 f21_3 (by omega)
      have f22_4 := carry g22 f21_4 (by omega)
      have f22_5 := carry g22 f21_5 (by omega)
      have f22_6 := carry g22 f21_6 (by omega)
      have f22_7 := carry g22 f21_7 (by omega)
      have f22_8 := carry g22 f21_8 (by omega)
      have f22_9 := carry g22 f21_9 (by omega)
      have f22_10 := carry g22 f21_10 (by omega)
      have f22_11 := carry g22 f21_11 (by omega)
      have f22_12 := carry g22 f21_12 (by omega)
      have f22_13 := carry g22 f21_13 (by omega)
      have o22_0 := own_below o21_0 g22 (Nat.le_refl _)
      have o22_1 := own_below o21_1 g22 (Nat.le_refl _)
      have o22_2 := own_below o21_2 g22 (Nat.le_refl _)
      have k22 := k21.trans (g22.mono k21.size)
      clear f21_0 f21_1 f21_2 f21_3 f21_4 f21_5 f21_6 f21_7 f21_8 f21_9 f21_10 f21_11 f21_12 f21_13 o21_0 o21_1 o21_2
      go_wp2
      go_ret
      exact ⟨rfl, k22⟩
end Go.Proofs.Ytkonibmmdinmbaa
