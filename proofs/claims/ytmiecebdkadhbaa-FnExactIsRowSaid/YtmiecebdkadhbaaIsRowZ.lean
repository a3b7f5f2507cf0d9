/-
  For every input that can be read, 'laws.FnExactIsRow' returns true, and its arguments read afterwards as they read before. Conditions: none.
-/
import Derived.Test.YtmiecebdkadhbaaSeatsP1
import Derived.Test.YtmiecebdkadhbaaSeatsP6
import Derived.Deep.RegionHeld3
namespace Go.Proofs.Ytmiecebdkadhbaa
open Go.RowKit

set_option maxHeartbeats 4000000 in
set_option maxRecDepth 100000 in
theorem lawIsRow_any (p0 : Int) (l0 : PL) (A0 : Option Addr) (c0 : Nat) (q1 : List Int) (A1 : Option Addr) (c1 : Nat) (W : World) (hl0 : l0.length ≤ maxLen) (hA0 : CRead W W.heap.size A0 (pcells l0)) (hl1 : q1.length ≤ maxLen) (hA1 : CRead W W.heap.size A1 (icells q1)) :
    Calls Try.prog 4 #[.agg #[.int .i64 p0, .slice A0 l0.length c0], .slice A1 q1.length c1] W fun e w' => e = .returned (.bool true) ∧ Below W.heap.size W w' := by
  have hone : (0 : Int) ≤ 1 ∧ (1 : Int) ≤ 16777216 := by omega
  by_cases hq1 : (1048576 : Int) < (q1.length : Int)
  · unfold maxLen at *
    go_enter Try.func4, Try.ntmps4
    go_wp2
    go_ret
    exact ⟨rfl, by go_grown⟩
  have hn1 : q1.length ≤ 1048576 := by omega
  by_cases hz0 : szI (1048576) l0.length < 0
  · go_enter Try.func4, Try.ntmps4
    go_wp2_with fail
    refine (szParty_any _ _ _ _ _ hl0 (by omega) (by omega) _).mono ?_
    rintro e w1 ⟨rfl, hb1⟩
    simp only [World.size_alloc] at hb1
    have g1 : Below W.heap.size W w1 := Below.trans (b := _) (by go_grown) (hb1.mono (by omega))
    have s1 := hb1.size
    simp only [World.size_alloc] at s1
    have f1_0 : w1.cell? ⟨W.heap.size, 0, none⟩ = some (.int .i64 p0) := carry hb1 (by simp) (by omega)
    have f1_1 : w1.cell? ⟨W.heap.size, 1, none⟩ = some (.slice A0 l0.length c0) := carry hb1 (by simp) (by omega)
    have k1 : Below W.heap.size W w1 := g1
    go_wp2
    go_ret
    exact ⟨rfl, k1⟩
  have hn0 : l0.length ≤ 1048576 := by have h1 := szI_len _ _ hz0; have h2 := szI_hi (1048576) l0.length (by omega); omega
  have hz0' : 0 ≤ szI (1048576) l0.length := by omega
  have hz0'' : szI (1048576) l0.length ≤ 1048576 := by have h2 := szI_hi (1048576) l0.length (by omega); omega
  obtain ⟨⟨rb, rok⟩, hres⟩ : ∃ r, resIsRow p0 l0 q1 = r := ⟨_, rfl⟩
  have Hres := Lib.hid hres
  clear hres
  go_enter Try.func4, Try.ntmps4
  go_wp2_with fail
  refine (szParty_any _ _ _ _ _ hl0 (by omega) (by omega) _).mono ?_
  rintro e w1 ⟨rfl, hb1⟩
  simp only [World.size_alloc] at hb1
  have g1 : Below W.heap.size W w1 := Below.trans (b := _) (by go_grown) (hb1.mono (by omega))
  have s1 := hb1.size
  simp only [World.size_alloc] at s1
  have f1_0 : w1.cell? ⟨W.heap.size, 0, none⟩ = some (.int .i64 p0) := carry hb1 (by simp) (by omega)
  have f1_1 : w1.cell? ⟨W.heap.size, 1, none⟩ = some (.slice A0 l0.length c0) := carry hb1 (by simp) (by omega)
  have k1 : Below W.heap.size W w1 := g1
  go_wp2_with fail
  refine (toParty_any p0 l0 A0 c0 _ hn0 ((hA0.below k1 (Nat.le_refl _)).more k1.size)).mono ?_
  rintro e w2 ⟨T2, d2, rfl, n2, hb2⟩
  have g2 : Below w1.heap.size w1 w2 := hb2
  have s2 := hb2.size
  have f2_0 := carry g2 f1_0 (by omega)
  have f2_1 := carry g2 f1_1 (by omega)
  have k2 := k1.trans (g2.mono k1.size)
  clear f1_0 f1_1
  have r2 : Lies (.slice T2 l0.length d2) (w1.heap.size) w2.heap.size := own_lies n2
  go_wp2_with fail
  refine (toIntS_got q1 A1 c1 _ hn1 ((hA1.below k2 (Nat.le_refl _)).more k2.size)).mono ?_
  rintro e w3 ⟨T3, d3, rfl, n3, hb3⟩
  have g3 : Below w2.heap.size w2 w3 := hb3
  have s3 := hb3.size
  have f3_0 := carry g3 f2_0 (by omega)
  have f3_1 := carry g3 f2_1 (by omega)
  have o3_0 := own_below n2 g3 (Nat.le_refl _)
  have k3 := k2.trans (g3.mono k2.size)
  clear f2_0 f2_1 n2
  have r3 : Lies (.slice T3 q1.length d3) (w2.heap.size) w3.heap.size := own_lies n3
  go_wp2_with fail
  refine (specIsRow_any p0 l0 _ _ q1 _ _ _ hn0 (CRead.of_own o3_0) hn1 (CRead.of_own n3) (own_cap n3)).mono ?_
  rw [Hres.out]
  rintro e w4 ⟨rfl, hb4⟩
  have g4 : Below w3.heap.size w3 w4 := hb4
  have s4 := hb4.size
  have f4_0 := carry g4 f3_0 (by omega)
  have f4_1 := carry g4 f3_1 (by omega)
  have o4_0 := own_below o3_0 g4 (Nat.le_refl _)
  have o4_1 := own_below n3 g4 (Nat.le_refl _)
  have k4 := k3.trans (g4.mono k3.size)
  clear f3_0 f3_1 o3_0 n3
  clear o4_0 r2
  clear o4_1 r3
  go_wp2_with fail
  refine (toParty_any p0 l0 A0 c0 _ hn0 ((hA0.below k4 (Nat.le_refl _)).more k4.size)).mono ?_
  rintro e w5 ⟨T5, d5, rfl, n5, hb5⟩
  have g5 : Below w4.heap.size w4 w5 := hb5
  have s5 := hb5.size
  have f5_0 := carry g5 f4_0 (by omega)
  have f5_1 := carry g5 f4_1 (by omega)
  have k5 := k4.trans (g5.mono k4.size)
  clear f4_0 f4_1
  have r5 : Lies (.slice T5 l0.length d5) (w4.heap.size) w5.heap.size := own_lies n5
  have q6_0 : (w5.alloc (Obj.cells #[.int .i64 p0, .slice T5 l0.length d5] 31)).cell? ⟨W.heap.size, 0, none⟩ = some (.int .i64 p0) := (World.cell?_alloc_lt _ _ _ (show W.heap.size < w5.heap.size by omega)).trans f5_0
  have q6_1 : (w5.alloc (Obj.cells #[.int .i64 p0, .slice T5 l0.length d5] 31)).cell? ⟨W.heap.size, 1, none⟩ = some (.slice A0 l0.length c0) := (World.cell?_alloc_lt _ _ _ (show W.heap.size < w5.heap.size by omega)).trans f5_1
  go_wp2_with fail
  refine (toIntS_got q1 A1 c1 _ hn1 ((hA1.below (B' := W.heap.size) (Below.trans k5 (by go_grown)) (Nat.le_refl _)).more (by go_size))).mono ?_
  rintro e w7 ⟨T7, d7, rfl, n7, hb7⟩
  simp only [World.size_alloc] at n7
  simp only [World.size_alloc] at hb7
  have g7 : Below w5.heap.size w5 w7 := Below.trans (b := _) (by go_grown) (hb7.mono (by omega))
  have s7 := hb7.size
  simp only [World.size_alloc] at s7
  have f7_0 := carry g7 f5_0 (by omega)
  have f7_1 := carry g7 f5_1 (by omega)
  have f7_2 : w7.cell? ⟨w5.heap.size, 0, none⟩ = some (.int .i64 p0) := carry hb7 (by simp) (by omega)
  have f7_3 : w7.cell? ⟨w5.heap.size, 1, none⟩ = some (.slice T5 l0.length d5) := carry hb7 (by simp) (by omega)
  have o7_0 := own_below n5 g7 (Nat.le_refl _)
  have k7 := k5.trans (g7.mono k5.size)
  clear f5_0 f5_1 n5 q6_0 q6_1
  have r7 : Lies (.slice T7 q1.length d7) (w5.heap.size + 1) w7.heap.size := own_lies n7
  go_wp2_with fail
  refine (implIsRow_any p0 l0 _ _ q1 _ _ _ hn0 (CRead.of_own o7_0) hn1 (CRead.of_own n7)).mono ?_
  rw [Hres.out]
  rintro e w8 ⟨rfl, hb8⟩
  have g8 : Below w7.heap.size w7 w8 := hb8
  have s8 := hb8.size
  have f8_0 := carry g8 f7_0 (by omega)
  have f8_1 := carry g8 f7_1 (by omega)
  have f8_2 := carry g8 f7_2 (by omega)
  have f8_3 := carry g8 f7_3 (by omega)
  have o8_0 := own_below o7_0 g8 (Nat.le_refl _)
  have o8_1 := own_below n7 g8 (Nat.le_refl _)
  have k8 := k7.trans (g8.mono k7.size)
  clear f7_0 f7_1 f7_2 f7_3 o7_0 n7
  go_wp2
  go_region_held3 (fun w' => w'.cell? ⟨W.heap.size, 0, none⟩ = some (.int .i64 p0) ∧ w'.cell? ⟨W.heap.size, 1, none⟩ = some (.slice A0 l0.length c0) ∧ w'.cell? ⟨w5.heap.size, 0, none⟩ = some (.int .i64 p0) ∧ w'.cell? ⟨w5.heap.size, 1, none⟩ = some (.slice T5 l0.length d5)) (first | exact ⟨f8_0, f8_1, f8_2, f8_3⟩ | exact ⟨f9_0, f9_1, f9_2, f9_3⟩ | exact ⟨f10_0, f10_1, f10_2, f10_3⟩) ((first | (go_at_call 17; refine (toParty_any p0 l0 A0 c0 _ hn0 ((hA0.below k8.drew (Nat.le_refl _)).more k8.size)).mono ?_; rintro e w9 ⟨T9, d9, rfl, n9, hb9⟩; have g9 : Below w8.heap.size w8 w9 := (Below.refl _ _).drew.trans hb9; have s9 := g9.size; have f9_0 := carry g9 f8_0 (by omega); have f9_1 := carry g9 f8_1 (by omega); have f9_2 := carry g9 f8_2 (by omega); have f9_3 := carry g9 f8_3 (by omega); have o9_0 := own_below o8_0 g9 (Nat.le_refl _); have o9_1 := own_below o8_1 g9 (Nat.le_refl _); have k9 := k8.trans (g9.mono k8.size)) | (go_at_call 20; refine (eqParty_any p0 p0 l0 l0 _ _ _ _ _ hl0 hl0 (CRead.of_own o9_0) (CRead.of_own n9)).mono ?_; rw [decide_eq_true ⟨rfl, rfl⟩]; rintro e w10 ⟨rfl, hb10⟩; have g10 : Below w9.heap.size w9 w10 := hb10; have s10 := g10.size; have f10_0 := carry g10 f9_0 (by omega); have f10_1 := carry g10 f9_1 (by omega); have f10_2 := carry g10 f9_2 (by omega); have f10_3 := carry g10 f9_3 (by omega); have o10_0 := own_below o9_0 g10 (Nat.le_refl _); have o10_1 := own_below o9_1 g10 (Nat.le_refl _); have k10 := k9.trans (g10.mono k9.size))))
  clear f8_0 f8_1 f8_2 f8_3 o8_0 o8_1 f9_0 f9_1 f9_2 f9_3 o9_0 o9_1 n9
  go_wp2_with fail
  refine (toIntS_got q1 A1 c1 _ hn1 ((hA1.below k10 (Nat.le_refl _)).more k10.size)).mono ?_
  rintro e w11 ⟨T11, d11, rfl, n11, hb11⟩
  have g11 : Below w10.heap.size w10 w11 := hb11
  have s11 := hb11.size
  have f11_0 := carry g11 f10_0 (by omega)
  have f11_1 := carry g11 f10_1 (by omega)
  have f11_2 := carry g11 f10_2 (by omega)
  have f11_3 := carry g11 f10_3 (by omega)
  have o11_0 := own_below o10_0 g11 (Nat.le_refl _)
  have o11_1 := own_below o10_1 g11 (Nat.le_refl _)
  have k11 := k10.trans (g11.mono k10.size)
  clear f10_0 f10_1 f10_2 f10_3 o10_0 o10_1
  have r11 : Lies (.slice T11 q1.length d11) (w10.heap.size) w11.heap.size := own_lies n11
  go_wp2_with fail
  refine (eqIntS_any q1 q1 _ _ _ _ _ hl1 hl1 (CRead.of_own o11_1) (CRead.of_own n11)).mono ?_
  rw [decide_eq_true rfl]
  rintro e w12 ⟨rfl, hb12⟩
  have g12 : Below w11.heap.size w11 w12 := hb12
  have s12 := hb12.size
  have f12_0 := carry g12 f11_0 (by omega)
  have f12_1 := carry g12 f11_1 (by omega)
  have f12_2 := carry g12 f11_2 (by omega)
  have f12_3 := carry g12 f11_3 (by omega)
  have o12_0 := own_below o11_0 g12 (Nat.le_refl _)
  have o12_1 := own_below o11_1 g12 (Nat.le_refl _)
  have o12_2 := own_below n11 g12 (Nat.le_refl _)
  have k12 := k11.trans (g12.mono k11.size)
  clear f11_0 f11_1 f11_2 f11_3 o11_0 o11_1 n11
  clear o12_2 r11
  go_wp2
  go_ret
  exact ⟨rfl, k12⟩
end Go.Proofs.Ytmiecebdkadhbaa
namespace Go.Proofs.Ytmiecebdkadhbaa
open Go.ChangeShapes Go.WideShapes Go.ChangeAt Go.RowKit

set_option maxRecDepth 100000 in
theorem lawIsRow_lifted (os : Os) (started : os.Started) (H : Type) (enc : TypeId × Value → H) :
    ReturnsInHanded {} Try.checked os 4 .any (Rows.fnExactIsRowSpec.pre6 enc Try.prog Try.f4 Rows.fnExactIsRowRow.domain false) (Rows.fnExactIsRowSpec.post enc Try.prog Try.f4 false true false false) := by
  refine returnsInHanded_of_change (C := Try.checked) Try.own started (by kernel_rfl) Try.func4
    (ChangeSpec.witness6 (enc := enc) (C := Try.checked) false ⟨#[], #[.agg #[.int .i64 0, .slice none 0 0], .slice none 0 0], []⟩ 8 (by kernel_rfl) (by kernel_rfl) (by kernel_rfl) (by kernel_rfl)) ?_
  intro W base args ds gs before hval0 hW _ _
  have hval : ∀ (j : Nat) t v, Try.f4.params[j]? = some t → args[j]? = some v → Value.okWide Try.prog W .any base t v := hval0
  have hW' := hW
  obtain ⟨p, q, hA0, hV, rfl, _, _⟩ := hW
  have hA : DataW.TrodAll enc Try.prog W 0 (fun _ => true) true Try.f4.params.toList args.toList ds p := hA0
  rw [Try.params4] at hA hval
  obtain ⟨v0, v1, d0, d1, p0, p1, rfl, rfl, rfl, h0, h1⟩ := trodAll_two hA
  obtain ⟨rfl, rfl⟩ := trodVars_none hV
  obtain ⟨x0, l0, A0, c0, rfl, hl0, hr0⟩ := open_party (hval 0 _ v0 rfl rfl) h0
  obtain ⟨l1, A1, c1, rfl, hl1, hr1⟩ := open_list (hval 1 _ v1 rfl rfl) h1
  refine (lawIsRow_any x0 l0 A0 c0 l1 A1 c1 W hl0 hr0 hl1 hr1).mono fun e W' ⟨he, hb⟩ => ?_
  subst he
  exact ⟨_, rfl, law_post Try.laidOut (by kernel_rfl) (by kernel_rfl) Try.underlying4 rfl rfl hW' hb⟩

theorem lawIsRow_types : typeFacts Try.prog Try.f4 Rows.fnExactIsRowSpec Rows.fnExactIsRowRow = true := by kernel_rfl
theorem lawIsRow_wf : Rows.fnExactIsRowRow.wf (OpenSpec.ofChange Rows.fnExactIsRowSpec) = true := by kernel_rfl
theorem lawIsRow_inPlace : (Rows.fnExactIsRowRow.inPlace == Try.prog.inPlace 4) = true := by kernel_rfl
theorem lawIsRow_unfollowed : (Rows.fnExactIsRowRow.unfollowed == Try.prog.unfollowed 4) = true := by kernel_rfl
theorem lawIsRow_recurses : (Rows.fnExactIsRowRow.recurses == Try.prog.recurses 4) = true := by kernel_rfl
theorem lawIsRow_named : (Rows.fnExactIsRowRow.named == Try.prog.varsNamed 4) = true := by kernel_rfl
theorem lawIsRow_name : Try.prog.funcNamed Rows.fnExactIsRowRow.func = some 4 := by kernel_rfl
theorem lawIsRow_wrap : (Try.f4).isWrapper Try.prog Rows.fnExactIsRowRow.wrapper Rows.fnExactIsRowRow.mainSum := by
  unfold Func.isWrapper
  first | (rw [if_pos (by decide +kernel)]; kernel_rfl) | (rw [if_neg (by decide +kernel)]; exact ⟨rfl, rfl⟩)
theorem lawIsRow_joined : joinedFacts Try.prog 4 Try.f4 Rows.fnExactIsRowSpec Rows.fnExactIsRowRow = true :=
  joined_of lawIsRow_wf lawIsRow_types lawIsRow_inPlace lawIsRow_unfollowed lawIsRow_recurses lawIsRow_named rfl rfl rfl

theorem exactIsRow_holds : Rows.FnExactIsRowSaid :=
  OpenClaim.holds_of_wide_leaving 4 Try.f4 rfl rfl rfl rfl rfl rfl rfl ⟨rfl, rfl, rfl, rfl, rfl⟩ rfl rfl rfl rfl rfl lawIsRow_name Try.func4 lawIsRow_joined
    (of_decide_eq_true (by kernel_rfl)) lawIsRow_wrap
    (fun os started H enc _ => leaving_of_handed (lawIsRow_lifted os started H enc))
end Go.Proofs.Ytmiecebdkadhbaa
