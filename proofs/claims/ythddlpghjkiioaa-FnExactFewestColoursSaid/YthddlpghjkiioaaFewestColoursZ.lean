/-
  For every input that can be read, 'laws.FnExactFewestColours' returns true, and its arguments read afterwards as they read before. Conditions: none.
-/
import Derived.Test.YthddlpghjkiioaaColsP1
import Derived.Test.YthddlpghjkiioaaColsP6
import Derived.Deep.RegionHeld3
namespace Go.Proofs.Ythddlpghjkiioaa
open Go.RowKit

set_option maxHeartbeats 4000000 in
set_option maxRecDepth 100000 in
theorem lawFewestColours_any (p0 : Int) (l0 : PL) (A0 : Option Addr) (c0 : Nat) (W : World) (hl0 : l0.length ≤ maxLen) (hA0 : CRead W W.heap.size A0 (pcells l0)) :
    Calls Try.prog 4 #[.agg #[.int .i64 p0, .slice A0 l0.length c0]] W fun e w' => e = .returned (.bool true) ∧ Below W.heap.size W w' := by
  have hone : (0 : Int) ≤ 1 ∧ (1 : Int) ≤ 16777216 := by omega
  by_cases hz0 : szI (1048576) l0.length < 0
  · go_enter Try.func4, Try.ntmps4
    go_wp2_with fail
    refine (szParty_any _ _ _ _ _ hl0 (by omega) (by omega) _).mono ?_
    rintro e w1 ⟨rfl, hb1⟩
    simp only [World.size_alloc] at hb1
    have g1 : Below W.heap.size W w1 := Below.trans (b := _) (by go_grown) (hb1.mono (by omega))
    have s1 := hb1.size
    simp only [World.size_alloc] at s1
    have f1_0 : w1.cell? ⟨W.heap.size, 0, none⟩ = some (.int .i64 p0) := carry hb1 (by simp) (by omega)
    have f1_1 : w1.cell? ⟨W.heap.size, 1, none⟩ = some (.slice A0 l0.length c0) := carry hb1 (by simp) (by omega)
    have k1 : Below W.heap.size W w1 := g1
    go_wp2
    go_ret
    exact ⟨rfl, k1⟩
  have hn0 : l0.length ≤ 1048576 := by have h1 := szI_len _ _ hz0; have h2 := szI_hi (1048576) l0.length (by omega); omega
  have hz0' : 0 ≤ szI (1048576) l0.length := by omega
  have hz0'' : szI (1048576) l0.length ≤ 1048576 := by have h2 := szI_hi (1048576) l0.length (by omega); omega
  obtain ⟨⟨rb, rok⟩, hres⟩ : ∃ r, resFewestColours p0 l0 = r := ⟨_, rfl⟩
  have Hres := Lib.hid hres
  clear hres
  go_enter Try.func4, Try.ntmps4
  go_wp2_with fail
  refine (szParty_any _ _ _ _ _ hl0 (by omega) (by omega) _).mono ?_
  rintro e w1 ⟨rfl, hb1⟩
  simp only [World.size_alloc] at hb1
  have g1 : Below W.heap.size W w1 := Below.trans (b := _) (by go_grown) (hb1.mono (by omega))
  have s1 := hb1.size
  simp only [World.size_alloc] at s1
  have f1_0 : w1.cell? ⟨W.heap.size, 0, none⟩ = some (.int .i64 p0) := carry hb1 (by simp) (by omega)
  have f1_1 : w1.cell? ⟨W.heap.size, 1, none⟩ = some (.slice A0 l0.length c0) := carry hb1 (by simp) (by omega)
  have k1 : Below W.heap.size W w1 := g1
  go_wp2_with fail
  refine (toParty_any p0 l0 A0 c0 _ hn0 ((hA0.below k1 (Nat.le_refl _)).more k1.size)).mono ?_
  rintro e w2 ⟨T2, d2, rfl, n2, hb2⟩
  have g2 : Below w1.heap.size w1 w2 := hb2
  have s2 := hb2.size
  have f2_0 := carry g2 f1_0 (by omega)
  have f2_1 := carry g2 f1_1 (by omega)
  have k2 := k1.trans (g2.mono k1.size)
  clear f1_0 f1_1
  have r2 : Lies (.slice T2 l0.length d2) (w1.heap.size) w2.heap.size := own_lies n2
  go_wp2_with fail
  refine (specFewestColours_any p0 l0 _ _ _ hn0 (CRead.of_own n2)).mono ?_
  rw [Hres.out]
  rintro e w3 ⟨rfl, hb3⟩
  have g3 : Below w2.heap.size w2 w3 := hb3
  have s3 := hb3.size
  have f3_0 := carry g3 f2_0 (by omega)
  have f3_1 := carry g3 f2_1 (by omega)
  have o3_0 := own_below n2 g3 (Nat.le_refl _)
  have k3 := k2.trans (g3.mono k2.size)
  clear f2_0 f2_1 n2
  clear o3_0 r2
  go_wp2_with fail
  refine (toParty_any p0 l0 A0 c0 _ hn0 ((hA0.below k3 (Nat.le_refl _)).more k3.size)).mono ?_
  rintro e w4 ⟨T4, d4, rfl, n4, hb4⟩
  have g4 : Below w3.heap.size w3 w4 := hb4
  have s4 := hb4.size
  have f4_0 := carry g4 f3_0 (by omega)
  have f4_1 := carry g4 f3_1 (by omega)
  have k4 := k3.trans (g4.mono k3.size)
  clear f3_0 f3_1
  have r4 : Lies (.slice T4 l0.length d4) (w3.heap.size) w4.heap.size := own_lies n4
  have q5_0 : (w4.alloc (Obj.cells #[.int .i64 p0, .slice T4 l0.length d4] 25)).cell? ⟨W.heap.size, 0, none⟩ = some (.int .i64 p0) := (World.cell?_alloc_lt _ _ _ (show W.heap.size < w4.heap.size by omega)).trans f4_0
  have q5_1 : (w4.alloc (Obj.cells #[.int .i64 p0, .slice T4 l0.length d4] 25)).cell? ⟨W.heap.size, 1, none⟩ = some (.slice A0 l0.length c0) := (World.cell?_alloc_lt _ _ _ (show W.heap.size < w4.heap.size by omega)).trans f4_1
  go_wp2_with fail
  refine (implFewestColours_any p0 l0 _ _ _ hn0 (((CRead.of_own n4).below (B' := w4.heap.size) (by go_grown) (Nat.le_refl _)).more (by go_size))).mono ?_
  rw [Hres.out]
  rintro e w6 ⟨rfl, hb6⟩
  simp only [World.size_alloc] at hb6
  have g6 : Below w4.heap.size w4 w6 := Below.trans (b := _) (by go_grown) (hb6.mono (by omega))
  have s6 := hb6.size
  simp only [World.size_alloc] at s6
  have f6_0 := carry g6 f4_0 (by omega)
  have f6_1 := carry g6 f4_1 (by omega)
  have f6_2 : w6.cell? ⟨w4.heap.size, 0, none⟩ = some (.int .i64 p0) := carry hb6 (by simp) (by omega)
  have f6_3 : w6.cell? ⟨w4.heap.size, 1, none⟩ = some (.slice T4 l0.length d4) := carry hb6 (by simp) (by omega)
  have o6_0 := own_below n4 g6 (Nat.le_refl _)
  have k6 := k4.trans (g6.mono k4.size)
  clear f4_0 f4_1 n4 q5_0 q5_1
  go_wp2
  go_region_held3 (fun w' => w'.cell? ⟨W.heap.size, 0, none⟩ = some (.int .i64 p0) ∧ w'.cell? ⟨W.heap.size, 1, none⟩ = some (.slice A0 l0.length c0) ∧ w'.cell? ⟨w4.heap.size, 0, none⟩ = some (.int .i64 p0) ∧ w'.cell? ⟨w4.heap.size, 1, none⟩ = some (.slice T4 l0.length d4)) (first | exact ⟨f6_0, f6_1, f6_2, f6_3⟩ | exact ⟨f7_0, f7_1, f7_2, f7_3⟩ | exact ⟨f8_0, f8_1, f8_2, f8_3⟩) ((first | (go_at_call 21; refine (toParty_any p0 l0 A0 c0 _ hn0 ((hA0.below k6.drew (Nat.le_refl _)).more k6.size)).mono ?_; rintro e w7 ⟨T7, d7, rfl, n7, hb7⟩; have g7 : Below w6.heap.size w6 w7 := (Below.refl _ _).drew.trans hb7; have s7 := g7.size; have f7_0 := carry g7 f6_0 (by omega); have f7_1 := carry g7 f6_1 (by omega); have f7_2 := carry g7 f6_2 (by omega); have f7_3 := carry g7 f6_3 (by omega); have o7_0 := own_below o6_0 g7 (Nat.le_refl _); have k7 := k6.trans (g7.mono k6.size)) | (go_at_call 14; refine (eqParty_any p0 p0 l0 l0 _ _ _ _ _ hl0 hl0 (CRead.of_own o7_0) (CRead.of_own n7)).mono ?_; rw [decide_eq_true ⟨rfl, rfl⟩]; rintro e w8 ⟨rfl, hb8⟩; have g8 : Below w7.heap.size w7 w8 := hb8; have s8 := g8.size; have f8_0 := carry g8 f7_0 (by omega); have f8_1 := carry g8 f7_1 (by omega); have f8_2 := carry g8 f7_2 (by omega); have f8_3 := carry g8 f7_3 (by omega); have o8_0 := own_below o7_0 g8 (Nat.le_refl _); have k8 := k7.trans (g8.mono k7.size))))
  clear f6_0 f6_1 f6_2 f6_3 o6_0 f7_0 f7_1 f7_2 f7_3 o7_0 n7
  go_wp2
  go_ret
  exact ⟨rfl, k8⟩
end Go.Proofs.Ythddlpghjkiioaa
namespace Go.Proofs.Ythddlpghjkiioaa
open Go.ChangeShapes Go.WideShapes Go.ChangeAt Go.RowKit

set_option maxRecDepth 100000 in
theorem lawFewestColours_lifted (os : Os) (started : os.Started) (H : Type) (enc : TypeId × Value → H) :
    ReturnsInHanded {} Try.checked os 4 .any (Rows.fnExactFewestColoursSpec.pre6 enc Try.prog Try.f4 Rows.fnExactFewestColoursRow.domain false) (Rows.fnExactFewestColoursSpec.post enc Try.prog Try.f4 false true false false) := by
  refine returnsInHanded_of_change (C := Try.checked) Try.own started (by kernel_rfl) Try.func4
    (ChangeSpec.witness6 (enc := enc) (C := Try.checked) false ⟨#[], #[.agg #[.int .i64 0, .slice none 0 0]], []⟩ 8 (by kernel_rfl) (by kernel_rfl) (by kernel_rfl) (by kernel_rfl)) ?_
  intro W base args ds gs before hval0 hW _ _
  have hval : ∀ (j : Nat) t v, Try.f4.params[j]? = some t → args[j]? = some v → Value.okWide Try.prog W .any base t v := hval0
  have hW' := hW
  obtain ⟨p, q, hA0, hV, rfl, _, _⟩ := hW
  have hA : DataW.TrodAll enc Try.prog W 0 (fun _ => true) true Try.f4.params.toList args.toList ds p := hA0
  rw [Try.params4] at hA hval
  obtain ⟨v0, d0, rfl, rfl, h0⟩ := trodAll_one hA
  obtain ⟨rfl, rfl⟩ := trodVars_none hV
  obtain ⟨x0, l0, A0, c0, rfl, hl0, hr0⟩ := open_party (hval 0 _ v0 rfl rfl) h0
  refine (lawFewestColours_any x0 l0 A0 c0 W hl0 hr0).mono fun e W' ⟨he, hb⟩ => ?_
  subst he
  exact ⟨_, rfl, law_post Try.laidOut (by kernel_rfl) (by kernel_rfl) Try.underlying4 rfl rfl hW' hb⟩

theorem lawFewestColours_types : typeFacts Try.prog Try.f4 Rows.fnExactFewestColoursSpec Rows.fnExactFewestColoursRow = true := by kernel_rfl
theorem lawFewestColours_wf : Rows.fnExactFewestColoursRow.wf (OpenSpec.ofChange Rows.fnExactFewestColoursSpec) = true := by kernel_rfl
theorem lawFewestColours_inPlace : (Rows.fnExactFewestColoursRow.inPlace == Try.prog.inPlace 4) = true := by kernel_rfl
theorem lawFewestColours_unfollowed : (Rows.fnExactFewestColoursRow.unfollowed == Try.prog.unfollowed 4) = true := by kernel_rfl
theorem lawFewestColours_recurses : (Rows.fnExactFewestColoursRow.recurses == Try.prog.recurses 4) = true := by kernel_rfl
theorem lawFewestColours_named : (Rows.fnExactFewestColoursRow.named == Try.prog.varsNamed 4) = true := by kernel_rfl
theorem lawFewestColours_name : Try.prog.funcNamed Rows.fnExactFewestColoursRow.func = some 4 := by kernel_rfl
theorem lawFewestColours_wrap : (Try.f4).isWrapper Try.prog Rows.fnExactFewestColoursRow.wrapper Rows.fnExactFewestColoursRow.mainSum := by
  unfold Func.isWrapper
  first | (rw [if_pos (by decide +kernel)]; kernel_rfl) | (rw [if_neg (by decide +kernel)]; exact ⟨rfl, rfl⟩)
theorem lawFewestColours_joined : joinedFacts Try.prog 4 Try.f4 Rows.fnExactFewestColoursSpec Rows.fnExactFewestColoursRow = true :=
  joined_of lawFewestColours_wf lawFewestColours_types lawFewestColours_inPlace lawFewestColours_unfollowed lawFewestColours_recurses lawFewestColours_named rfl rfl rfl

theorem exactFewestColours_holds : Rows.FnExactFewestColoursSaid :=
  OpenClaim.holds_of_wide 4 Try.f4 rfl rfl rfl rfl rfl rfl rfl ⟨rfl, rfl, rfl, rfl, rfl⟩ rfl rfl rfl rfl rfl lawFewestColours_name Try.func4 lawFewestColours_joined
    (of_decide_eq_true (by kernel_rfl)) lawFewestColours_wrap
    (fun os started H enc _ => lawFewestColours_lifted os started H enc)
end Go.Proofs.Ythddlpghjkiioaa
