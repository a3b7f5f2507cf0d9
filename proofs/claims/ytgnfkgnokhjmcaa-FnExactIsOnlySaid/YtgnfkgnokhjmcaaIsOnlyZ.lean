/-
  For every input that can be read, 'laws.FnExactIsOnly' returns true, and its arguments read afterwards as they read before. Conditions: none.
-/
import Derived.Test.YtgnfkgnokhjmcaaEachP1
import Derived.Test.YtgnfkgnokhjmcaaEachP3
import Derived.Deep.RegionHeld3
namespace Go.Proofs.Ytgnfkgnokhjmcaa
open Go.RowKit

set_option maxHeartbeats 4000000 in
set_option maxRecDepth 100000 in
theorem lawIsOnly_any (q0 : List Int) (A0 : Option Addr) (c0 : Nat) (W : World) (hl0 : q0.length ≤ maxLen) (hA0 : CRead W W.heap.size A0 (icells q0)) :
    Calls Try.prog 5 #[.slice A0 q0.length c0] W fun e w' => e = .returned (.bool true) ∧ Below W.heap.size W w' := by
  have hone : (0 : Int) ≤ 1 ∧ (1 : Int) ≤ 16777216 := by omega
  by_cases hq0 : (1048576 : Int) < (q0.length : Int)
  · unfold maxLen at *
    go_enter Try.func5, Try.ntmps5
    go_wp2
    go_ret
    exact ⟨rfl, by go_grown⟩
  have hn0 : q0.length ≤ 1048576 := by omega
  obtain ⟨⟨rb, rok⟩, hres⟩ : ∃ r, resIsOnly q0 = r := ⟨_, rfl⟩
  have Hres := Lib.hid hres
  clear hres
  go_enter Try.func5, Try.ntmps5
  go_wp2_with fail
  refine (toIntS_got q0 A0 c0 _ hn0 hA0).mono ?_
  rintro e w1 ⟨T1, d1, rfl, n1, hb1⟩
  have g1 : Below W.heap.size W w1 := hb1
  have s1 := hb1.size
  have k1 : Below W.heap.size W w1 := g1
  have r1 : Lies (.slice T1 q0.length d1) (W.heap.size) w1.heap.size := own_lies n1
  go_wp2_with fail
  refine (specIsOnly_any q0 _ _ _ hn0 (CRead.of_own n1) (own_zero n1)).mono ?_
  rw [Hres.out]
  rintro e w2 ⟨rfl, hb2⟩
  have g2 : Below w1.heap.size w1 w2 := hb2
  have s2 := hb2.size
  have o2_0 := own_below n1 g2 (Nat.le_refl _)
  have k2 := k1.trans (g2.mono k1.size)
  clear n1
  clear o2_0 r1
  go_wp2_with fail
  refine (toIntS_got q0 A0 c0 _ hn0 ((hA0.below k2 (Nat.le_refl _)).more k2.size)).mono ?_
  rintro e w3 ⟨T3, d3, rfl, n3, hb3⟩
  have g3 : Below w2.heap.size w2 w3 := hb3
  have s3 := hb3.size
  have k3 := k2.trans (g3.mono k2.size)
  have r3 : Lies (.slice T3 q0.length d3) (w2.heap.size) w3.heap.size := own_lies n3
  go_wp2_with fail
  refine (implIsOnly_any q0 _ _ _ hn0 (CRead.of_own n3)).mono ?_
  rw [Hres.out]
  rintro e w4 ⟨rfl, hb4⟩
  have g4 : Below w3.heap.size w3 w4 := hb4
  have s4 := hb4.size
  have o4_0 := own_below n3 g4 (Nat.le_refl _)
  have k4 := k3.trans (g4.mono k3.size)
  clear n3
  go_wp2_with fail
  refine (toIntS_got q0 A0 c0 _ hn0 ((hA0.below k4 (Nat.le_refl _)).more k4.size)).mono ?_
  rintro e w5 ⟨T5, d5, rfl, n5, hb5⟩
  have g5 : Below w4.heap.size w4 w5 := hb5
  have s5 := hb5.size
  have o5_0 := own_below o4_0 g5 (Nat.le_refl _)
  have k5 := k4.trans (g5.mono k4.size)
  clear o4_0
  have r5 : Lies (.slice T5 q0.length d5) (w4.heap.size) w5.heap.size := own_lies n5
  go_wp2_with fail
  refine (eqIntS_any q0 q0 _ _ _ _ _ hl0 hl0 (CRead.of_own o5_0) (CRead.of_own n5)).mono ?_
  rw [decide_eq_true rfl]
  rintro e w6 ⟨rfl, hb6⟩
  have g6 : Below w5.heap.size w5 w6 := hb6
  have s6 := hb6.size
  have o6_0 := own_below o5_0 g6 (Nat.le_refl _)
  have o6_1 := own_below n5 g6 (Nat.le_refl _)
  have k6 := k5.trans (g6.mono k5.size)
  clear o5_0 n5
  clear o6_1 r5
  go_wp2
  go_ret
  exact ⟨rfl, k6⟩
end Go.Proofs.Ytgnfkgnokhjmcaa
namespace Go.Proofs.Ytgnfkgnokhjmcaa
open Go.ChangeShapes Go.WideShapes Go.ChangeAt Go.RowKit

set_option maxRecDepth 100000 in
theorem lawIsOnly_lifted (os : Os) (started : os.Started) (H : Type) (enc : TypeId × Value → H) :
    ReturnsInHanded {} Try.checked os 5 .any (Rows.fnExactIsOnlySpec.pre6 enc Try.prog Try.f5 Rows.fnExactIsOnlyRow.domain false) (Rows.fnExactIsOnlySpec.post enc Try.prog Try.f5 false true false false) := by
  refine returnsInHanded_of_change (C := Try.checked) Try.own started (by kernel_rfl) Try.func5
    (ChangeSpec.witness6 (enc := enc) (C := Try.checked) false ⟨#[], #[.slice none 0 0], []⟩ 8 (by kernel_rfl) (by kernel_rfl) (by kernel_rfl) (by kernel_rfl)) ?_
  intro W base args ds gs before hval0 hW _ _
  have hval : ∀ (j : Nat) t v, Try.f5.params[j]? = some t → args[j]? = some v → Value.okWide Try.prog W .any base t v := hval0
  have hW' := hW
  obtain ⟨p, q, hA0, hV, rfl, _, _⟩ := hW
  have hA : DataW.TrodAll enc Try.prog W 0 (fun _ => true) true Try.f5.params.toList args.toList ds p := hA0
  rw [Try.params5] at hA hval
  obtain ⟨v0, d0, rfl, rfl, h0⟩ := trodAll_one hA
  obtain ⟨rfl, rfl⟩ := trodVars_none hV
  obtain ⟨l0, A0, c0, rfl, hl0, hr0⟩ := open_list (hval 0 _ v0 rfl rfl) h0
  refine (lawIsOnly_any l0 A0 c0 W hl0 hr0).mono fun e W' ⟨he, hb⟩ => ?_
  subst he
  exact ⟨_, rfl, law_post Try.laidOut (by kernel_rfl) (by kernel_rfl) Try.underlying4 rfl rfl hW' hb⟩

theorem lawIsOnly_types : typeFacts Try.prog Try.f5 Rows.fnExactIsOnlySpec Rows.fnExactIsOnlyRow = true := by kernel_rfl
theorem lawIsOnly_wf : Rows.fnExactIsOnlyRow.wf (OpenSpec.ofChange Rows.fnExactIsOnlySpec) = true := by kernel_rfl
theorem lawIsOnly_inPlace : (Rows.fnExactIsOnlyRow.inPlace == Try.prog.inPlace 5) = true := by kernel_rfl
theorem lawIsOnly_unfollowed : (Rows.fnExactIsOnlyRow.unfollowed == Try.prog.unfollowed 5) = true := by kernel_rfl
theorem lawIsOnly_recurses : (Rows.fnExactIsOnlyRow.recurses == Try.prog.recurses 5) = true := by kernel_rfl
theorem lawIsOnly_named : (Rows.fnExactIsOnlyRow.named == Try.prog.varsNamed 5) = true := by kernel_rfl
theorem lawIsOnly_name : Try.prog.funcNamed Rows.fnExactIsOnlyRow.func = some 5 := by kernel_rfl
theorem lawIsOnly_wrap : (Try.f5).isWrapper Try.prog Rows.fnExactIsOnlyRow.wrapper Rows.fnExactIsOnlyRow.mainSum := by
  unfold Func.isWrapper
  first | (rw [if_pos (by decide +kernel)]; kernel_rfl) | (rw [if_neg (by decide +kernel)]; exact ⟨rfl, rfl⟩)
theorem lawIsOnly_joined : joinedFacts Try.prog 5 Try.f5 Rows.fnExactIsOnlySpec Rows.fnExactIsOnlyRow = true :=
  joined_of lawIsOnly_wf lawIsOnly_types lawIsOnly_inPlace lawIsOnly_unfollowed lawIsOnly_recurses lawIsOnly_named rfl rfl rfl

theorem exactIsOnly_holds : Rows.FnExactIsOnlySaid :=
  OpenClaim.holds_of_wide 5 Try.f5 rfl rfl rfl rfl rfl rfl rfl ⟨rfl, rfl, rfl, rfl, rfl⟩ rfl rfl rfl rfl rfl lawIsOnly_name Try.func5 lawIsOnly_joined
    (of_decide_eq_true (by kernel_rfl)) lawIsOnly_wrap
    (fun os started H enc _ => lawIsOnly_lifted os started H enc)
end Go.Proofs.Ytgnfkgnokhjmcaa
