/-
  For every input that can be read, 'laws.FnExactCountMixed' returns true, and its arguments read afterwards as they read before. Conditions: none.
-/
import Derived.Test.YtepoabbkalhifaaCountMixedP1
import Derived.Test.YtepoabbkalhifaaCountMixedP5
namespace Go.Proofs.Ytepoabbkalhifaa
open Go.ChangeShapes Go.WideShapes Go.ChangeAt Go.RowKit

set_option maxRecDepth 100000 in
theorem lawCountMixed_lifted (os : Os) (started : os.Started) (H : Type) (enc : TypeId × Value → H) :
    ReturnsInHanded {} Try.checked os 10 .any (Rows.fnExactCountMixedSpec.pre6 enc Try.prog Try.f10 Rows.fnExactCountMixedRow.domain false) (Rows.fnExactCountMixedSpec.post enc Try.prog Try.f10 false true false false) := by
  refine returnsInHanded_of_change (C := Try.checked) Try.own started (by kernel_rfl) Try.func10
    (ChangeSpec.witness6 (enc := enc) (C := Try.checked) false ⟨#[], #[.agg #[.int .i64 0, .int .i64 0, .slice none 0 0]], []⟩ 8 (by kernel_rfl) (by kernel_rfl) (by kernel_rfl) (by kernel_rfl)) ?_
  intro W base args ds gs before hval0 hW _ _
  have hval : ∀ (j : Nat) t v, Try.f10.params[j]? = some t → args[j]? = some v → Value.okWide Try.prog W .any base t v := hval0
  have hW' := hW
  obtain ⟨p, q, hA0, hV, rfl, _, _⟩ := hW
  have hA : DataW.TrodAll enc Try.prog W 0 (fun _ => true) true Try.f10.params.toList args.toList ds p := hA0
  rw [Try.params10] at hA hval
  obtain ⟨v0, d0, rfl, rfl, h0⟩ := trodAll_one hA
  obtain ⟨rfl, rfl⟩ := trodVars_none hV
  obtain ⟨x0, k0, l0, A0, c0, rfl, hl0, hr0⟩ := open_painting (hval 0 _ v0 rfl rfl) h0
  refine (lawCountMixed_any x0 k0 l0 A0 c0 W hl0 hr0).mono fun e W' ⟨he, hb⟩ => ?_
  subst he
  exact ⟨_, rfl, law_post Try.laidOut (by kernel_rfl) (by kernel_rfl) Try.underlying4 rfl rfl hW' hb⟩

theorem lawCountMixed_types : typeFacts Try.prog Try.f10 Rows.fnExactCountMixedSpec Rows.fnExactCountMixedRow = true := by kernel_rfl
theorem lawCountMixed_wf : Rows.fnExactCountMixedRow.wf (OpenSpec.ofChange Rows.fnExactCountMixedSpec) = true := by kernel_rfl
theorem lawCountMixed_inPlace : (Rows.fnExactCountMixedRow.inPlace == Try.prog.inPlace 10) = true := by kernel_rfl
theorem lawCountMixed_unfollowed : (Rows.fnExactCountMixedRow.unfollowed == Try.prog.unfollowed 10) = true := by kernel_rfl
theorem lawCountMixed_recurses : (Rows.fnExactCountMixedRow.recurses == Try.prog.recurses 10) = true := by kernel_rfl
theorem lawCountMixed_named : (Rows.fnExactCountMixedRow.named == Try.prog.varsNamed 10) = true := by kernel_rfl
theorem lawCountMixed_name : Try.prog.funcNamed Rows.fnExactCountMixedRow.func = some 10 := by kernel_rfl
theorem lawCountMixed_wrap : (Try.f10).isWrapper Try.prog Rows.fnExactCountMixedRow.wrapper Rows.fnExactCountMixedRow.mainSum := by
  unfold Func.isWrapper
  first | (rw [if_pos (by decide +kernel)]; kernel_rfl) | (rw [if_neg (by decide +kernel)]; exact ⟨rfl, rfl⟩)
theorem lawCountMixed_joined : joinedFacts Try.prog 10 Try.f10 Rows.fnExactCountMixedSpec Rows.fnExactCountMixedRow = true :=
  joined_of lawCountMixed_wf lawCountMixed_types lawCountMixed_inPlace lawCountMixed_unfollowed lawCountMixed_recurses lawCountMixed_named rfl rfl rfl

theorem exactCountMixed_holds : Rows.FnExactCountMixedSaid :=
  OpenClaim.holds_of_wide 10 Try.f10 rfl rfl rfl rfl rfl rfl rfl ⟨rfl, rfl, rfl, rfl, rfl⟩ rfl rfl rfl rfl rfl lawCountMixed_name Try.func10 lawCountMixed_joined
    (of_decide_eq_true (by kernel_rfl)) lawCountMixed_wrap
    (fun os started H enc _ => lawCountMixed_lifted os started H enc)
end Go.Proofs.Ytepoabbkalhifaa
