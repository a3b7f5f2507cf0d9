/-
  For every input that can be read, 'laws.FnExactOneColourThrees' returns true, and its arguments read afterwards as they read before. Conditions: none.
-/
import Derived.Test.YtepoabbkalhifaaOneColourThreesP1
import Derived.Test.YtepoabbkalhifaaOneColourThreesP5
namespace Go.Proofs.Ytepoabbkalhifaa
open Go.ChangeShapes Go.WideShapes Go.ChangeAt Go.RowKit

set_option maxRecDepth 100000 in
theorem lawOneColourThrees_lifted (os : Os) (started : os.Started) (H : Type) (enc : TypeId × Value → H) :
    ReturnsInHanded {} Try.checked os 8 .any (Rows.fnExactOneColourThreesSpec.pre6 enc Try.prog Try.f8 Rows.fnExactOneColourThreesRow.domain false) (Rows.fnExactOneColourThreesSpec.post enc Try.prog Try.f8 false true false false) := by
  refine returnsInHanded_of_change (C := Try.checked) Try.own started (by kernel_rfl) Try.func8
    (ChangeSpec.witness6 (enc := enc) (C := Try.checked) false ⟨#[], #[.agg #[.int .i64 0, .int .i64 0, .slice none 0 0]], []⟩ 8 (by kernel_rfl) (by kernel_rfl) (by kernel_rfl) (by kernel_rfl)) ?_
  intro W base args ds gs before hval0 hW _ _
  have hval : ∀ (j : Nat) t v, Try.f8.params[j]? = some t → args[j]? = some v → Value.okWide Try.prog W .any base t v := hval0
  have hW' := hW
  obtain ⟨p, q, hA0, hV, rfl, _, _⟩ := hW
  have hA : DataW.TrodAll enc Try.prog W 0 (fun _ => true) true Try.f8.params.toList args.toList ds p := hA0
  rw [Try.params8] at hA hval
  obtain ⟨v0, d0, rfl, rfl, h0⟩ := trodAll_one hA
  obtain ⟨rfl, rfl⟩ := trodVars_none hV
  obtain ⟨x0, k0, l0, A0, c0, rfl, hl0, hr0⟩ := open_painting (hval 0 _ v0 rfl rfl) h0
  refine (lawOneColourThrees_any x0 k0 l0 A0 c0 W hl0 hr0).mono fun e W' ⟨he, hb⟩ => ?_
  subst he
  exact ⟨_, rfl, law_post Try.laidOut (by kernel_rfl) (by kernel_rfl) Try.underlying4 rfl rfl hW' hb⟩

theorem lawOneColourThrees_types : typeFacts Try.prog Try.f8 Rows.fnExactOneColourThreesSpec Rows.fnExactOneColourThreesRow = true := by kernel_rfl
theorem lawOneColourThrees_wf : Rows.fnExactOneColourThreesRow.wf (OpenSpec.ofChange Rows.fnExactOneColourThreesSpec) = true := by kernel_rfl
theorem lawOneColourThrees_inPlace : (Rows.fnExactOneColourThreesRow.inPlace == Try.prog.inPlace 8) = true := by kernel_rfl
theorem lawOneColourThrees_unfollowed : (Rows.fnExactOneColourThreesRow.unfollowed == Try.prog.unfollowed 8) = true := by kernel_rfl
theorem lawOneColourThrees_recurses : (Rows.fnExactOneColourThreesRow.recurses == Try.prog.recurses 8) = true := by kernel_rfl
theorem lawOneColourThrees_named : (Rows.fnExactOneColourThreesRow.named == Try.prog.varsNamed 8) = true := by kernel_rfl
theorem lawOneColourThrees_name : Try.prog.funcNamed Rows.fnExactOneColourThreesRow.func = some 8 := by kernel_rfl
theorem lawOneColourThrees_wrap : (Try.f8).isWrapper Try.prog Rows.fnExactOneColourThreesRow.wrapper Rows.fnExactOneColourThreesRow.mainSum := by
  unfold Func.isWrapper
  first | (rw [if_pos (by decide +kernel)]; kernel_rfl) | (rw [if_neg (by decide +kernel)]; exact ⟨rfl, rfl⟩)
theorem lawOneColourThrees_joined : joinedFacts Try.prog 8 Try.f8 Rows.fnExactOneColourThreesSpec Rows.fnExactOneColourThreesRow = true :=
  joined_of lawOneColourThrees_wf lawOneColourThrees_types lawOneColourThrees_inPlace lawOneColourThrees_unfollowed lawOneColourThrees_recurses lawOneColourThrees_named rfl rfl rfl

theorem exactOneColourThrees_holds : Rows.FnExactOneColourThreesSaid :=
  OpenClaim.holds_of_wide 8 Try.f8 rfl rfl rfl rfl rfl rfl rfl ⟨rfl, rfl, rfl, rfl, rfl⟩ rfl rfl rfl rfl rfl lawOneColourThrees_name Try.func8 lawOneColourThrees_joined
    (of_decide_eq_true (by kernel_rfl)) lawOneColourThrees_wrap
    (fun os started H enc _ => lawOneColourThrees_lifted os started H enc)
end Go.Proofs.Ytepoabbkalhifaa
