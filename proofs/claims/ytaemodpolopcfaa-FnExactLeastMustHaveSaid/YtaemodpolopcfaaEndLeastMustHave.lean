/-
  For every input that can be read, 'laws.FnExactLeastMustHave' returns true, and its arguments read afterwards as they read before. Conditions: none.
-/
import Derived.Test.YtaemodpolopcfaaLawLeastMustHave
import Derived.Test.YtaemodpolopcfaaFacts
namespace Go.Proofs.Ytaemodpolopcfaa
open Go.ChangeShapes Go.WideShapes Go.ChangeAt Go.RowKit

set_option maxRecDepth 100000 in
theorem lawLeastMustHave_lifted (os : Os) (started : os.Started) (H : Type) (enc : TypeId × Value → H) :
    ReturnsInHanded {} Try.checked os 10 .any (Rows.fnExactLeastMustHaveSpec.pre6 enc Try.prog Try.f10 Rows.fnExactLeastMustHaveRow.domain false) (Rows.fnExactLeastMustHaveSpec.post enc Try.prog Try.f10 false true false false) := by
  refine returnsInHanded_of_change (C := Try.checked) Try.own started (by kernel_rfl) Try.func10
    (ChangeSpec.witness6 (enc := enc) (C := Try.checked) false ⟨#[], #[.int .i64 0, .int .i64 0], []⟩ 8 (by kernel_rfl) (by kernel_rfl) (by kernel_rfl) (by kernel_rfl)) ?_
  intro W base args ds gs before hval0 hW _ _
  have hval : ∀ (j : Nat) t v, Try.f10.params[j]? = some t → args[j]? = some v → Value.okWide Try.prog W .any base t v := hval0
  have hW' := hW
  obtain ⟨p, q, hA0, hV, rfl, _, _⟩ := hW
  have hA : DataW.TrodAll enc Try.prog W 0 (fun _ => true) true Try.f10.params.toList args.toList ds p := hA0
  rw [Try.params10] at hA hval
  obtain ⟨v0, v1, d0, d1, p0, p1, rfl, rfl, rfl, h0, h1⟩ := trodAll_two hA
  obtain ⟨rfl, rfl⟩ := trodVars_none hV
  obtain ⟨x0, rfl, _, _, wf0⟩ := open_int Try.underlying3 (hval 0 _ v0 rfl rfl) h0
  obtain ⟨x1, rfl, _, _, wf1⟩ := open_int Try.underlying3 (hval 1 _ v1 rfl rfl) h1
  refine (lawLeastMustHave_any x0 x1 W ).mono fun e W' ⟨he, hb⟩ => ?_
  subst he
  exact ⟨_, rfl, law_post Try.laidOut (by kernel_rfl) (by kernel_rfl) Try.underlying4 rfl rfl hW' hb⟩

theorem lawLeastMustHave_types : typeFacts Try.prog Try.f10 Rows.fnExactLeastMustHaveSpec Rows.fnExactLeastMustHaveRow = true := by kernel_rfl
theorem lawLeastMustHave_wf : Rows.fnExactLeastMustHaveRow.wf (OpenSpec.ofChange Rows.fnExactLeastMustHaveSpec) = true := by kernel_rfl
theorem lawLeastMustHave_inPlace : (Rows.fnExactLeastMustHaveRow.inPlace == Try.prog.inPlace 10) = true := by kernel_rfl
theorem lawLeastMustHave_unfollowed : (Rows.fnExactLeastMustHaveRow.unfollowed == Try.prog.unfollowed 10) = true := by kernel_rfl
theorem lawLeastMustHave_recurses : (Rows.fnExactLeastMustHaveRow.recurses == Try.prog.recurses 10) = true := by kernel_rfl
theorem lawLeastMustHave_named : (Rows.fnExactLeastMustHaveRow.named == Try.prog.varsNamed 10) = true := by kernel_rfl
theorem lawLeastMustHave_name : Try.prog.funcNamed Rows.fnExactLeastMustHaveRow.func = some 10 := by kernel_rfl
theorem lawLeastMustHave_wrap : (Try.f10).isWrapper Try.prog Rows.fnExactLeastMustHaveRow.wrapper Rows.fnExactLeastMustHaveRow.mainSum := by
  unfold Func.isWrapper
  first | (rw [if_pos (by decide +kernel)]; kernel_rfl) | (rw [if_neg (by decide +kernel)]; exact ⟨rfl, rfl⟩)
theorem lawLeastMustHave_joined : joinedFacts Try.prog 10 Try.f10 Rows.fnExactLeastMustHaveSpec Rows.fnExactLeastMustHaveRow = true :=
  joined_of lawLeastMustHave_wf lawLeastMustHave_types lawLeastMustHave_inPlace lawLeastMustHave_unfollowed lawLeastMustHave_recurses lawLeastMustHave_named rfl rfl rfl

theorem exactLeastMustHave_holds : Rows.FnExactLeastMustHaveSaid :=
  OpenClaim.holds_of_wide 10 Try.f10 rfl rfl rfl rfl rfl rfl rfl ⟨rfl, rfl, rfl, rfl, rfl⟩ rfl rfl rfl rfl rfl lawLeastMustHave_name Try.func10 lawLeastMustHave_joined
    (of_decide_eq_true (by kernel_rfl)) lawLeastMustHave_wrap
    (fun os started H enc _ => lawLeastMustHave_lifted os started H enc)
end Go.Proofs.Ytaemodpolopcfaa
