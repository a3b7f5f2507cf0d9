/-
  For every input that can be read, 'laws.FnExactLeastThrees' returns true, and its arguments read afterwards as they read before. Conditions: none.
-/
import Derived.Test.YtepoabbkalhifaaLeastThreesP1
import Derived.Test.YtepoabbkalhifaaLeastThreesP2
namespace Go.Proofs.Ytepoabbkalhifaa
open Go.ChangeShapes Go.WideShapes Go.ChangeAt Go.RowKit

set_option maxRecDepth 100000 in
theorem lawLeastThrees_lifted (os : Os) (started : os.Started) (H : Type) (enc : TypeId × Value → H) :
    ReturnsInHanded {} Try.checked os 11 .any (Rows.fnExactLeastThreesSpec.pre6 enc Try.prog Try.f11 Rows.fnExactLeastThreesRow.domain false) (Rows.fnExactLeastThreesSpec.post enc Try.prog Try.f11 false true false false) := by
  refine returnsInHanded_of_change (C := Try.checked) Try.own started (by kernel_rfl) Try.func11
    (ChangeSpec.witness6 (enc := enc) (C := Try.checked) false ⟨#[], #[.int .i64 0], []⟩ 8 (by kernel_rfl) (by kernel_rfl) (by kernel_rfl) (by kernel_rfl)) ?_
  intro W base args ds gs before hval0 hW _ _
  have hval : ∀ (j : Nat) t v, Try.f11.params[j]? = some t → args[j]? = some v → Value.okWide Try.prog W .any base t v := hval0
  have hW' := hW
  obtain ⟨p, q, hA0, hV, rfl, _, _⟩ := hW
  have hA : DataW.TrodAll enc Try.prog W 0 (fun _ => true) true Try.f11.params.toList args.toList ds p := hA0
  rw [Try.params11] at hA hval
  obtain ⟨v0, d0, rfl, rfl, h0⟩ := trodAll_one hA
  obtain ⟨rfl, rfl⟩ := trodVars_none hV
  obtain ⟨x0, rfl, _, _, wf0⟩ := open_int Try.underlying3 (hval 0 _ v0 rfl rfl) h0
  refine (lawLeastThrees_any x0 W ).mono fun e W' ⟨he, hb⟩ => ?_
  subst he
  exact ⟨_, rfl, law_post Try.laidOut (by kernel_rfl) (by kernel_rfl) Try.underlying4 rfl rfl hW' hb⟩

theorem lawLeastThrees_types : typeFacts Try.prog Try.f11 Rows.fnExactLeastThreesSpec Rows.fnExactLeastThreesRow = true := by kernel_rfl
theorem lawLeastThrees_wf : Rows.fnExactLeastThreesRow.wf (OpenSpec.ofChange Rows.fnExactLeastThreesSpec) = true := by kernel_rfl
theorem lawLeastThrees_inPlace : (Rows.fnExactLeastThreesRow.inPlace == Try.prog.inPlace 11) = true := by kernel_rfl
theorem lawLeastThrees_unfollowed : (Rows.fnExactLeastThreesRow.unfollowed == Try.prog.unfollowed 11) = true := by kernel_rfl
theorem lawLeastThrees_recurses : (Rows.fnExactLeastThreesRow.recurses == Try.prog.recurses 11) = true := by kernel_rfl
theorem lawLeastThrees_named : (Rows.fnExactLeastThreesRow.named == Try.prog.varsNamed 11) = true := by kernel_rfl
theorem lawLeastThrees_name : Try.prog.funcNamed Rows.fnExactLeastThreesRow.func = some 11 := by kernel_rfl
theorem lawLeastThrees_wrap : (Try.f11).isWrapper Try.prog Rows.fnExactLeastThreesRow.wrapper Rows.fnExactLeastThreesRow.mainSum := by
  unfold Func.isWrapper
  first | (rw [if_pos (by decide +kernel)]; kernel_rfl) | (rw [if_neg (by decide +kernel)]; exact ⟨rfl, rfl⟩)
theorem lawLeastThrees_joined : joinedFacts Try.prog 11 Try.f11 Rows.fnExactLeastThreesSpec Rows.fnExactLeastThreesRow = true :=
  joined_of lawLeastThrees_wf lawLeastThrees_types lawLeastThrees_inPlace lawLeastThrees_unfollowed lawLeastThrees_recurses lawLeastThrees_named rfl rfl rfl

theorem exactLeastThrees_holds : Rows.FnExactLeastThreesSaid :=
  OpenClaim.holds_of_wide 11 Try.f11 rfl rfl rfl rfl rfl rfl rfl ⟨rfl, rfl, rfl, rfl, rfl⟩ rfl rfl rfl rfl rfl lawLeastThrees_name Try.func11 lawLeastThrees_joined
    (of_decide_eq_true (by kernel_rfl)) lawLeastThrees_wrap
    (fun os started H enc _ => lawLeastThrees_lifted os started H enc)
end Go.Proofs.Ytepoabbkalhifaa
