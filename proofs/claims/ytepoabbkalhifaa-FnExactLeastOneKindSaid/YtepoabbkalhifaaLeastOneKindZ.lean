/-
  For every input that can be read, 'laws.FnExactLeastOneKind' returns true, and its arguments read afterwards as they read before. Conditions: none.
-/
import Derived.Test.YtepoabbkalhifaaLeastOneKindP2
namespace Go.Proofs.Ytepoabbkalhifaa
open Go.ChangeShapes Go.WideShapes Go.ChangeAt Go.RowKit

set_option maxRecDepth 100000 in
theorem lawLeastOneKind_lifted (os : Os) (started : os.Started) (H : Type) (enc : TypeId × Value → H) :
    ReturnsInHanded {} Try.checked os 16 .any (Rows.fnExactLeastOneKindSpec.pre6 enc Try.prog Try.f16 Rows.fnExactLeastOneKindRow.domain false) (Rows.fnExactLeastOneKindSpec.post enc Try.prog Try.f16 false true false false) := by
  refine returnsInHanded_of_change (C := Try.checked) Try.own started (by kernel_rfl) Try.func16
    (ChangeSpec.witness6 (enc := enc) (C := Try.checked) false ⟨#[], #[.int .i64 0], []⟩ 8 (by kernel_rfl) (by kernel_rfl) (by kernel_rfl) (by kernel_rfl)) ?_
  intro W base args ds gs before hval0 hW _ _
  have hval : ∀ (j : Nat) t v, Try.f16.params[j]? = some t → args[j]? = some v → Value.okWide Try.prog W .any base t v := hval0
  have hW' := hW
  obtain ⟨p, q, hA0, hV, rfl, _, _⟩ := hW
  have hA : DataW.TrodAll enc Try.prog W 0 (fun _ => true) true Try.f16.params.toList args.toList ds p := hA0
  rw [Try.params16] at hA hval
  obtain ⟨v0, d0, rfl, rfl, h0⟩ := trodAll_one hA
  obtain ⟨rfl, rfl⟩ := trodVars_none hV
  obtain ⟨x0, rfl, _, _, wf0⟩ := open_int Try.underlying3 (hval 0 _ v0 rfl rfl) h0
  refine (lawLeastOneKind_any x0 W ).mono fun e W' ⟨he, hb⟩ => ?_
  subst he
  exact ⟨_, rfl, law_post Try.laidOut (by kernel_rfl) (by kernel_rfl) Try.underlying4 rfl rfl hW' hb⟩

theorem lawLeastOneKind_types : typeFacts Try.prog Try.f16 Rows.fnExactLeastOneKindSpec Rows.fnExactLeastOneKindRow = true := by kernel_rfl
theorem lawLeastOneKind_wf : Rows.fnExactLeastOneKindRow.wf (OpenSpec.ofChange Rows.fnExactLeastOneKindSpec) = true := by kernel_rfl
theorem lawLeastOneKind_inPlace : (Rows.fnExactLeastOneKindRow.inPlace == Try.prog.inPlace 16) = true := by kernel_rfl
theorem lawLeastOneKind_unfollowed : (Rows.fnExactLeastOneKindRow.unfollowed == Try.prog.unfollowed 16) = true := by kernel_rfl
theorem lawLeastOneKind_recurses : (Rows.fnExactLeastOneKindRow.recurses == Try.prog.recurses 16) = true := by kernel_rfl
theorem lawLeastOneKind_named : (Rows.fnExactLeastOneKindRow.named == Try.prog.varsNamed 16) = true := by kernel_rfl
theorem lawLeastOneKind_name : Try.prog.funcNamed Rows.fnExactLeastOneKindRow.func = some 16 := by kernel_rfl
theorem lawLeastOneKind_wrap : (Try.f16).isWrapper Try.prog Rows.fnExactLeastOneKindRow.wrapper Rows.fnExactLeastOneKindRow.mainSum := by
  unfold Func.isWrapper
  first | (rw [if_pos (by decide +kernel)]; kernel_rfl) | (rw [if_neg (by decide +kernel)]; exact ⟨rfl, rfl⟩)
theorem lawLeastOneKind_joined : joinedFacts Try.prog 16 Try.f16 Rows.fnExactLeastOneKindSpec Rows.fnExactLeastOneKindRow = true :=
  joined_of lawLeastOneKind_wf lawLeastOneKind_types lawLeastOneKind_inPlace lawLeastOneKind_unfollowed lawLeastOneKind_recurses lawLeastOneKind_named rfl rfl rfl

theorem exactLeastOneKind_holds : Rows.FnExactLeastOneKindSaid :=
  OpenClaim.holds_of_wide 16 Try.f16 rfl rfl rfl rfl rfl rfl rfl ⟨rfl, rfl, rfl, rfl, rfl⟩ rfl rfl rfl rfl rfl lawLeastOneKind_name Try.func16 lawLeastOneKind_joined
    (of_decide_eq_true (by kernel_rfl)) lawLeastOneKind_wrap
    (fun os started H enc _ => lawLeastOneKind_lifted os started H enc)
end Go.Proofs.Ytepoabbkalhifaa
