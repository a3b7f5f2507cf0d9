/-
  For every input that can be read, 'laws.FnExactFewestGroups' returns true, and its arguments read afterwards as they read before. Conditions: none.
-/
import Derived.Test.YthddlpghjkiioaaFewestGroupsP1
import Derived.Test.YthddlpghjkiioaaFewestGroupsP6
namespace Go.Proofs.Ythddlpghjkiioaa
open Go.ChangeShapes Go.WideShapes Go.ChangeAt Go.RowKit

set_option maxRecDepth 100000 in
theorem lawFewestGroups_lifted (os : Os) (started : os.Started) (H : Type) (enc : TypeId × Value → H) :
    ReturnsInHanded {} Try.checked os 7 .any (Rows.fnExactFewestGroupsSpec.pre6 enc Try.prog Try.f7 Rows.fnExactFewestGroupsRow.domain false) (Rows.fnExactFewestGroupsSpec.post enc Try.prog Try.f7 false true false false) := by
  refine returnsInHanded_of_change (C := Try.checked) Try.own started (by kernel_rfl) Try.func7
    (ChangeSpec.witness6 (enc := enc) (C := Try.checked) false ⟨#[], #[.agg #[.int .i64 0, .slice none 0 0]], []⟩ 8 (by kernel_rfl) (by kernel_rfl) (by kernel_rfl) (by kernel_rfl)) ?_
  intro W base args ds gs before hval0 hW _ _
  have hval : ∀ (j : Nat) t v, Try.f7.params[j]? = some t → args[j]? = some v → Value.okWide Try.prog W .any base t v := hval0
  have hW' := hW
  obtain ⟨p, q, hA0, hV, rfl, _, _⟩ := hW
  have hA : DataW.TrodAll enc Try.prog W 0 (fun _ => true) true Try.f7.params.toList args.toList ds p := hA0
  rw [Try.params7] at hA hval
  obtain ⟨v0, d0, rfl, rfl, h0⟩ := trodAll_one hA
  obtain ⟨rfl, rfl⟩ := trodVars_none hV
  obtain ⟨x0, l0, A0, c0, rfl, hl0, hr0⟩ := open_party (hval 0 _ v0 rfl rfl) h0
  refine (lawFewestGroups_any x0 l0 A0 c0 W hl0 hr0).mono fun e W' ⟨he, hb⟩ => ?_
  subst he
  exact ⟨_, rfl, law_post Try.laidOut (by kernel_rfl) (by kernel_rfl) Try.underlying4 rfl rfl hW' hb⟩

theorem lawFewestGroups_types : typeFacts Try.prog Try.f7 Rows.fnExactFewestGroupsSpec Rows.fnExactFewestGroupsRow = true := by kernel_rfl
theorem lawFewestGroups_wf : Rows.fnExactFewestGroupsRow.wf (OpenSpec.ofChange Rows.fnExactFewestGroupsSpec) = true := by kernel_rfl
theorem lawFewestGroups_inPlace : (Rows.fnExactFewestGroupsRow.inPlace == Try.prog.inPlace 7) = true := by kernel_rfl
theorem lawFewestGroups_unfollowed : (Rows.fnExactFewestGroupsRow.unfollowed == Try.prog.unfollowed 7) = true := by kernel_rfl
theorem lawFewestGroups_recurses : (Rows.fnExactFewestGroupsRow.recurses == Try.prog.recurses 7) = true := by kernel_rfl
theorem lawFewestGroups_named : (Rows.fnExactFewestGroupsRow.named == Try.prog.varsNamed 7) = true := by kernel_rfl
theorem lawFewestGroups_name : Try.prog.funcNamed Rows.fnExactFewestGroupsRow.func = some 7 := by kernel_rfl
theorem lawFewestGroups_wrap : (Try.f7).isWrapper Try.prog Rows.fnExactFewestGroupsRow.wrapper Rows.fnExactFewestGroupsRow.mainSum := by
  unfold Func.isWrapper
  first | (rw [if_pos (by decide +kernel)]; kernel_rfl) | (rw [if_neg (by decide +kernel)]; exact ⟨rfl, rfl⟩)
theorem lawFewestGroups_joined : joinedFacts Try.prog 7 Try.f7 Rows.fnExactFewestGroupsSpec Rows.fnExactFewestGroupsRow = true :=
  joined_of lawFewestGroups_wf lawFewestGroups_types lawFewestGroups_inPlace lawFewestGroups_unfollowed lawFewestGroups_recurses lawFewestGroups_named rfl rfl rfl

theorem exactFewestGroups_holds : Rows.FnExactFewestGroupsSaid :=
  OpenClaim.holds_of_wide 7 Try.f7 rfl rfl rfl rfl rfl rfl rfl ⟨rfl, rfl, rfl, rfl, rfl⟩ rfl rfl rfl rfl rfl lawFewestGroups_name Try.func7 lawFewestGroups_joined
    (of_decide_eq_true (by kernel_rfl)) lawFewestGroups_wrap
    (fun os started H enc _ => lawFewestGroups_lifted os started H enc)
end Go.Proofs.Ythddlpghjkiioaa
