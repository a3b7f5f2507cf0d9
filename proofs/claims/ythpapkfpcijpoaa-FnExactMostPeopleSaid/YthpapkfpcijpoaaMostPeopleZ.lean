/-
  For every input that can be read, 'laws.FnExactMostPeople' returns true, and its arguments read afterwards as they read before. Conditions: none.
-/
import Derived.Test.YthpapkfpcijpoaaMostPeopleP1
namespace Go.Proofs.Ythpapkfpcijpoaa
open Go.ChangeShapes Go.WideShapes Go.ChangeAt Go.RowKit

set_option maxRecDepth 100000 in
theorem lawMostPeople_lifted (os : Os) (started : os.Started) (H : Type) (enc : TypeId × Value → H) :
    ReturnsInHanded {} Try.checked os 13 .any (Rows.fnExactMostPeopleSpec.pre6 enc Try.prog Try.f13 Rows.fnExactMostPeopleRow.domain false) (Rows.fnExactMostPeopleSpec.post enc Try.prog Try.f13 false true false false) := by
  refine returnsInHanded_of_change (C := Try.checked) Try.own started (by kernel_rfl) Try.func13
    (ChangeSpec.witness6 (enc := enc) (C := Try.checked) false ⟨#[], #[.int .i64 0, .int .i64 0], []⟩ 8 (by kernel_rfl) (by kernel_rfl) (by kernel_rfl) (by kernel_rfl)) ?_
  intro W base args ds gs before hval0 hW _ _
  have hval : ∀ (j : Nat) t v, Try.f13.params[j]? = some t → args[j]? = some v → Value.okWide Try.prog W .any base t v := hval0
  have hW' := hW
  obtain ⟨p, q, hA0, hV, rfl, _, _⟩ := hW
  have hA : DataW.TrodAll enc Try.prog W 0 (fun _ => true) true Try.f13.params.toList args.toList ds p := hA0
  rw [Try.params13] at hA hval
  obtain ⟨v0, v1, d0, d1, p0, p1, rfl, rfl, rfl, h0, h1⟩ := trodAll_two hA
  obtain ⟨rfl, rfl⟩ := trodVars_none hV
  obtain ⟨x0, rfl, _, _, wf0⟩ := open_int Try.underlying3 (hval 0 _ v0 rfl rfl) h0
  obtain ⟨x1, rfl, _, _, wf1⟩ := open_int Try.underlying3 (hval 1 _ v1 rfl rfl) h1
  refine (lawMostPeople_any x0 x1 W ).mono fun e W' ⟨he, hb⟩ => ?_
  subst he
  exact ⟨_, rfl, law_post Try.laidOut (by kernel_rfl) (by kernel_rfl) Try.underlying4 rfl rfl hW' hb⟩

theorem lawMostPeople_types : typeFacts Try.prog Try.f13 Rows.fnExactMostPeopleSpec Rows.fnExactMostPeopleRow = true := by kernel_rfl
theorem lawMostPeople_wf : Rows.fnExactMostPeopleRow.wf (OpenSpec.ofChange Rows.fnExactMostPeopleSpec) = true := by kernel_rfl
theorem lawMostPeople_inPlace : (Rows.fnExactMostPeopleRow.inPlace == Try.prog.inPlace 13) = true := by kernel_rfl
theorem lawMostPeople_unfollowed : (Rows.fnExactMostPeopleRow.unfollowed == Try.prog.unfollowed 13) = true := by kernel_rfl
theorem lawMostPeople_recurses : (Rows.fnExactMostPeopleRow.recurses == Try.prog.recurses 13) = true := by kernel_rfl
theorem lawMostPeople_named : (Rows.fnExactMostPeopleRow.named == Try.prog.varsNamed 13) = true := by kernel_rfl
theorem lawMostPeople_name : Try.prog.funcNamed Rows.fnExactMostPeopleRow.func = some 13 := by kernel_rfl
theorem lawMostPeople_wrap : (Try.f13).isWrapper Try.prog Rows.fnExactMostPeopleRow.wrapper Rows.fnExactMostPeopleRow.mainSum := by
  unfold Func.isWrapper
  first | (rw [if_pos (by decide +kernel)]; kernel_rfl) | (rw [if_neg (by decide +kernel)]; exact ⟨rfl, rfl⟩)
theorem lawMostPeople_joined : joinedFacts Try.prog 13 Try.f13 Rows.fnExactMostPeopleSpec Rows.fnExactMostPeopleRow = true :=
  joined_of lawMostPeople_wf lawMostPeople_types lawMostPeople_inPlace lawMostPeople_unfollowed lawMostPeople_recurses lawMostPeople_named rfl rfl rfl

theorem exactMostPeople_holds : Rows.FnExactMostPeopleSaid :=
  OpenClaim.holds_of_wide 13 Try.f13 rfl rfl rfl rfl rfl rfl rfl ⟨rfl, rfl, rfl, rfl, rfl⟩ rfl rfl rfl rfl rfl lawMostPeople_name Try.func13 lawMostPeople_joined
    (of_decide_eq_true (by kernel_rfl)) lawMostPeople_wrap
    (fun os started H enc _ => lawMostPeople_lifted os started H enc)
end Go.Proofs.Ythpapkfpcijpoaa
