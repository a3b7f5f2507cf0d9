/-
  For every input that can be read, 'laws.FnExactSpouseNumber' returns true, and its arguments read afterwards as they read before. Conditions: none.
-/
import Derived.Test.YtgkedgfbncljbaaSpouseNumberP1
import Derived.Test.YtgkedgfbncljbaaSpouseNumberP3
namespace Go.Proofs.Ytgkedgfbncljbaa
open Go.ChangeShapes Go.WideShapes Go.ChangeAt Go.RowKit

set_option maxRecDepth 100000 in
theorem lawSpouseNumber_lifted (os : Os) (started : os.Started) (H : Type) (enc : TypeId × Value → H) :
    ReturnsInHanded {} Try.checked os 6 .any (Rows.fnExactSpouseNumberSpec.pre6 enc Try.prog Try.f6 Rows.fnExactSpouseNumberRow.domain false) (Rows.fnExactSpouseNumberSpec.post enc Try.prog Try.f6 false true false false) := by
  refine returnsInHanded_of_change (C := Try.checked) Try.own started (by kernel_rfl) Try.func6
    (ChangeSpec.witness6 (enc := enc) (C := Try.checked) false ⟨#[], #[.agg #[.int .i64 0, .slice none 0 0]], []⟩ 8 (by kernel_rfl) (by kernel_rfl) (by kernel_rfl) (by kernel_rfl)) ?_
  intro W base args ds gs before hval0 hW _ _
  have hval : ∀ (j : Nat) t v, Try.f6.params[j]? = some t → args[j]? = some v → Value.okWide Try.prog W .any base t v := hval0
  have hW' := hW
  obtain ⟨p, q, hA0, hV, rfl, _, _⟩ := hW
  have hA : DataW.TrodAll enc Try.prog W 0 (fun _ => true) true Try.f6.params.toList args.toList ds p := hA0
  rw [Try.params6] at hA hval
  obtain ⟨v0, d0, rfl, rfl, h0⟩ := trodAll_one hA
  obtain ⟨rfl, rfl⟩ := trodVars_none hV
  obtain ⟨x0, l0, A0, c0, rfl, hl0, hr0⟩ := open_party (hval 0 _ v0 rfl rfl) h0
  refine (lawSpouseNumber_any x0 l0 A0 c0 W hl0 hr0).mono fun e W' ⟨he, hb⟩ => ?_
  subst he
  exact ⟨_, rfl, law_post Try.laidOut (by kernel_rfl) (by kernel_rfl) Try.underlying4 rfl rfl hW' hb⟩

theorem lawSpouseNumber_types : typeFacts Try.prog Try.f6 Rows.fnExactSpouseNumberSpec Rows.fnExactSpouseNumberRow = true := by kernel_rfl
theorem lawSpouseNumber_wf : Rows.fnExactSpouseNumberRow.wf (OpenSpec.ofChange Rows.fnExactSpouseNumberSpec) = true := by kernel_rfl
theorem lawSpouseNumber_inPlace : (Rows.fnExactSpouseNumberRow.inPlace == Try.prog.inPlace 6) = true := by kernel_rfl
theorem lawSpouseNumber_unfollowed : (Rows.fnExactSpouseNumberRow.unfollowed == Try.prog.unfollowed 6) = true := by kernel_rfl
theorem lawSpouseNumber_recurses : (Rows.fnExactSpouseNumberRow.recurses == Try.prog.recurses 6) = true := by kernel_rfl
theorem lawSpouseNumber_named : (Rows.fnExactSpouseNumberRow.named == Try.prog.varsNamed 6) = true := by kernel_rfl
theorem lawSpouseNumber_name : Try.prog.funcNamed Rows.fnExactSpouseNumberRow.func = some 6 := by kernel_rfl
theorem lawSpouseNumber_wrap : (Try.f6).isWrapper Try.prog Rows.fnExactSpouseNumberRow.wrapper Rows.fnExactSpouseNumberRow.mainSum := by
  unfold Func.isWrapper
  first | (rw [if_pos (by decide +kernel)]; kernel_rfl) | (rw [if_neg (by decide +kernel)]; exact ⟨rfl, rfl⟩)
theorem lawSpouseNumber_joined : joinedFacts Try.prog 6 Try.f6 Rows.fnExactSpouseNumberSpec Rows.fnExactSpouseNumberRow = true :=
  joined_of lawSpouseNumber_wf lawSpouseNumber_types lawSpouseNumber_inPlace lawSpouseNumber_unfollowed lawSpouseNumber_recurses lawSpouseNumber_named rfl rfl rfl

theorem exactSpouseNumber_holds : Rows.FnExactSpouseNumberSaid :=
  OpenClaim.holds_of_wide_leaving 6 Try.f6 rfl rfl rfl rfl rfl rfl rfl ⟨rfl, rfl, rfl, rfl, rfl⟩ rfl rfl rfl rfl rfl lawSpouseNumber_name Try.func6 lawSpouseNumber_joined
    (of_decide_eq_true (by kernel_rfl)) lawSpouseNumber_wrap
    (fun os started H enc _ => leaving_of_handed (lawSpouseNumber_lifted os started H enc))
end Go.Proofs.Ytgkedgfbncljbaa
