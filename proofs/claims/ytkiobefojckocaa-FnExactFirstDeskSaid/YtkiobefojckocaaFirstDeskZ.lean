/-
  For every input that can be read, 'laws.FnExactFirstDesk' returns true, and its arguments read afterwards as they read before. Conditions: none.
-/
import Derived.Test.YtkiobefojckocaaFirstDeskP1
import Derived.Test.YtkiobefojckocaaFirstDeskP2
namespace Go.Proofs.Ytkiobefojckocaa
open Go.ChangeShapes Go.WideShapes Go.ChangeAt Go.RowKit

set_option maxRecDepth 100000 in
theorem lawFirstDesk_lifted (os : Os) (started : os.Started) (H : Type) (enc : TypeId × Value → H) :
    ReturnsInHanded {} Try.checked os 3 .any (Rows.fnExactFirstDeskSpec.pre6 enc Try.prog Try.f3 Rows.fnExactFirstDeskRow.domain false) (Rows.fnExactFirstDeskSpec.post enc Try.prog Try.f3 false true false false) := by
  refine returnsInHanded_of_change (C := Try.checked) Try.own started (by kernel_rfl) Try.func3
    (ChangeSpec.witness6 (enc := enc) (C := Try.checked) false ⟨#[], #[], []⟩ 8 (by kernel_rfl) (by kernel_rfl) (by kernel_rfl) (by kernel_rfl)) ?_
  intro W base args ds gs before hval0 hW _ _
  have hval : ∀ (j : Nat) t v, Try.f3.params[j]? = some t → args[j]? = some v → Value.okWide Try.prog W .any base t v := hval0
  have hW' := hW
  obtain ⟨p, q, hA0, hV, rfl, _, _⟩ := hW
  have hA : DataW.TrodAll enc Try.prog W 0 (fun _ => true) true Try.f3.params.toList args.toList ds p := hA0
  rw [Try.params3] at hA hval
  obtain ⟨ha0, rfl, rfl⟩ := trodAll_nil hA
  have ha1 : args = #[] := by simpa using ha0
  subst ha1
  obtain ⟨rfl, rfl⟩ := trodVars_none hV

  refine (lawFirstDesk_any  W ).mono fun e W' ⟨he, hb⟩ => ?_
  subst he
  exact ⟨_, rfl, law_post Try.laidOut (by kernel_rfl) (by kernel_rfl) Try.underlying4 rfl rfl hW' hb⟩

theorem lawFirstDesk_types : typeFacts Try.prog Try.f3 Rows.fnExactFirstDeskSpec Rows.fnExactFirstDeskRow = true := by kernel_rfl
theorem lawFirstDesk_wf : Rows.fnExactFirstDeskRow.wf (OpenSpec.ofChange Rows.fnExactFirstDeskSpec) = true := by kernel_rfl
theorem lawFirstDesk_inPlace : (Rows.fnExactFirstDeskRow.inPlace == Try.prog.inPlace 3) = true := by kernel_rfl
theorem lawFirstDesk_unfollowed : (Rows.fnExactFirstDeskRow.unfollowed == Try.prog.unfollowed 3) = true := by kernel_rfl
theorem lawFirstDesk_recurses : (Rows.fnExactFirstDeskRow.recurses == Try.prog.recurses 3) = true := by kernel_rfl
theorem lawFirstDesk_named : (Rows.fnExactFirstDeskRow.named == Try.prog.varsNamed 3) = true := by kernel_rfl
theorem lawFirstDesk_name : Try.prog.funcNamed Rows.fnExactFirstDeskRow.func = some 3 := by kernel_rfl
theorem lawFirstDesk_wrap : (Try.f3).isWrapper Try.prog Rows.fnExactFirstDeskRow.wrapper Rows.fnExactFirstDeskRow.mainSum := by
  unfold Func.isWrapper
  first | (rw [if_pos (by decide +kernel)]; kernel_rfl) | (rw [if_neg (by decide +kernel)]; exact ⟨rfl, rfl⟩)
theorem lawFirstDesk_joined : joinedFacts Try.prog 3 Try.f3 Rows.fnExactFirstDeskSpec Rows.fnExactFirstDeskRow = true :=
  joined_of lawFirstDesk_wf lawFirstDesk_types lawFirstDesk_inPlace lawFirstDesk_unfollowed lawFirstDesk_recurses lawFirstDesk_named rfl rfl rfl

theorem exactFirstDesk_holds : Rows.FnExactFirstDeskSaid :=
  OpenClaim.holds_of_wide 3 Try.f3 rfl rfl rfl rfl rfl rfl rfl ⟨rfl, rfl, rfl, rfl, rfl⟩ rfl rfl rfl rfl rfl lawFirstDesk_name Try.func3 lawFirstDesk_joined
    (of_decide_eq_true (by kernel_rfl)) lawFirstDesk_wrap
    (fun os started H enc _ => lawFirstDesk_lifted os started H enc)
end Go.Proofs.Ytkiobefojckocaa
