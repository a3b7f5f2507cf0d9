/-
  For every input that can be read, 'laws.FnExactRoundCalls' returns true, and its arguments read afterwards as they read before. Conditions: none.
-/
import Derived.Test.YtgkedgfbncljbaaRoundCallsP1
import Derived.Test.YtgkedgfbncljbaaRoundCallsP3
namespace Go.Proofs.Ytgkedgfbncljbaa
open Go.ChangeShapes Go.WideShapes Go.ChangeAt Go.RowKit

set_option maxRecDepth 100000 in
theorem lawRoundCalls_lifted (os : Os) (started : os.Started) (H : Type) (enc : TypeId × Value → H) :
    ReturnsInHanded {} Try.checked os 17 .any (Rows.fnExactRoundCallsSpec.pre6 enc Try.prog Try.f17 Rows.fnExactRoundCallsRow.domain false) (Rows.fnExactRoundCallsSpec.post enc Try.prog Try.f17 false true false false) := by
  refine returnsInHanded_of_change (C := Try.checked) Try.own started (by kernel_rfl) Try.func17
    (ChangeSpec.witness6 (enc := enc) (C := Try.checked) false ⟨#[], #[.int .i64 0], []⟩ 8 (by kernel_rfl) (by kernel_rfl) (by kernel_rfl) (by kernel_rfl)) ?_
  intro W base args ds gs before hval0 hW _ _
  have hval : ∀ (j : Nat) t v, Try.f17.params[j]? = some t → args[j]? = some v → Value.okWide Try.prog W .any base t v := hval0
  have hW' := hW
  obtain ⟨p, q, hA0, hV, rfl, _, _⟩ := hW
  have hA : DataW.TrodAll enc Try.prog W 0 (fun _ => true) true Try.f17.params.toList args.toList ds p := hA0
  rw [Try.params17] at hA hval
  obtain ⟨v0, d0, rfl, rfl, h0⟩ := trodAll_one hA
  obtain ⟨rfl, rfl⟩ := trodVars_none hV
  obtain ⟨x0, rfl, _, _, wf0⟩ := open_int Try.underlying3 (hval 0 _ v0 rfl rfl) h0
  refine (lawRoundCalls_any x0 W ).mono fun e W' ⟨he, hb⟩ => ?_
  subst he
  exact ⟨_, rfl, law_post Try.laidOut (by kernel_rfl) (by kernel_rfl) Try.underlying4 rfl rfl hW' hb⟩

theorem lawRoundCalls_types : typeFacts Try.prog Try.f17 Rows.fnExactRoundCallsSpec Rows.fnExactRoundCallsRow = true := by kernel_rfl
theorem lawRoundCalls_wf : Rows.fnExactRoundCallsRow.wf (OpenSpec.ofChange Rows.fnExactRoundCallsSpec) = true := by kernel_rfl
theorem lawRoundCalls_inPlace : (Rows.fnExactRoundCallsRow.inPlace == Try.prog.inPlace 17) = true := by kernel_rfl
theorem lawRoundCalls_unfollowed : (Rows.fnExactRoundCallsRow.unfollowed == Try.prog.unfollowed 17) = true := by kernel_rfl
theorem lawRoundCalls_recurses : (Rows.fnExactRoundCallsRow.recurses == Try.prog.recurses 17) = true := by kernel_rfl
theorem lawRoundCalls_named : (Rows.fnExactRoundCallsRow.named == Try.prog.varsNamed 17) = true := by kernel_rfl
theorem lawRoundCalls_name : Try.prog.funcNamed Rows.fnExactRoundCallsRow.func = some 17 := by kernel_rfl
theorem lawRoundCalls_wrap : (Try.f17).isWrapper Try.prog Rows.fnExactRoundCallsRow.wrapper Rows.fnExactRoundCallsRow.mainSum := by
  unfold Func.isWrapper
  first | (rw [if_pos (by decide +kernel)]; kernel_rfl) | (rw [if_neg (by decide +kernel)]; exact ⟨rfl, rfl⟩)
theorem lawRoundCalls_joined : joinedFacts Try.prog 17 Try.f17 Rows.fnExactRoundCallsSpec Rows.fnExactRoundCallsRow = true :=
  joined_of lawRoundCalls_wf lawRoundCalls_types lawRoundCalls_inPlace lawRoundCalls_unfollowed lawRoundCalls_recurses lawRoundCalls_named rfl rfl rfl

theorem exactRoundCalls_holds : Rows.FnExactRoundCallsSaid :=
  OpenClaim.holds_of_wide 17 Try.f17 rfl rfl rfl rfl rfl rfl rfl ⟨rfl, rfl, rfl, rfl, rfl⟩ rfl rfl rfl rfl rfl lawRoundCalls_name Try.func17 lawRoundCalls_joined
    (of_decide_eq_true (by kernel_rfl)) lawRoundCalls_wrap
    (fun os started H enc _ => lawRoundCalls_lifted os started H enc)
end Go.Proofs.Ytgkedgfbncljbaa
