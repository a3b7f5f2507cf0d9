/-
  For every input that can be read, 'laws.FnExactAreCalls' returns true, and its arguments read afterwards as they read before. Conditions: none.
-/
import Derived.Test.YtgkedgfbncljbaaAreCallsP1
import Derived.Test.YtgkedgfbncljbaaAreCallsP2
namespace Go.Proofs.Ytgkedgfbncljbaa
open Go.ChangeShapes Go.WideShapes Go.ChangeAt Go.RowKit

set_option maxRecDepth 100000 in
theorem lawAreCalls_lifted (os : Os) (started : os.Started) (H : Type) (enc : TypeId × Value → H) :
    ReturnsInHanded {} Try.checked os 10 .any (Rows.fnExactAreCallsSpec.pre6 enc Try.prog Try.f10 Rows.fnExactAreCallsRow.domain false) (Rows.fnExactAreCallsSpec.post enc Try.prog Try.f10 false true false false) := by
  refine returnsInHanded_of_change (C := Try.checked) Try.own started (by kernel_rfl) Try.func10
    (ChangeSpec.witness6 (enc := enc) (C := Try.checked) false ⟨#[], #[.int .i64 0, .slice none 0 0], []⟩ 8 (by kernel_rfl) (by kernel_rfl) (by kernel_rfl) (by kernel_rfl)) ?_
  intro W base args ds gs before hval0 hW _ _
  have hval : ∀ (j : Nat) t v, Try.f10.params[j]? = some t → args[j]? = some v → Value.okWide Try.prog W .any base t v := hval0
  have hW' := hW
  obtain ⟨p, q, hA0, hV, rfl, _, _⟩ := hW
  have hA : DataW.TrodAll enc Try.prog W 0 (fun _ => true) true Try.f10.params.toList args.toList ds p := hA0
  rw [Try.params10] at hA hval
  obtain ⟨v0, v1, d0, d1, p0, p1, rfl, rfl, rfl, h0, h1⟩ := trodAll_two hA
  obtain ⟨rfl, rfl⟩ := trodVars_none hV
  obtain ⟨x0, rfl, _, _, wf0⟩ := open_int Try.underlying3 (hval 0 _ v0 rfl rfl) h0
  obtain ⟨l1, A1, c1, rfl, hl1, hr1⟩ := open_pairs (hval 1 _ v1 rfl rfl) h1
  refine (lawAreCalls_any x0 l1 A1 c1 W hl1 hr1).mono fun e W' ⟨he, hb⟩ => ?_
  subst he
  exact ⟨_, rfl, law_post Try.laidOut (by kernel_rfl) (by kernel_rfl) Try.underlying4 rfl rfl hW' hb⟩

theorem lawAreCalls_types : typeFacts Try.prog Try.f10 Rows.fnExactAreCallsSpec Rows.fnExactAreCallsRow = true := by kernel_rfl
theorem lawAreCalls_wf : Rows.fnExactAreCallsRow.wf (OpenSpec.ofChange Rows.fnExactAreCallsSpec) = true := by kernel_rfl
theorem lawAreCalls_inPlace : (Rows.fnExactAreCallsRow.inPlace == Try.prog.inPlace 10) = true := by kernel_rfl
theorem lawAreCalls_unfollowed : (Rows.fnExactAreCallsRow.unfollowed == Try.prog.unfollowed 10) = true := by kernel_rfl
theorem lawAreCalls_recurses : (Rows.fnExactAreCallsRow.recurses == Try.prog.recurses 10) = true := by kernel_rfl
theorem lawAreCalls_named : (Rows.fnExactAreCallsRow.named == Try.prog.varsNamed 10) = true := by kernel_rfl
theorem lawAreCalls_name : Try.prog.funcNamed Rows.fnExactAreCallsRow.func = some 10 := by kernel_rfl
theorem lawAreCalls_wrap : (Try.f10).isWrapper Try.prog Rows.fnExactAreCallsRow.wrapper Rows.fnExactAreCallsRow.mainSum := by
  unfold Func.isWrapper
  first | (rw [if_pos (by decide +kernel)]; kernel_rfl) | (rw [if_neg (by decide +kernel)]; exact ⟨rfl, rfl⟩)
theorem lawAreCalls_joined : joinedFacts Try.prog 10 Try.f10 Rows.fnExactAreCallsSpec Rows.fnExactAreCallsRow = true :=
  joined_of lawAreCalls_wf lawAreCalls_types lawAreCalls_inPlace lawAreCalls_unfollowed lawAreCalls_recurses lawAreCalls_named rfl rfl rfl

theorem exactAreCalls_holds : Rows.FnExactAreCallsSaid :=
  OpenClaim.holds_of_wide_leaving 10 Try.f10 rfl rfl rfl rfl rfl rfl rfl ⟨rfl, rfl, rfl, rfl, rfl⟩ rfl rfl rfl rfl rfl lawAreCalls_name Try.func10 lawAreCalls_joined
    (of_decide_eq_true (by kernel_rfl)) lawAreCalls_wrap
    (fun os started H enc _ => leaving_of_handed (lawAreCalls_lifted os started H enc))
end Go.Proofs.Ytgkedgfbncljbaa
