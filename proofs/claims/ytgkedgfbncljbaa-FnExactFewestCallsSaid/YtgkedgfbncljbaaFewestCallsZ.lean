/-
  For every input that can be read, 'laws.FnExactFewestCalls' returns true, and its arguments read afterwards as they read before. Conditions: none.
-/
import Derived.Test.YtgkedgfbncljbaaFewestCallsP1
import Derived.Test.YtgkedgfbncljbaaFewestCallsP2
namespace Go.Proofs.Ytgkedgfbncljbaa
open Go.ChangeShapes Go.WideShapes Go.ChangeAt Go.RowKit

set_option maxRecDepth 100000 in
theorem lawFewestCalls_lifted (os : Os) (started : os.Started) (H : Type) (enc : TypeId × Value → H) :
    ReturnsInHanded {} Try.checked os 12 .any (Rows.fnExactFewestCallsSpec.pre6 enc Try.prog Try.f12 Rows.fnExactFewestCallsRow.domain false) (Rows.fnExactFewestCallsSpec.post enc Try.prog Try.f12 false true false false) := by
  refine returnsInHanded_of_change (C := Try.checked) Try.own started (by kernel_rfl) Try.func12
    (ChangeSpec.witness6 (enc := enc) (C := Try.checked) false ⟨#[], #[.int .i64 0], []⟩ 8 (by kernel_rfl) (by kernel_rfl) (by kernel_rfl) (by kernel_rfl)) ?_
  intro W base args ds gs before hval0 hW _ _
  have hval : ∀ (j : Nat) t v, Try.f12.params[j]? = some t → args[j]? = some v → Value.okWide Try.prog W .any base t v := hval0
  have hW' := hW
  obtain ⟨p, q, hA0, hV, rfl, _, _⟩ := hW
  have hA : DataW.TrodAll enc Try.prog W 0 (fun _ => true) true Try.f12.params.toList args.toList ds p := hA0
  rw [Try.params12] at hA hval
  obtain ⟨v0, d0, rfl, rfl, h0⟩ := trodAll_one hA
  obtain ⟨rfl, rfl⟩ := trodVars_none hV
  obtain ⟨x0, rfl, _, _, wf0⟩ := open_int Try.underlying3 (hval 0 _ v0 rfl rfl) h0
  refine (lawFewestCalls_any x0 W ).mono fun e W' ⟨he, hb⟩ => ?_
  subst he
  exact ⟨_, rfl, law_post Try.laidOut (by kernel_rfl) (by kernel_rfl) Try.underlying4 rfl rfl hW' hb⟩

theorem lawFewestCalls_types : typeFacts Try.prog Try.f12 Rows.fnExactFewestCallsSpec Rows.fnExactFewestCallsRow = true := by kernel_rfl
theorem lawFewestCalls_wf : Rows.fnExactFewestCallsRow.wf (OpenSpec.ofChange Rows.fnExactFewestCallsSpec) = true := by kernel_rfl
theorem lawFewestCalls_inPlace : (Rows.fnExactFewestCallsRow.inPlace == Try.prog.inPlace 12) = true := by kernel_rfl
theorem lawFewestCalls_unfollowed : (Rows.fnExactFewestCallsRow.unfollowed == Try.prog.unfollowed 12) = true := by kernel_rfl
theorem lawFewestCalls_recurses : (Rows.fnExactFewestCallsRow.recurses == Try.prog.recurses 12) = true := by kernel_rfl
theorem lawFewestCalls_named : (Rows.fnExactFewestCallsRow.named == Try.prog.varsNamed 12) = true := by kernel_rfl
theorem lawFewestCalls_name : Try.prog.funcNamed Rows.fnExactFewestCallsRow.func = some 12 := by kernel_rfl
theorem lawFewestCalls_wrap : (Try.f12).isWrapper Try.prog Rows.fnExactFewestCallsRow.wrapper Rows.fnExactFewestCallsRow.mainSum := by
  unfold Func.isWrapper
  first | (rw [if_pos (by decide +kernel)]; kernel_rfl) | (rw [if_neg (by decide +kernel)]; exact ⟨rfl, rfl⟩)
theorem lawFewestCalls_joined : joinedFacts Try.prog 12 Try.f12 Rows.fnExactFewestCallsSpec Rows.fnExactFewestCallsRow = true :=
  joined_of lawFewestCalls_wf lawFewestCalls_types lawFewestCalls_inPlace lawFewestCalls_unfollowed lawFewestCalls_recurses lawFewestCalls_named rfl rfl rfl

theorem exactFewestCalls_holds : Rows.FnExactFewestCallsSaid :=
  OpenClaim.holds_of_wide 12 Try.f12 rfl rfl rfl rfl rfl rfl rfl ⟨rfl, rfl, rfl, rfl, rfl⟩ rfl rfl rfl rfl rfl lawFewestCalls_name Try.func12 lawFewestCalls_joined
    (of_decide_eq_true (by kernel_rfl)) lawFewestCalls_wrap
    (fun os started H enc _ => lawFewestCalls_lifted os started H enc)
end Go.Proofs.Ytgkedgfbncljbaa
