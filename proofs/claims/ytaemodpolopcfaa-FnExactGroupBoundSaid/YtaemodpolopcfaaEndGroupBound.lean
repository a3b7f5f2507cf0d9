/-
  For every input that can be read, 'laws.FnExactGroupBound' returns true, and its arguments read afterwards as they read before. Conditions: none.
-/
import Derived.Test.YtaemodpolopcfaaLawGroupBound
import Derived.Test.YtaemodpolopcfaaFacts
namespace Go.Proofs.Ytaemodpolopcfaa
open Go.ChangeShapes Go.WideShapes Go.ChangeAt Go.RowKit

set_option maxRecDepth 100000 in
theorem lawGroupBound_lifted (os : Os) (started : os.Started) (H : Type) (enc : TypeId × Value → H) :
    ReturnsInHanded {} Try.checked os 12 .any (Rows.fnExactGroupBoundSpec.pre6 enc Try.prog Try.f12 Rows.fnExactGroupBoundRow.domain false) (Rows.fnExactGroupBoundSpec.post enc Try.prog Try.f12 false true false false) := by
  refine returnsInHanded_of_change (C := Try.checked) Try.own started (by kernel_rfl) Try.func12
    (ChangeSpec.witness6 (enc := enc) (C := Try.checked) false ⟨#[], #[.int .i64 0, .int .i64 0], []⟩ 8 (by kernel_rfl) (by kernel_rfl) (by kernel_rfl) (by kernel_rfl)) ?_
  intro W base args ds gs before hval0 hW _ _
  have hval : ∀ (j : Nat) t v, Try.f12.params[j]? = some t → args[j]? = some v → Value.okWide Try.prog W .any base t v := hval0
  have hW' := hW
  obtain ⟨p, q, hA0, hV, rfl, _, _⟩ := hW
  have hA : DataW.TrodAll enc Try.prog W 0 (fun _ => true) true Try.f12.params.toList args.toList ds p := hA0
  rw [Try.params12] at hA hval
  obtain ⟨v0, v1, d0, d1, p0, p1, rfl, rfl, rfl, h0, h1⟩ := trodAll_two hA
  obtain ⟨rfl, rfl⟩ := trodVars_none hV
  obtain ⟨x0, rfl, _, _, wf0⟩ := open_int Try.underlying3 (hval 0 _ v0 rfl rfl) h0
  obtain ⟨x1, rfl, _, _, wf1⟩ := open_int Try.underlying3 (hval 1 _ v1 rfl rfl) h1
  refine (lawGroupBound_any x0 x1 W ).mono fun e W' ⟨he, hb⟩ => ?_
  subst he
  exact ⟨_, rfl, law_post Try.laidOut (by kernel_rfl) (by kernel_rfl) Try.underlying4 rfl rfl hW' hb⟩

theorem lawGroupBound_types : typeFacts Try.prog Try.f12 Rows.fnExactGroupBoundSpec Rows.fnExactGroupBoundRow = true := by kernel_rfl
theorem lawGroupBound_wf : Rows.fnExactGroupBoundRow.wf (OpenSpec.ofChange Rows.fnExactGroupBoundSpec) = true := by kernel_rfl
theorem lawGroupBound_inPlace : (Rows.fnExactGroupBoundRow.inPlace == Try.prog.inPlace 12) = true := by kernel_rfl
theorem lawGroupBound_unfollowed : (Rows.fnExactGroupBoundRow.unfollowed == Try.prog.unfollowed 12) = true := by kernel_rfl
theorem lawGroupBound_recurses : (Rows.fnExactGroupBoundRow.recurses == Try.prog.recurses 12) = true := by kernel_rfl
theorem lawGroupBound_named : (Rows.fnExactGroupBoundRow.named == Try.prog.varsNamed 12) = true := by kernel_rfl
theorem lawGroupBound_name : Try.prog.funcNamed Rows.fnExactGroupBoundRow.func = some 12 := by kernel_rfl
theorem lawGroupBound_wrap : (Try.f12).isWrapper Try.prog Rows.fnExactGroupBoundRow.wrapper Rows.fnExactGroupBoundRow.mainSum := by
  unfold Func.isWrapper
  first | (rw [if_pos (by decide +kernel)]; kernel_rfl) | (rw [if_neg (by decide +kernel)]; exact ⟨rfl, rfl⟩)
theorem lawGroupBound_joined : joinedFacts Try.prog 12 Try.f12 Rows.fnExactGroupBoundSpec Rows.fnExactGroupBoundRow = true :=
  joined_of lawGroupBound_wf lawGroupBound_types lawGroupBound_inPlace lawGroupBound_unfollowed lawGroupBound_recurses lawGroupBound_named rfl rfl rfl

theorem exactGroupBound_holds : Rows.FnExactGroupBoundSaid :=
  OpenClaim.holds_of_wide 12 Try.f12 rfl rfl rfl rfl rfl rfl rfl ⟨rfl, rfl, rfl, rfl, rfl⟩ rfl rfl rfl rfl rfl lawGroupBound_name Try.func12 lawGroupBound_joined
    (of_decide_eq_true (by kernel_rfl)) lawGroupBound_wrap
    (fun os started H enc _ => lawGroupBound_lifted os started H enc)
end Go.Proofs.Ytaemodpolopcfaa
