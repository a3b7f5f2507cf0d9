/-
  For every input that can be read, 'laws.FnExactStrangersBeside' returns true, and its arguments read afterwards as they read before. Conditions: none.
-/
import Derived.Test.YtmiecebdkadhbaaStrangersBesideP1
import Derived.Test.YtmiecebdkadhbaaStrangersBesideP6
namespace Go.Proofs.Ytmiecebdkadhbaa
open Go.ChangeShapes Go.WideShapes Go.ChangeAt Go.RowKit

set_option maxRecDepth 100000 in
theorem lawStrangersBeside_lifted (os : Os) (started : os.Started) (H : Type) (enc : TypeId × Value → H) :
    ReturnsInHanded {} Try.checked os 5 .any (Rows.fnExactStrangersBesideSpec.pre6 enc Try.prog Try.f5 Rows.fnExactStrangersBesideRow.domain false) (Rows.fnExactStrangersBesideSpec.post enc Try.prog Try.f5 false true false false) := by
  refine returnsInHanded_of_change (C := Try.checked) Try.own started (by kernel_rfl) Try.func5
    (ChangeSpec.witness6 (enc := enc) (C := Try.checked) false ⟨#[], #[.agg #[.int .i64 0, .slice none 0 0], .slice none 0 0], []⟩ 8 (by kernel_rfl) (by kernel_rfl) (by kernel_rfl) (by kernel_rfl)) ?_
  intro W base args ds gs before hval0 hW _ _
  have hval : ∀ (j : Nat) t v, Try.f5.params[j]? = some t → args[j]? = some v → Value.okWide Try.prog W .any base t v := hval0
  have hW' := hW
  obtain ⟨p, q, hA0, hV, rfl, _, _⟩ := hW
  have hA : DataW.TrodAll enc Try.prog W 0 (fun _ => true) true Try.f5.params.toList args.toList ds p := hA0
  rw [Try.params5] at hA hval
  obtain ⟨v0, v1, d0, d1, p0, p1, rfl, rfl, rfl, h0, h1⟩ := trodAll_two hA
  obtain ⟨rfl, rfl⟩ := trodVars_none hV
  obtain ⟨x0, l0, A0, c0, rfl, hl0, hr0⟩ := open_party (hval 0 _ v0 rfl rfl) h0
  obtain ⟨l1, A1, c1, rfl, hl1, hr1⟩ := open_list (hval 1 _ v1 rfl rfl) h1
  refine (lawStrangersBeside_any x0 l0 A0 c0 l1 A1 c1 W hl0 hr0 hl1 hr1).mono fun e W' ⟨he, hb⟩ => ?_
  subst he
  exact ⟨_, rfl, law_post Try.laidOut (by kernel_rfl) (by kernel_rfl) Try.underlying4 rfl rfl hW' hb⟩

theorem lawStrangersBeside_types : typeFacts Try.prog Try.f5 Rows.fnExactStrangersBesideSpec Rows.fnExactStrangersBesideRow = true := by kernel_rfl
theorem lawStrangersBeside_wf : Rows.fnExactStrangersBesideRow.wf (OpenSpec.ofChange Rows.fnExactStrangersBesideSpec) = true := by kernel_rfl
theorem lawStrangersBeside_inPlace : (Rows.fnExactStrangersBesideRow.inPlace == Try.prog.inPlace 5) = true := by kernel_rfl
theorem lawStrangersBeside_unfollowed : (Rows.fnExactStrangersBesideRow.unfollowed == Try.prog.unfollowed 5) = true := by kernel_rfl
theorem lawStrangersBeside_recurses : (Rows.fnExactStrangersBesideRow.recurses == Try.prog.recurses 5) = true := by kernel_rfl
theorem lawStrangersBeside_named : (Rows.fnExactStrangersBesideRow.named == Try.prog.varsNamed 5) = true := by kernel_rfl
theorem lawStrangersBeside_name : Try.prog.funcNamed Rows.fnExactStrangersBesideRow.func = some 5 := by kernel_rfl
theorem lawStrangersBeside_wrap : (Try.f5).isWrapper Try.prog Rows.fnExactStrangersBesideRow.wrapper Rows.fnExactStrangersBesideRow.mainSum := by
  unfold Func.isWrapper
  first | (rw [if_pos (by decide +kernel)]; kernel_rfl) | (rw [if_neg (by decide +kernel)]; exact ⟨rfl, rfl⟩)
theorem lawStrangersBeside_joined : joinedFacts Try.prog 5 Try.f5 Rows.fnExactStrangersBesideSpec Rows.fnExactStrangersBesideRow = true :=
  joined_of lawStrangersBeside_wf lawStrangersBeside_types lawStrangersBeside_inPlace lawStrangersBeside_unfollowed lawStrangersBeside_recurses lawStrangersBeside_named rfl rfl rfl

theorem exactStrangersBeside_holds : Rows.FnExactStrangersBesideSaid :=
  OpenClaim.holds_of_wide 5 Try.f5 rfl rfl rfl rfl rfl rfl rfl ⟨rfl, rfl, rfl, rfl, rfl⟩ rfl rfl rfl rfl rfl lawStrangersBeside_name Try.func5 lawStrangersBeside_joined
    (of_decide_eq_true (by kernel_rfl)) lawStrangersBeside_wrap
    (fun os started H enc _ => lawStrangersBeside_lifted os started H enc)
end Go.Proofs.Ytmiecebdkadhbaa
