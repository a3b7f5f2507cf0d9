/-
  For every input that can be read, 'laws.FnExactQuestionsForStar' returns true, and its arguments read afterwards as they read before. Conditions: none.
-/
import Derived.Test.YtgkedgfbncljbaaQuestionsForStarP1
import Derived.Test.YtgkedgfbncljbaaQuestionsForStarP5
namespace Go.Proofs.Ytgkedgfbncljbaa
open Go.ChangeShapes Go.WideShapes Go.ChangeAt Go.RowKit

set_option maxRecDepth 100000 in
theorem lawQuestionsForStar_lifted (os : Os) (started : os.Started) (H : Type) (enc : TypeId × Value → H) :
    ReturnsInHanded {} Try.checked os 9 .any (Rows.fnExactQuestionsForStarSpec.pre6 enc Try.prog Try.f9 Rows.fnExactQuestionsForStarRow.domain false) (Rows.fnExactQuestionsForStarSpec.post enc Try.prog Try.f9 false true false false) := by
  refine returnsInHanded_of_change (C := Try.checked) Try.own started (by kernel_rfl) Try.func9
    (ChangeSpec.witness6 (enc := enc) (C := Try.checked) false ⟨#[], #[.slice none 0 0], []⟩ 8 (by kernel_rfl) (by kernel_rfl) (by kernel_rfl) (by kernel_rfl)) ?_
  intro W base args ds gs before hval0 hW _ _
  have hval : ∀ (j : Nat) t v, Try.f9.params[j]? = some t → args[j]? = some v → Value.okWide Try.prog W .any base t v := hval0
  have hW' := hW
  obtain ⟨p, q, hA0, hV, rfl, _, _⟩ := hW
  have hA : DataW.TrodAll enc Try.prog W 0 (fun _ => true) true Try.f9.params.toList args.toList ds p := hA0
  rw [Try.params9] at hA hval
  obtain ⟨v0, d0, rfl, rfl, h0⟩ := trodAll_one hA
  obtain ⟨rfl, rfl⟩ := trodVars_none hV
  obtain ⟨l0, A0, c0, rfl, hl0, hk0, hr0⟩ := open_rows (hval 0 _ v0 rfl rfl) h0
  refine (lawQuestionsForStar_any l0 A0 c0 W hl0 hk0 hr0).mono fun e W' ⟨he, hb⟩ => ?_
  subst he
  exact ⟨_, rfl, law_post Try.laidOut (by kernel_rfl) (by kernel_rfl) Try.underlying4 rfl rfl hW' hb⟩

theorem lawQuestionsForStar_types : typeFacts Try.prog Try.f9 Rows.fnExactQuestionsForStarSpec Rows.fnExactQuestionsForStarRow = true := by kernel_rfl
theorem lawQuestionsForStar_wf : Rows.fnExactQuestionsForStarRow.wf (OpenSpec.ofChange Rows.fnExactQuestionsForStarSpec) = true := by kernel_rfl
theorem lawQuestionsForStar_inPlace : (Rows.fnExactQuestionsForStarRow.inPlace == Try.prog.inPlace 9) = true := by kernel_rfl
theorem lawQuestionsForStar_unfollowed : (Rows.fnExactQuestionsForStarRow.unfollowed == Try.prog.unfollowed 9) = true := by kernel_rfl
theorem lawQuestionsForStar_recurses : (Rows.fnExactQuestionsForStarRow.recurses == Try.prog.recurses 9) = true := by kernel_rfl
theorem lawQuestionsForStar_named : (Rows.fnExactQuestionsForStarRow.named == Try.prog.varsNamed 9) = true := by kernel_rfl
theorem lawQuestionsForStar_name : Try.prog.funcNamed Rows.fnExactQuestionsForStarRow.func = some 9 := by kernel_rfl
theorem lawQuestionsForStar_wrap : (Try.f9).isWrapper Try.prog Rows.fnExactQuestionsForStarRow.wrapper Rows.fnExactQuestionsForStarRow.mainSum := by
  unfold Func.isWrapper
  first | (rw [if_pos (by decide +kernel)]; kernel_rfl) | (rw [if_neg (by decide +kernel)]; exact ⟨rfl, rfl⟩)
theorem lawQuestionsForStar_joined : joinedFacts Try.prog 9 Try.f9 Rows.fnExactQuestionsForStarSpec Rows.fnExactQuestionsForStarRow = true :=
  joined_of lawQuestionsForStar_wf lawQuestionsForStar_types lawQuestionsForStar_inPlace lawQuestionsForStar_unfollowed lawQuestionsForStar_recurses lawQuestionsForStar_named rfl rfl rfl

theorem exactQuestionsForStar_holds : Rows.FnExactQuestionsForStarSaid :=
  OpenClaim.holds_of_wide 9 Try.f9 rfl rfl rfl rfl rfl rfl rfl ⟨rfl, rfl, rfl, rfl, rfl⟩ rfl rfl rfl rfl rfl lawQuestionsForStar_name Try.func9 lawQuestionsForStar_joined
    (of_decide_eq_true (by kernel_rfl)) lawQuestionsForStar_wrap
    (fun os started H enc _ => lawQuestionsForStar_lifted os started H enc)
end Go.Proofs.Ytgkedgfbncljbaa
