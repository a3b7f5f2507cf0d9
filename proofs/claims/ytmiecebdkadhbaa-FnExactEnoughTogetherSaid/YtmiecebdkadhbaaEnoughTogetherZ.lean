/-
  For every input that can be read, 'laws.FnExactEnoughTogether' returns true, and its arguments read afterwards as they read before. Conditions: none.
-/
import Derived.Test.YtmiecebdkadhbaaEnoughTogetherP1
import Derived.Test.YtmiecebdkadhbaaEnoughTogetherP3
namespace Go.Proofs.Ytmiecebdkadhbaa
open Go.ChangeShapes Go.WideShapes Go.ChangeAt Go.RowKit

set_option maxRecDepth 100000 in
theorem lawEnoughTogether_lifted (os : Os) (started : os.Started) (H : Type) (enc : TypeId × Value → H) :
    ReturnsInHanded {} Try.checked os 10 .any (Rows.fnExactEnoughTogetherSpec.pre6 enc Try.prog Try.f10 Rows.fnExactEnoughTogetherRow.domain false) (Rows.fnExactEnoughTogetherSpec.post enc Try.prog Try.f10 false true false false) := by
  refine returnsInHanded_of_change (C := Try.checked) Try.own started (by kernel_rfl) Try.func10
    (ChangeSpec.witness6 (enc := enc) (C := Try.checked) false ⟨#[], #[.agg #[.int .i64 0, .slice none 0 0]], []⟩ 8 (by kernel_rfl) (by kernel_rfl) (by kernel_rfl) (by kernel_rfl)) ?_
  intro W base args ds gs before hval0 hW _ _
  have hval : ∀ (j : Nat) t v, Try.f10.params[j]? = some t → args[j]? = some v → Value.okWide Try.prog W .any base t v := hval0
  have hW' := hW
  obtain ⟨p, q, hA0, hV, rfl, _, _⟩ := hW
  have hA : DataW.TrodAll enc Try.prog W 0 (fun _ => true) true Try.f10.params.toList args.toList ds p := hA0
  rw [Try.params10] at hA hval
  obtain ⟨v0, d0, rfl, rfl, h0⟩ := trodAll_one hA
  obtain ⟨rfl, rfl⟩ := trodVars_none hV
  obtain ⟨x0, l0, A0, c0, rfl, hl0, hr0⟩ := open_party (hval 0 _ v0 rfl rfl) h0
  refine (lawEnoughTogether_any x0 l0 A0 c0 W hl0 hr0).mono fun e W' ⟨he, hb⟩ => ?_
  subst he
  exact ⟨_, rfl, law_post Try.laidOut (by kernel_rfl) (by kernel_rfl) Try.underlying4 rfl rfl hW' hb⟩

theorem lawEnoughTogether_types : typeFacts Try.prog Try.f10 Rows.fnExactEnoughTogetherSpec Rows.fnExactEnoughTogetherRow = true := by kernel_rfl
theorem lawEnoughTogether_wf : Rows.fnExactEnoughTogetherRow.wf (OpenSpec.ofChange Rows.fnExactEnoughTogetherSpec) = true := by kernel_rfl
theorem lawEnoughTogether_inPlace : (Rows.fnExactEnoughTogetherRow.inPlace == Try.prog.inPlace 10) = true := by kernel_rfl
theorem lawEnoughTogether_unfollowed : (Rows.fnExactEnoughTogetherRow.unfollowed == Try.prog.unfollowed 10) = true := by kernel_rfl
theorem lawEnoughTogether_recurses : (Rows.fnExactEnoughTogetherRow.recurses == Try.prog.recurses 10) = true := by kernel_rfl
theorem lawEnoughTogether_named : (Rows.fnExactEnoughTogetherRow.named == Try.prog.varsNamed 10) = true := by kernel_rfl
theorem lawEnoughTogether_name : Try.prog.funcNamed Rows.fnExactEnoughTogetherRow.func = some 10 := by kernel_rfl
theorem lawEnoughTogether_wrap : (Try.f10).isWrapper Try.prog Rows.fnExactEnoughTogetherRow.wrapper Rows.fnExactEnoughTogetherRow.mainSum := by
  unfold Func.isWrapper
  first | (rw [if_pos (by decide +kernel)]; kernel_rfl) | (rw [if_neg (by decide +kernel)]; exact ⟨rfl, rfl⟩)
theorem lawEnoughTogether_joined : joinedFacts Try.prog 10 Try.f10 Rows.fnExactEnoughTogetherSpec Rows.fnExactEnoughTogetherRow = true :=
  joined_of lawEnoughTogether_wf lawEnoughTogether_types lawEnoughTogether_inPlace lawEnoughTogether_unfollowed lawEnoughTogether_recurses lawEnoughTogether_named rfl rfl rfl

theorem exactEnoughTogether_holds : Rows.FnExactEnoughTogetherSaid :=
  OpenClaim.holds_of_wide_leaving 10 Try.f10 rfl rfl rfl rfl rfl rfl rfl ⟨rfl, rfl, rfl, rfl, rfl⟩ rfl rfl rfl rfl rfl lawEnoughTogether_name Try.func10 lawEnoughTogether_joined
    (of_decide_eq_true (by kernel_rfl)) lawEnoughTogether_wrap
    (fun os started H enc _ => leaving_of_handed (lawEnoughTogether_lifted os started H enc))
end Go.Proofs.Ytmiecebdkadhbaa
