/-
  For every input that can be read, 'laws.FnExactCountByNumbers' returns true, and its arguments read afterwards as they read before. Conditions: none.
-/
import Derived.Test.YtaemodpolopcfaaSaid
import Derived.Test.YtaemodpolopcfaaLawCountByNumbers
import Derived.Test.YtaemodpolopcfaaFacts
namespace Go.Proofs.Ytaemodpolopcfaa
open Go.ChangeShapes Go.WideShapes Go.ChangeAt Go.RowKit

set_option maxRecDepth 100000 in
theorem lawCountByNumbers_lifted (os : Os) (started : os.Started) (H : Type) (enc : TypeId × Value → H) :
    ReturnsInHanded {} Try.checked os 7 .any (Rows.fnExactCountByNumbersSpec.pre6 enc Try.prog Try.f7 Rows.fnExactCountByNumbersRow.domain false) (Rows.fnExactCountByNumbersSpec.post enc Try.prog Try.f7 false true false false) := by
  refine returnsInHanded_of_change (C := Try.checked) Try.own started (by kernel_rfl) Try.func7
    (ChangeSpec.witness6 (enc := enc) (C := Try.checked) false ⟨#[], #[.agg #[.int .i64 0, .slice none 0 0]], []⟩ 8 (by kernel_rfl) (by kernel_rfl) (by kernel_rfl) (by kernel_rfl)) ?_
  intro W base args ds gs before hval0 hW _ _
  have hval : ∀ (j : Nat) t v, Try.f7.params[j]? = some t → args[j]? = some v → Value.okWide Try.prog W .any base t v := hval0
  have hW' := hW
  obtain ⟨p, q, hA0, hV, rfl, _, _⟩ := hW
  have hA : DataW.TrodAll enc Try.prog W 0 (fun _ => true) true Try.f7.params.toList args.toList ds p := hA0
  rw [Try.params7] at hA hval
  obtain ⟨v0, d0, rfl, rfl, h0⟩ := trodAll_one hA
  obtain ⟨rfl, rfl⟩ := trodVars_none hV
  obtain ⟨x0, l0, A0, c0, rfl, hl0, hr0⟩ := open_party (hval 0 _ v0 rfl rfl) h0
  refine (lawCountByNumbers_any x0 l0 A0 c0 W hl0 hr0).mono fun e W' ⟨he, hb⟩ => ?_
  subst he
  exact ⟨_, rfl, law_post Try.laidOut (by kernel_rfl) (by kernel_rfl) Try.underlying4 rfl rfl hW' hb⟩

theorem lawCountByNumbers_types : typeFacts Try.prog Try.f7 Rows.fnExactCountByNumbersSpec Rows.fnExactCountByNumbersRow = true := by kernel_rfl
theorem lawCountByNumbers_wf : Rows.fnExactCountByNumbersRow.wf (OpenSpec.ofChange Rows.fnExactCountByNumbersSpec) = true := by kernel_rfl
theorem lawCountByNumbers_inPlace : (Rows.fnExactCountByNumbersRow.inPlace == Try.prog.inPlace 7) = true := by kernel_rfl
theorem lawCountByNumbers_unfollowed : (Rows.fnExactCountByNumbersRow.unfollowed == Try.prog.unfollowed 7) = true := by kernel_rfl
theorem lawCountByNumbers_recurses : (Rows.fnExactCountByNumbersRow.recurses == Try.prog.recurses 7) = true := by kernel_rfl
theorem lawCountByNumbers_named : (Rows.fnExactCountByNumbersRow.named == Try.prog.varsNamed 7) = true := by kernel_rfl
theorem lawCountByNumbers_name : Try.prog.funcNamed Rows.fnExactCountByNumbersRow.func = some 7 := by kernel_rfl
theorem lawCountByNumbers_wrap : (Try.f7).isWrapper Try.prog Rows.fnExactCountByNumbersRow.wrapper Rows.fnExactCountByNumbersRow.mainSum := by
  unfold Func.isWrapper
  first | (rw [if_pos (by decide +kernel)]; kernel_rfl) | (rw [if_neg (by decide +kernel)]; exact ⟨rfl, rfl⟩)
theorem lawCountByNumbers_joined : joinedFacts Try.prog 7 Try.f7 Rows.fnExactCountByNumbersSpec Rows.fnExactCountByNumbersRow = true :=
  joined_of lawCountByNumbers_wf lawCountByNumbers_types lawCountByNumbers_inPlace lawCountByNumbers_unfollowed lawCountByNumbers_recurses lawCountByNumbers_named rfl rfl rfl

theorem exactCountByNumbers_holds : Rows.FnExactCountByNumbersSaid :=
  OpenClaim.holds_of_wide 7 Try.f7 rfl rfl rfl rfl rfl rfl rfl ⟨rfl, rfl, rfl, rfl, rfl⟩ rfl rfl rfl rfl rfl lawCountByNumbers_name Try.func7 lawCountByNumbers_joined
    (of_decide_eq_true (by kernel_rfl)) lawCountByNumbers_wrap
    (fun os started H enc _ => lawCountByNumbers_lifted os started H enc)
end Go.Proofs.Ytaemodpolopcfaa
