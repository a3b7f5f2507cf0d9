/-
  For every input that can be read, 'laws.FnExactTwoAlike' returns true, and its arguments read afterwards as they read before. Conditions: none.
-/
import Derived.Test.YtkonibmmdinmbaaSaid
import Derived.Test.YtkonibmmdinmbaaLawTwoAlike
import Derived.Test.YtkonibmmdinmbaaFacts
namespace Go.Proofs.Ytkonibmmdinmbaa
open Go.ChangeShapes Go.WideShapes Go.ChangeAt Go.RowKit

set_option maxRecDepth 100000 in
theorem lawTwoAlike_lifted (os : Os) (started : os.Started) (H : Type) (enc : TypeId × Value → H) :
    ReturnsInHanded {} Try.checked os 23 .any (Rows.fnExactTwoAlikeSpec.pre6 enc Try.prog Try.f23 Rows.fnExactTwoAlikeRow.domain false) (Rows.fnExactTwoAlikeSpec.post enc Try.prog Try.f23 false true false false) := by
  refine returnsInHanded_of_change (C := Try.checked) Try.own started (by kernel_rfl) Try.func23
    (ChangeSpec.witness6 (enc := enc) (C := Try.checked) false ⟨#[], #[.agg #[.int .i64 0, .slice none 0 0]], []⟩ 8 (by kernel_rfl) (by kernel_rfl) (by kernel_rfl) (by kernel_rfl)) ?_
  intro W base args ds gs before hval0 hW _ _
  have hval : ∀ (j : Nat) t v, Try.f23.params[j]? = some t → args[j]? = some v → Value.okWide Try.prog W .any base t v := hval0
  have hW' := hW
  obtain ⟨p, q, hA0, hV, rfl, _, _⟩ := hW
  have hA : DataW.TrodAll enc Try.prog W 0 (fun _ => true) true Try.f23.params.toList args.toList ds p := hA0
  rw [Try.params23] at hA hval
  obtain ⟨v0, d0, rfl, rfl, h0⟩ := trodAll_one hA
  obtain ⟨rfl, rfl⟩ := trodVars_none hV
  obtain ⟨x0, l0, A0, c0, rfl, hl0, hr0⟩ := open_party (hval 0 _ v0 rfl rfl) h0
  refine (lawTwoAlike_any x0 l0 A0 c0 W hl0 hr0).mono fun e W' ⟨he, hb⟩ => ?_
  subst he
  exact ⟨_, rfl, law_post Try.laidOut (by kernel_rfl) (by kernel_rfl) Try.underlying4 rfl rfl hW' hb⟩

theorem lawTwoAlike_types : typeFacts Try.prog Try.f23 Rows.fnExactTwoAlikeSpec Rows.fnExactTwoAlikeRow = true := by kernel_rfl
theorem lawTwoAlike_wf : Rows.fnExactTwoAlikeRow.wf (OpenSpec.ofChange Rows.fnExactTwoAlikeSpec) = true := by kernel_rfl
theorem lawTwoAlike_inPlace : (Rows.fnExactTwoAlikeRow.inPlace == Try.prog.inPlace 23) = true := by kernel_rfl
theorem lawTwoAlike_unfollowed : (Rows.fnExactTwoAlikeRow.unfollowed == Try.prog.unfollowed 23) = true := by kernel_rfl
theorem lawTwoAlike_recurses : (Rows.fnExactTwoAlikeRow.recurses == Try.prog.recurses 23) = true := by kernel_rfl
theorem lawTwoAlike_named : (Rows.fnExactTwoAlikeRow.named == Try.prog.varsNamed 23) = true := by kernel_rfl
theorem lawTwoAlike_name : Try.prog.funcNamed Rows.fnExactTwoAlikeRow.func = some 23 := by kernel_rfl
theorem lawTwoAlike_wrap : (Try.f23).isWrapper Try.prog Rows.fnExactTwoAlikeRow.wrapper Rows.fnExactTwoAlikeRow.mainSum := by
  unfold Func.isWrapper
  first | (rw [if_pos (by decide +kernel)]; kernel_rfl) | (rw [if_neg (by decide +kernel)]; exact ⟨rfl, rfl⟩)
theorem lawTwoAlike_joined : joinedFacts Try.prog 23 Try.f23 Rows.fnExactTwoAlikeSpec Rows.fnExactTwoAlikeRow = true :=
  joined_of lawTwoAlike_wf lawTwoAlike_types lawTwoAlike_inPlace lawTwoAlike_unfollowed lawTwoAlike_recurses lawTwoAlike_named rfl rfl rfl

theorem exactTwoAlike_holds : Rows.FnExactTwoAlikeSaid :=
  OpenClaim.holds_of_wide 23 Try.f23 rfl rfl rfl rfl rfl rfl rfl ⟨rfl, rfl, rfl, rfl, rfl⟩ rfl rfl rfl rfl rfl lawTwoAlike_name Try.func23 lawTwoAlike_joined
    (of_decide_eq_true (by kernel_rfl)) lawTwoAlike_wrap
    (fun os started H enc _ => lawTwoAlike_lifted os started H enc)
end Go.Proofs.Ytkonibmmdinmbaa
