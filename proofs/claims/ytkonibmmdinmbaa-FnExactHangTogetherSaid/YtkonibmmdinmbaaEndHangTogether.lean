/-
  For every input that can be read, 'laws.FnExactHangTogether' returns true, and its arguments read afterwards as they read before. Conditions: none.
-/
import Derived.Test.YtkonibmmdinmbaaOpenL
import Derived.Test.YtkonibmmdinmbaaLawHangTogether
import Derived.Test.YtkonibmmdinmbaaFacts
namespace Go.Proofs.Ytkonibmmdinmbaa
open Go.ChangeShapes Go.WideShapes Go.ChangeAt Go.RowKit

set_option maxRecDepth 100000 in
theorem lawHangTogether_lifted (os : Os) (started : os.Started) (H : Type) (enc : TypeId × Value → H) :
    ReturnsInHanded {} Try.checked os 24 .any (Rows.fnExactHangTogetherSpec.pre6 enc Try.prog Try.f24 Rows.fnExactHangTogetherRow.domain false) (Rows.fnExactHangTogetherSpec.post enc Try.prog Try.f24 false true false false) := by
  refine returnsInHanded_of_change (C := Try.checked) Try.own started (by kernel_rfl) Try.func24
    (ChangeSpec.witness6 (enc := enc) (C := Try.checked) false ⟨#[], #[.slice none 0 0], []⟩ 8 (by kernel_rfl) (by kernel_rfl) (by kernel_rfl) (by kernel_rfl)) ?_
  intro W base args ds gs before hval0 hW _ _
  have hval : ∀ (j : Nat) t v, Try.f24.params[j]? = some t → args[j]? = some v → Value.okWide Try.prog W .any base t v := hval0
  have hW' := hW
  obtain ⟨p, q, hA0, hV, rfl, _, _⟩ := hW
  have hA : DataW.TrodAll enc Try.prog W 0 (fun _ => true) true Try.f24.params.toList args.toList ds p := hA0
  rw [Try.params24] at hA hval
  obtain ⟨v0, d0, rfl, rfl, h0⟩ := trodAll_one hA
  obtain ⟨rfl, rfl⟩ := trodVars_none hV
  obtain ⟨l0, A0, c0, rfl, hl0, hr0⟩ := open_list (hval 0 _ v0 rfl rfl) h0
  refine (lawHangTogether_any l0 A0 c0 W hl0 hr0).mono fun e W' ⟨he, hb⟩ => ?_
  subst he
  exact ⟨_, rfl, law_post Try.laidOut (by kernel_rfl) (by kernel_rfl) Try.underlying4 rfl rfl hW' hb⟩

theorem lawHangTogether_types : typeFacts Try.prog Try.f24 Rows.fnExactHangTogetherSpec Rows.fnExactHangTogetherRow = true := by kernel_rfl
theorem lawHangTogether_wf : Rows.fnExactHangTogetherRow.wf (OpenSpec.ofChange Rows.fnExactHangTogetherSpec) = true := by kernel_rfl
theorem lawHangTogether_inPlace : (Rows.fnExactHangTogetherRow.inPlace == Try.prog.inPlace 24) = true := by kernel_rfl
theorem lawHangTogether_unfollowed : (Rows.fnExactHangTogetherRow.unfollowed == Try.prog.unfollowed 24) = true := by kernel_rfl
theorem lawHangTogether_recurses : (Rows.fnExactHangTogetherRow.recurses == Try.prog.recurses 24) = true := by kernel_rfl
theorem lawHangTogether_named : (Rows.fnExactHangTogetherRow.named == Try.prog.varsNamed 24) = true := by kernel_rfl
theorem lawHangTogether_name : Try.prog.funcNamed Rows.fnExactHangTogetherRow.func = some 24 := by kernel_rfl
theorem lawHangTogether_wrap : (Try.f24).isWrapper Try.prog Rows.fnExactHangTogetherRow.wrapper Rows.fnExactHangTogetherRow.mainSum := by
  unfold Func.isWrapper
  first | (rw [if_pos (by decide +kernel)]; kernel_rfl) | (rw [if_neg (by decide +kernel)]; exact ⟨rfl, rfl⟩)
theorem lawHangTogether_joined : joinedFacts Try.prog 24 Try.f24 Rows.fnExactHangTogetherSpec Rows.fnExactHangTogetherRow = true :=
  joined_of lawHangTogether_wf lawHangTogether_types lawHangTogether_inPlace lawHangTogether_unfollowed lawHangTogether_recurses lawHangTogether_named rfl rfl rfl

theorem exactHangTogether_holds : Rows.FnExactHangTogetherSaid :=
  OpenClaim.holds_of_wide 24 Try.f24 rfl rfl rfl rfl rfl rfl rfl ⟨rfl, rfl, rfl, rfl, rfl⟩ rfl rfl rfl rfl rfl lawHangTogether_name Try.func24 lawHangTogether_joined
    (of_decide_eq_true (by kernel_rfl)) lawHangTogether_wrap
    (fun os started H enc _ => lawHangTogether_lifted os started H enc)
end Go.Proofs.Ytkonibmmdinmbaa
