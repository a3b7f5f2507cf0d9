/-
  For every input that can be read, 'laws.FnExactIsNumbers' returns true, and its arguments read afterwards as they read before. Conditions: none.
-/
import Derived.Test.YtkonibmmdinmbaaOpenL
import Derived.Test.YtkonibmmdinmbaaLawIsNumbers
import Derived.Test.YtkonibmmdinmbaaFacts
namespace Go.Proofs.Ytkonibmmdinmbaa
open Go.ChangeShapes Go.WideShapes Go.ChangeAt Go.RowKit

set_option maxRecDepth 100000 in
theorem lawIsNumbers_lifted (os : Os) (started : os.Started) (H : Type) (enc : TypeId × Value → H) :
    ReturnsInHanded {} Try.checked os 11 .any (Rows.fnExactIsNumbersSpec.pre6 enc Try.prog Try.f11 Rows.fnExactIsNumbersRow.domain false) (Rows.fnExactIsNumbersSpec.post enc Try.prog Try.f11 false true false false) := by
  refine returnsInHanded_of_change (C := Try.checked) Try.own started (by kernel_rfl) Try.func11
    (ChangeSpec.witness6 (enc := enc) (C := Try.checked) false ⟨#[], #[.slice none 0 0], []⟩ 8 (by kernel_rfl) (by kernel_rfl) (by kernel_rfl) (by kernel_rfl)) ?_
  intro W base args ds gs before hval0 hW _ _
  have hval : ∀ (j : Nat) t v, Try.f11.params[j]? = some t → args[j]? = some v → Value.okWide Try.prog W .any base t v := hval0
  have hW' := hW
  obtain ⟨p, q, hA0, hV, rfl, _, _⟩ := hW
  have hA : DataW.TrodAll enc Try.prog W 0 (fun _ => true) true Try.f11.params.toList args.toList ds p := hA0
  rw [Try.params11] at hA hval
  obtain ⟨v0, d0, rfl, rfl, h0⟩ := trodAll_one hA
  obtain ⟨rfl, rfl⟩ := trodVars_none hV
  obtain ⟨l0, A0, c0, rfl, hl0, hr0⟩ := open_list (hval 0 _ v0 rfl rfl) h0
  refine (lawIsNumbers_any l0 A0 c0 W hl0 hr0).mono fun e W' ⟨he, hb⟩ => ?_
  subst he
  exact ⟨_, rfl, law_post Try.laidOut (by kernel_rfl) (by kernel_rfl) Try.underlying4 rfl rfl hW' hb⟩

theorem lawIsNumbers_types : typeFacts Try.prog Try.f11 Rows.fnExactIsNumbersSpec Rows.fnExactIsNumbersRow = true := by kernel_rfl
theorem lawIsNumbers_wf : Rows.fnExactIsNumbersRow.wf (OpenSpec.ofChange Rows.fnExactIsNumbersSpec) = true := by kernel_rfl
theorem lawIsNumbers_inPlace : (Rows.fnExactIsNumbersRow.inPlace == Try.prog.inPlace 11) = true := by kernel_rfl
theorem lawIsNumbers_unfollowed : (Rows.fnExactIsNumbersRow.unfollowed == Try.prog.unfollowed 11) = true := by kernel_rfl
theorem lawIsNumbers_recurses : (Rows.fnExactIsNumbersRow.recurses == Try.prog.recurses 11) = true := by kernel_rfl
theorem lawIsNumbers_named : (Rows.fnExactIsNumbersRow.named == Try.prog.varsNamed 11) = true := by kernel_rfl
theorem lawIsNumbers_name : Try.prog.funcNamed Rows.fnExactIsNumbersRow.func = some 11 := by kernel_rfl
theorem lawIsNumbers_wrap : (Try.f11).isWrapper Try.prog Rows.fnExactIsNumbersRow.wrapper Rows.fnExactIsNumbersRow.mainSum := by
  unfold Func.isWrapper
  first | (rw [if_pos (by decide +kernel)]; kernel_rfl) | (rw [if_neg (by decide +kernel)]; exact ⟨rfl, rfl⟩)
theorem lawIsNumbers_joined : joinedFacts Try.prog 11 Try.f11 Rows.fnExactIsNumbersSpec Rows.fnExactIsNumbersRow = true :=
  joined_of lawIsNumbers_wf lawIsNumbers_types lawIsNumbers_inPlace lawIsNumbers_unfollowed lawIsNumbers_recurses lawIsNumbers_named rfl rfl rfl

theorem exactIsNumbers_holds : Rows.FnExactIsNumbersSaid :=
  OpenClaim.holds_of_wide 11 Try.f11 rfl rfl rfl rfl rfl rfl rfl ⟨rfl, rfl, rfl, rfl, rfl⟩ rfl rfl rfl rfl rfl lawIsNumbers_name Try.func11 lawIsNumbers_joined
    (of_decide_eq_true (by kernel_rfl)) lawIsNumbers_wrap
    (fun os started H enc _ => lawIsNumbers_lifted os started H enc)
end Go.Proofs.Ytkonibmmdinmbaa
