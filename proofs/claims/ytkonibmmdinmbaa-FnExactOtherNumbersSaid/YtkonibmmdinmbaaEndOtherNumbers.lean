/-
  For every input that can be read, 'laws.FnExactOtherNumbers' returns true, and its arguments read afterwards as they read before. Conditions: none.
-/
import Derived.Test.YtkonibmmdinmbaaOpenL
import Derived.Test.YtkonibmmdinmbaaLawOtherNumbers
import Derived.Test.YtkonibmmdinmbaaFacts
namespace Go.Proofs.Ytkonibmmdinmbaa
open Go.ChangeShapes Go.WideShapes Go.ChangeAt Go.RowKit

set_option maxRecDepth 100000 in
theorem lawOtherNumbers_lifted (os : Os) (started : os.Started) (H : Type) (enc : TypeId × Value → H) :
    ReturnsInHanded {} Try.checked os 20 .any (Rows.fnExactOtherNumbersSpec.pre6 enc Try.prog Try.f20 Rows.fnExactOtherNumbersRow.domain false) (Rows.fnExactOtherNumbersSpec.post enc Try.prog Try.f20 false true false false) := by
  refine returnsInHanded_of_change (C := Try.checked) Try.own started (by kernel_rfl) Try.func20
    (ChangeSpec.witness6 (enc := enc) (C := Try.checked) false ⟨#[], #[.slice none 0 0], []⟩ 8 (by kernel_rfl) (by kernel_rfl) (by kernel_rfl) (by kernel_rfl)) ?_
  intro W base args ds gs before hval0 hW _ _
  have hval : ∀ (j : Nat) t v, Try.f20.params[j]? = some t → args[j]? = some v → Value.okWide Try.prog W .any base t v := hval0
  have hW' := hW
  obtain ⟨p, q, hA0, hV, rfl, _, _⟩ := hW
  have hA : DataW.TrodAll enc Try.prog W 0 (fun _ => true) true Try.f20.params.toList args.toList ds p := hA0
  rw [Try.params20] at hA hval
  obtain ⟨v0, d0, rfl, rfl, h0⟩ := trodAll_one hA
  obtain ⟨rfl, rfl⟩ := trodVars_none hV
  obtain ⟨l0, A0, c0, rfl, hl0, hr0⟩ := open_list (hval 0 _ v0 rfl rfl) h0
  refine (lawOtherNumbers_any l0 A0 c0 W hl0 hr0).mono fun e W' ⟨he, hb⟩ => ?_
  subst he
  exact ⟨_, rfl, law_post Try.laidOut (by kernel_rfl) (by kernel_rfl) Try.underlying4 rfl rfl hW' hb⟩

theorem lawOtherNumbers_types : typeFacts Try.prog Try.f20 Rows.fnExactOtherNumbersSpec Rows.fnExactOtherNumbersRow = true := by kernel_rfl
theorem lawOtherNumbers_wf : Rows.fnExactOtherNumbersRow.wf (OpenSpec.ofChange Rows.fnExactOtherNumbersSpec) = true := by kernel_rfl
theorem lawOtherNumbers_inPlace : (Rows.fnExactOtherNumbersRow.inPlace == Try.prog.inPlace 20) = true := by kernel_rfl
theorem lawOtherNumbers_unfollowed : (Rows.fnExactOtherNumbersRow.unfollowed == Try.prog.unfollowed 20) = true := by kernel_rfl
theorem lawOtherNumbers_recurses : (Rows.fnExactOtherNumbersRow.recurses == Try.prog.recurses 20) = true := by kernel_rfl
theorem lawOtherNumbers_named : (Rows.fnExactOtherNumbersRow.named == Try.prog.varsNamed 20) = true := by kernel_rfl
theorem lawOtherNumbers_name : Try.prog.funcNamed Rows.fnExactOtherNumbersRow.func = some 20 := by kernel_rfl
theorem lawOtherNumbers_wrap : (Try.f20).isWrapper Try.prog Rows.fnExactOtherNumbersRow.wrapper Rows.fnExactOtherNumbersRow.mainSum := by
  unfold Func.isWrapper
  first | (rw [if_pos (by decide +kernel)]; kernel_rfl) | (rw [if_neg (by decide +kernel)]; exact ⟨rfl, rfl⟩)
theorem lawOtherNumbers_joined : joinedFacts Try.prog 20 Try.f20 Rows.fnExactOtherNumbersSpec Rows.fnExactOtherNumbersRow = true :=
  joined_of lawOtherNumbers_wf lawOtherNumbers_types lawOtherNumbers_inPlace lawOtherNumbers_unfollowed lawOtherNumbers_recurses lawOtherNumbers_named rfl rfl rfl

theorem exactOtherNumbers_holds : Rows.FnExactOtherNumbersSaid :=
  OpenClaim.holds_of_wide 20 Try.f20 rfl rfl rfl rfl rfl rfl rfl ⟨rfl, rfl, rfl, rfl, rfl⟩ rfl rfl rfl rfl rfl lawOtherNumbers_name Try.func20 lawOtherNumbers_joined
    (of_decide_eq_true (by kernel_rfl)) lawOtherNumbers_wrap
    (fun os started H enc _ => lawOtherNumbers_lifted os started H enc)
end Go.Proofs.Ytkonibmmdinmbaa
