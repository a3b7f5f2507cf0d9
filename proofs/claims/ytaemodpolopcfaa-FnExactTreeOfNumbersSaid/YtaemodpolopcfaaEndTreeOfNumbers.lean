/-
  For every input that can be read, 'laws.FnExactTreeOfNumbers' returns true, and its arguments read afterwards as they read before. Conditions: none.
-/
import Derived.Test.YtaemodpolopcfaaSaid
import Derived.Test.YtaemodpolopcfaaOpenL
import Derived.Test.YtaemodpolopcfaaLawTreeOfNumbers
import Derived.Test.YtaemodpolopcfaaFacts
namespace Go.Proofs.Ytaemodpolopcfaa
open Go.ChangeShapes Go.WideShapes Go.ChangeAt Go.RowKit

set_option maxRecDepth 100000 in
theorem lawTreeOfNumbers_lifted (os : Os) (started : os.Started) (H : Type) (enc : TypeId × Value → H) :
    ReturnsInHanded {} Try.checked os 6 .any (Rows.fnExactTreeOfNumbersSpec.pre6 enc Try.prog Try.f6 Rows.fnExactTreeOfNumbersRow.domain false) (Rows.fnExactTreeOfNumbersSpec.post enc Try.prog Try.f6 false true false false) := by
  refine returnsInHanded_of_change (C := Try.checked) Try.own started (by kernel_rfl) Try.func6
    (ChangeSpec.witness6 (enc := enc) (C := Try.checked) false ⟨#[], #[.slice none 0 0], []⟩ 8 (by kernel_rfl) (by kernel_rfl) (by kernel_rfl) (by kernel_rfl)) ?_
  intro W base args ds gs before hval0 hW _ _
  have hval : ∀ (j : Nat) t v, Try.f6.params[j]? = some t → args[j]? = some v → Value.okWide Try.prog W .any base t v := hval0
  have hW' := hW
  obtain ⟨p, q, hA0, hV, rfl, _, _⟩ := hW
  have hA : DataW.TrodAll enc Try.prog W 0 (fun _ => true) true Try.f6.params.toList args.toList ds p := hA0
  rw [Try.params6] at hA hval
  obtain ⟨v0, d0, rfl, rfl, h0⟩ := trodAll_one hA
  obtain ⟨rfl, rfl⟩ := trodVars_none hV
  obtain ⟨l0, A0, c0, rfl, hl0, hr0⟩ := open_list (hval 0 _ v0 rfl rfl) h0
  refine (lawTreeOfNumbers_any l0 A0 c0 W hl0 hr0).mono fun e W' ⟨he, hb⟩ => ?_
  subst he
  exact ⟨_, rfl, law_post Try.laidOut (by kernel_rfl) (by kernel_rfl) Try.underlying4 rfl rfl hW' hb⟩

theorem lawTreeOfNumbers_types : typeFacts Try.prog Try.f6 Rows.fnExactTreeOfNumbersSpec Rows.fnExactTreeOfNumbersRow = true := by kernel_rfl
theorem lawTreeOfNumbers_wf : Rows.fnExactTreeOfNumbersRow.wf (OpenSpec.ofChange Rows.fnExactTreeOfNumbersSpec) = true := by kernel_rfl
theorem lawTreeOfNumbers_inPlace : (Rows.fnExactTreeOfNumbersRow.inPlace == Try.prog.inPlace 6) = true := by kernel_rfl
theorem lawTreeOfNumbers_unfollowed : (Rows.fnExactTreeOfNumbersRow.unfollowed == Try.prog.unfollowed 6) = true := by kernel_rfl
theorem lawTreeOfNumbers_recurses : (Rows.fnExactTreeOfNumbersRow.recurses == Try.prog.recurses 6) = true := by kernel_rfl
theorem lawTreeOfNumbers_named : (Rows.fnExactTreeOfNumbersRow.named == Try.prog.varsNamed 6) = true := by kernel_rfl
theorem lawTreeOfNumbers_name : Try.prog.funcNamed Rows.fnExactTreeOfNumbersRow.func = some 6 := by kernel_rfl
theorem lawTreeOfNumbers_wrap : (Try.f6).isWrapper Try.prog Rows.fnExactTreeOfNumbersRow.wrapper Rows.fnExactTreeOfNumbersRow.mainSum := by
  unfold Func.isWrapper
  first | (rw [if_pos (by decide +kernel)]; kernel_rfl) | (rw [if_neg (by decide +kernel)]; exact ⟨rfl, rfl⟩)
theorem lawTreeOfNumbers_joined : joinedFacts Try.prog 6 Try.f6 Rows.fnExactTreeOfNumbersSpec Rows.fnExactTreeOfNumbersRow = true :=
  joined_of lawTreeOfNumbers_wf lawTreeOfNumbers_types lawTreeOfNumbers_inPlace lawTreeOfNumbers_unfollowed lawTreeOfNumbers_recurses lawTreeOfNumbers_named rfl rfl rfl

theorem exactTreeOfNumbers_holds : Rows.FnExactTreeOfNumbersSaid :=
  OpenClaim.holds_of_wide 6 Try.f6 rfl rfl rfl rfl rfl rfl rfl ⟨rfl, rfl, rfl, rfl, rfl⟩ rfl rfl rfl rfl rfl lawTreeOfNumbers_name Try.func6 lawTreeOfNumbers_joined
    (of_decide_eq_true (by kernel_rfl)) lawTreeOfNumbers_wrap
    (fun os started H enc _ => lawTreeOfNumbers_lifted os started H enc)
end Go.Proofs.Ytaemodpolopcfaa
