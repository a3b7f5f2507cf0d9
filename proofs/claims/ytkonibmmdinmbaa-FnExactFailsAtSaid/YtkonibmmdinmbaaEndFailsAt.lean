/-
  For every input that can be read, 'laws.FnExactFailsAt' returns true, and its arguments read afterwards as they read before. Conditions: none.
-/
import Derived.Test.YtkonibmmdinmbaaOpenL
import Derived.Test.YtkonibmmdinmbaaLawFailsAt
import Derived.Test.YtkonibmmdinmbaaFacts
namespace Go.Proofs.Ytkonibmmdinmbaa
open Go.ChangeShapes Go.WideShapes Go.ChangeAt Go.RowKit

set_option maxRecDepth 100000 in
theorem lawFailsAt_lifted (os : Os) (started : os.Started) (H : Type) (enc : TypeId × Value → H) :
    ReturnsInHanded {} Try.checked os 13 .any (Rows.fnExactFailsAtSpec.pre6 enc Try.prog Try.f13 Rows.fnExactFailsAtRow.domain false) (Rows.fnExactFailsAtSpec.post enc Try.prog Try.f13 false true false false) := by
  refine returnsInHanded_of_change (C := Try.checked) Try.own started (by kernel_rfl) Try.func13
    (ChangeSpec.witness6 (enc := enc) (C := Try.checked) false ⟨#[], #[.slice none 0 0], []⟩ 8 (by kernel_rfl) (by kernel_rfl) (by kernel_rfl) (by kernel_rfl)) ?_
  intro W base args ds gs before hval0 hW _ _
  have hval : ∀ (j : Nat) t v, Try.f13.params[j]? = some t → args[j]? = some v → Value.okWide Try.prog W .any base t v := hval0
  have hW' := hW
  obtain ⟨p, q, hA0, hV, rfl, _, _⟩ := hW
  have hA : DataW.TrodAll enc Try.prog W 0 (fun _ => true) true Try.f13.params.toList args.toList ds p := hA0
  rw [Try.params13] at hA hval
  obtain ⟨v0, d0, rfl, rfl, h0⟩ := trodAll_one hA
  obtain ⟨rfl, rfl⟩ := trodVars_none hV
  obtain ⟨l0, A0, c0, rfl, hl0, hr0⟩ := open_list (hval 0 _ v0 rfl rfl) h0
  refine (lawFailsAt_any l0 A0 c0 W hl0 hr0).mono fun e W' ⟨he, hb⟩ => ?_
  subst he
  exact ⟨_, rfl, law_post Try.laidOut (by kernel_rfl) (by kernel_rfl) Try.underlying4 rfl rfl hW' hb⟩

theorem lawFailsAt_types : typeFacts Try.prog Try.f13 Rows.fnExactFailsAtSpec Rows.fnExactFailsAtRow = true := by kernel_rfl
theorem lawFailsAt_wf : Rows.fnExactFailsAtRow.wf (OpenSpec.ofChange Rows.fnExactFailsAtSpec) = true := by kernel_rfl
theorem lawFailsAt_inPlace : (Rows.fnExactFailsAtRow.inPlace == Try.prog.inPlace 13) = true := by kernel_rfl
theorem lawFailsAt_unfollowed : (Rows.fnExactFailsAtRow.unfollowed == Try.prog.unfollowed 13) = true := by kernel_rfl
theorem lawFailsAt_recurses : (Rows.fnExactFailsAtRow.recurses == Try.prog.recurses 13) = true := by kernel_rfl
theorem lawFailsAt_named : (Rows.fnExactFailsAtRow.named == Try.prog.varsNamed 13) = true := by kernel_rfl
theorem lawFailsAt_name : Try.prog.funcNamed Rows.fnExactFailsAtRow.func = some 13 := by kernel_rfl
theorem lawFailsAt_wrap : (Try.f13).isWrapper Try.prog Rows.fnExactFailsAtRow.wrapper Rows.fnExactFailsAtRow.mainSum := by
  unfold Func.isWrapper
  first | (rw [if_pos (by decide +kernel)]; kernel_rfl) | (rw [if_neg (by decide +kernel)]; exact ⟨rfl, rfl⟩)
theorem lawFailsAt_joined : joinedFacts Try.prog 13 Try.f13 Rows.fnExactFailsAtSpec Rows.fnExactFailsAtRow = true :=
  joined_of lawFailsAt_wf lawFailsAt_types lawFailsAt_inPlace lawFailsAt_unfollowed lawFailsAt_recurses lawFailsAt_named rfl rfl rfl

theorem exactFailsAt_holds : Rows.FnExactFailsAtSaid :=
  OpenClaim.holds_of_wide 13 Try.f13 rfl rfl rfl rfl rfl rfl rfl ⟨rfl, rfl, rfl, rfl, rfl⟩ rfl rfl rfl rfl rfl lawFailsAt_name Try.func13 lawFailsAt_joined
    (of_decide_eq_true (by kernel_rfl)) lawFailsAt_wrap
    (fun os started H enc _ => lawFailsAt_lifted os started H enc)
end Go.Proofs.Ytkonibmmdinmbaa
