/-
  For every input that can be read, 'laws.FnExactCanBe' returns true, and its arguments read afterwards as they read before. Conditions: none.
-/
import Derived.Test.YtkonibmmdinmbaaOpenL
import Derived.Test.YtkonibmmdinmbaaLawCanBe
import Derived.Test.YtkonibmmdinmbaaFacts
namespace Go.Proofs.Ytkonibmmdinmbaa
open Go.ChangeShapes Go.WideShapes Go.ChangeAt Go.RowKit

set_option maxRecDepth 100000 in
theorem lawCanBe_lifted (os : Os) (started : os.Started) (H : Type) (enc : TypeId × Value → H) :
    ReturnsInHanded {} Try.checked os 12 .any (Rows.fnExactCanBeSpec.pre6 enc Try.prog Try.f12 Rows.fnExactCanBeRow.domain false) (Rows.fnExactCanBeSpec.post enc Try.prog Try.f12 false true false false) := by
  refine returnsInHanded_of_change (C := Try.checked) Try.own started (by kernel_rfl) Try.func12
    (ChangeSpec.witness6 (enc := enc) (C := Try.checked) false ⟨#[], #[.slice none 0 0], []⟩ 8 (by kernel_rfl) (by kernel_rfl) (by kernel_rfl) (by kernel_rfl)) ?_
  intro W base args ds gs before hval0 hW _ _
  have hval : ∀ (j : Nat) t v, Try.f12.params[j]? = some t → args[j]? = some v → Value.okWide Try.prog W .any base t v := hval0
  have hW' := hW
  obtain ⟨p, q, hA0, hV, rfl, _, _⟩ := hW
  have hA : DataW.TrodAll enc Try.prog W 0 (fun _ => true) true Try.f12.params.toList args.toList ds p := hA0
  rw [Try.params12] at hA hval
  obtain ⟨v0, d0, rfl, rfl, h0⟩ := trodAll_one hA
  obtain ⟨rfl, rfl⟩ := trodVars_none hV
  obtain ⟨l0, A0, c0, rfl, hl0, hr0⟩ := open_list (hval 0 _ v0 rfl rfl) h0
  refine (lawCanBe_any l0 A0 c0 W hl0 hr0).mono fun e W' ⟨he, hb⟩ => ?_
  subst he
  exact ⟨_, rfl, law_post Try.laidOut (by kernel_rfl) (by kernel_rfl) Try.underlying4 rfl rfl hW' hb⟩

theorem lawCanBe_types : typeFacts Try.prog Try.f12 Rows.fnExactCanBeSpec Rows.fnExactCanBeRow = true := by kernel_rfl
theorem lawCanBe_wf : Rows.fnExactCanBeRow.wf (OpenSpec.ofChange Rows.fnExactCanBeSpec) = true := by kernel_rfl
theorem lawCanBe_inPlace : (Rows.fnExactCanBeRow.inPlace == Try.prog.inPlace 12) = true := by kernel_rfl
theorem lawCanBe_unfollowed : (Rows.fnExactCanBeRow.unfollowed == Try.prog.unfollowed 12) = true := by kernel_rfl
theorem lawCanBe_recurses : (Rows.fnExactCanBeRow.recurses == Try.prog.recurses 12) = true := by kernel_rfl
theorem lawCanBe_named : (Rows.fnExactCanBeRow.named == Try.prog.varsNamed 12) = true := by kernel_rfl
theorem lawCanBe_name : Try.prog.funcNamed Rows.fnExactCanBeRow.func = some 12 := by kernel_rfl
theorem lawCanBe_wrap : (Try.f12).isWrapper Try.prog Rows.fnExactCanBeRow.wrapper Rows.fnExactCanBeRow.mainSum := by
  unfold Func.isWrapper
  first | (rw [if_pos (by decide +kernel)]; kernel_rfl) | (rw [if_neg (by decide +kernel)]; exact ⟨rfl, rfl⟩)
theorem lawCanBe_joined : joinedFacts Try.prog 12 Try.f12 Rows.fnExactCanBeSpec Rows.fnExactCanBeRow = true :=
  joined_of lawCanBe_wf lawCanBe_types lawCanBe_inPlace lawCanBe_unfollowed lawCanBe_recurses lawCanBe_named rfl rfl rfl

theorem exactCanBe_holds : Rows.FnExactCanBeSaid :=
  OpenClaim.holds_of_wide 12 Try.f12 rfl rfl rfl rfl rfl rfl rfl ⟨rfl, rfl, rfl, rfl, rfl⟩ rfl rfl rfl rfl rfl lawCanBe_name Try.func12 lawCanBe_joined
    (of_decide_eq_true (by kernel_rfl)) lawCanBe_wrap
    (fun os started H enc _ => lawCanBe_lifted os started H enc)
end Go.Proofs.Ytkonibmmdinmbaa
