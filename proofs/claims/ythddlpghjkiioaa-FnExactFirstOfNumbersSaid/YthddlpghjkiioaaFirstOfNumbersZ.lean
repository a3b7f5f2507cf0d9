/-
  For every input that can be read, 'laws.FnExactFirstOfNumbers' returns true, and its arguments read afterwards as they read before. Conditions: none.
-/
import Derived.Test.YthddlpghjkiioaaFirstOfNumbersP1
import Derived.Test.YthddlpghjkiioaaFirstOfNumbersP4
namespace Go.Proofs.Ythddlpghjkiioaa
open Go.ChangeShapes Go.WideShapes Go.ChangeAt Go.RowKit

set_option maxRecDepth 100000 in
theorem lawFirstOfNumbers_lifted (os : Os) (started : os.Started) (H : Type) (enc : TypeId × Value → H) :
    ReturnsInHanded {} Try.checked os 3 .any (Rows.fnExactFirstOfNumbersSpec.pre6 enc Try.prog Try.f3 Rows.fnExactFirstOfNumbersRow.domain false) (Rows.fnExactFirstOfNumbersSpec.post enc Try.prog Try.f3 false true false false) := by
  refine returnsInHanded_of_change (C := Try.checked) Try.own started (by kernel_rfl) Try.func3
    (ChangeSpec.witness6 (enc := enc) (C := Try.checked) false ⟨#[], #[.slice none 0 0], []⟩ 8 (by kernel_rfl) (by kernel_rfl) (by kernel_rfl) (by kernel_rfl)) ?_
  intro W base args ds gs before hval0 hW _ _
  have hval : ∀ (j : Nat) t v, Try.f3.params[j]? = some t → args[j]? = some v → Value.okWide Try.prog W .any base t v := hval0
  have hW' := hW
  obtain ⟨p, q, hA0, hV, rfl, _, _⟩ := hW
  have hA : DataW.TrodAll enc Try.prog W 0 (fun _ => true) true Try.f3.params.toList args.toList ds p := hA0
  rw [Try.params3] at hA hval
  obtain ⟨v0, d0, rfl, rfl, h0⟩ := trodAll_one hA
  obtain ⟨rfl, rfl⟩ := trodVars_none hV
  obtain ⟨l0, A0, c0, rfl, hl0, hr0⟩ := open_list (hval 0 _ v0 rfl rfl) h0
  refine (lawFirstOfNumbers_any l0 A0 c0 W hl0 hr0).mono fun e W' ⟨he, hb⟩ => ?_
  subst he
  exact ⟨_, rfl, law_post Try.laidOut (by kernel_rfl) (by kernel_rfl) Try.underlying4 rfl rfl hW' hb⟩

theorem lawFirstOfNumbers_types : typeFacts Try.prog Try.f3 Rows.fnExactFirstOfNumbersSpec Rows.fnExactFirstOfNumbersRow = true := by kernel_rfl
theorem lawFirstOfNumbers_wf : Rows.fnExactFirstOfNumbersRow.wf (OpenSpec.ofChange Rows.fnExactFirstOfNumbersSpec) = true := by kernel_rfl
theorem lawFirstOfNumbers_inPlace : (Rows.fnExactFirstOfNumbersRow.inPlace == Try.prog.inPlace 3) = true := by kernel_rfl
theorem lawFirstOfNumbers_unfollowed : (Rows.fnExactFirstOfNumbersRow.unfollowed == Try.prog.unfollowed 3) = true := by kernel_rfl
theorem lawFirstOfNumbers_recurses : (Rows.fnExactFirstOfNumbersRow.recurses == Try.prog.recurses 3) = true := by kernel_rfl
theorem lawFirstOfNumbers_named : (Rows.fnExactFirstOfNumbersRow.named == Try.prog.varsNamed 3) = true := by kernel_rfl
theorem lawFirstOfNumbers_name : Try.prog.funcNamed Rows.fnExactFirstOfNumbersRow.func = some 3 := by kernel_rfl
theorem lawFirstOfNumbers_wrap : (Try.f3).isWrapper Try.prog Rows.fnExactFirstOfNumbersRow.wrapper Rows.fnExactFirstOfNumbersRow.mainSum := by
  unfold Func.isWrapper
  first | (rw [if_pos (by decide +kernel)]; kernel_rfl) | (rw [if_neg (by decide +kernel)]; exact ⟨rfl, rfl⟩)
theorem lawFirstOfNumbers_joined : joinedFacts Try.prog 3 Try.f3 Rows.fnExactFirstOfNumbersSpec Rows.fnExactFirstOfNumbersRow = true :=
  joined_of lawFirstOfNumbers_wf lawFirstOfNumbers_types lawFirstOfNumbers_inPlace lawFirstOfNumbers_unfollowed lawFirstOfNumbers_recurses lawFirstOfNumbers_named rfl rfl rfl

theorem exactFirstOfNumbers_holds : Rows.FnExactFirstOfNumbersSaid :=
  OpenClaim.holds_of_wide 3 Try.f3 rfl rfl rfl rfl rfl rfl rfl ⟨rfl, rfl, rfl, rfl, rfl⟩ rfl rfl rfl rfl rfl lawFirstOfNumbers_name Try.func3 lawFirstOfNumbers_joined
    (of_decide_eq_true (by kernel_rfl)) lawFirstOfNumbers_wrap
    (fun os started H enc _ => lawFirstOfNumbers_lifted os started H enc)
end Go.Proofs.Ythddlpghjkiioaa
