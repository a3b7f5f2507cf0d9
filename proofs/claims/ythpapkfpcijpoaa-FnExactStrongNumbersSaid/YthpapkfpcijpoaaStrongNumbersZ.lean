/-
  For every input that can be read, 'laws.FnExactStrongNumbers' returns true, and its arguments read afterwards as they read before. Conditions: none.
-/
import Derived.Test.YthpapkfpcijpoaaStrongNumbersP1
import Derived.Test.YthpapkfpcijpoaaStrongNumbersP6
namespace Go.Proofs.Ythpapkfpcijpoaa
open Go.ChangeShapes Go.WideShapes Go.ChangeAt Go.RowKit

set_option maxRecDepth 100000 in
theorem lawStrongNumbers_lifted (os : Os) (started : os.Started) (H : Type) (enc : TypeId × Value → H) :
    ReturnsInHanded {} Try.checked os 9 .any (Rows.fnExactStrongNumbersSpec.pre6 enc Try.prog Try.f9 Rows.fnExactStrongNumbersRow.domain false) (Rows.fnExactStrongNumbersSpec.post enc Try.prog Try.f9 false true false false) := by
  refine returnsInHanded_of_change (C := Try.checked) Try.own started (by kernel_rfl) Try.func9
    (ChangeSpec.witness6 (enc := enc) (C := Try.checked) false ⟨#[], #[.agg #[.int .i64 0, .slice none 0 0]], []⟩ 8 (by kernel_rfl) (by kernel_rfl) (by kernel_rfl) (by kernel_rfl)) ?_
  intro W base args ds gs before hval0 hW _ _
  have hval : ∀ (j : Nat) t v, Try.f9.params[j]? = some t → args[j]? = some v → Value.okWide Try.prog W .any base t v := hval0
  have hW' := hW
  obtain ⟨p, q, hA0, hV, rfl, _, _⟩ := hW
  have hA : DataW.TrodAll enc Try.prog W 0 (fun _ => true) true Try.f9.params.toList args.toList ds p := hA0
  rw [Try.params9] at hA hval
  obtain ⟨v0, d0, rfl, rfl, h0⟩ := trodAll_one hA
  obtain ⟨rfl, rfl⟩ := trodVars_none hV
  obtain ⟨x0, l0, A0, c0, rfl, hl0, hr0⟩ := open_party (hval 0 _ v0 rfl rfl) h0
  refine (lawStrongNumbers_any x0 l0 A0 c0 W hl0 hr0).mono fun e W' ⟨he, hb⟩ => ?_
  subst he
  exact ⟨_, rfl, law_post Try.laidOut (by kernel_rfl) (by kernel_rfl) Try.underlying4 rfl rfl hW' hb⟩

theorem lawStrongNumbers_types : typeFacts Try.prog Try.f9 Rows.fnExactStrongNumbersSpec Rows.fnExactStrongNumbersRow = true := by kernel_rfl
theorem lawStrongNumbers_wf : Rows.fnExactStrongNumbersRow.wf (OpenSpec.ofChange Rows.fnExactStrongNumbersSpec) = true := by kernel_rfl
theorem lawStrongNumbers_inPlace : (Rows.fnExactStrongNumbersRow.inPlace == Try.prog.inPlace 9) = true := by kernel_rfl
theorem lawStrongNumbers_unfollowed : (Rows.fnExactStrongNumbersRow.unfollowed == Try.prog.unfollowed 9) = true := by kernel_rfl
theorem lawStrongNumbers_recurses : (Rows.fnExactStrongNumbersRow.recurses == Try.prog.recurses 9) = true := by kernel_rfl
theorem lawStrongNumbers_named : (Rows.fnExactStrongNumbersRow.named == Try.prog.varsNamed 9) = true := by kernel_rfl
theorem lawStrongNumbers_name : Try.prog.funcNamed Rows.fnExactStrongNumbersRow.func = some 9 := by kernel_rfl
theorem lawStrongNumbers_wrap : (Try.f9).isWrapper Try.prog Rows.fnExactStrongNumbersRow.wrapper Rows.fnExactStrongNumbersRow.mainSum := by
  unfold Func.isWrapper
  first | (rw [if_pos (by decide +kernel)]; kernel_rfl) | (rw [if_neg (by decide +kernel)]; exact ⟨rfl, rfl⟩)
theorem lawStrongNumbers_joined : joinedFacts Try.prog 9 Try.f9 Rows.fnExactStrongNumbersSpec Rows.fnExactStrongNumbersRow = true :=
  joined_of lawStrongNumbers_wf lawStrongNumbers_types lawStrongNumbers_inPlace lawStrongNumbers_unfollowed lawStrongNumbers_recurses lawStrongNumbers_named rfl rfl rfl

theorem exactStrongNumbers_holds : Rows.FnExactStrongNumbersSaid :=
  OpenClaim.holds_of_wide 9 Try.f9 rfl rfl rfl rfl rfl rfl rfl ⟨rfl, rfl, rfl, rfl, rfl⟩ rfl rfl rfl rfl rfl lawStrongNumbers_name Try.func9 lawStrongNumbers_joined
    (of_decide_eq_true (by kernel_rfl)) lawStrongNumbers_wrap
    (fun os started H enc _ => lawStrongNumbers_lifted os started H enc)
end Go.Proofs.Ythpapkfpcijpoaa
