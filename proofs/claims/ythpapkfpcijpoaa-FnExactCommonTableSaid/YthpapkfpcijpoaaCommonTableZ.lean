/-
  For every input that can be read, 'laws.FnExactCommonTable' returns true, and its arguments read afterwards as they read before. Conditions: none.
-/
import Derived.Test.YthpapkfpcijpoaaCommonTableP1
import Derived.Test.YthpapkfpcijpoaaCommonTableP5
namespace Go.Proofs.Ythpapkfpcijpoaa
open Go.ChangeShapes Go.WideShapes Go.ChangeAt Go.RowKit

set_option maxRecDepth 100000 in
theorem lawCommonTable_lifted (os : Os) (started : os.Started) (H : Type) (enc : TypeId × Value → H) :
    ReturnsInHanded {} Try.checked os 3 .any (Rows.fnExactCommonTableSpec.pre6 enc Try.prog Try.f3 Rows.fnExactCommonTableRow.domain false) (Rows.fnExactCommonTableSpec.post enc Try.prog Try.f3 false true false false) := by
  refine returnsInHanded_of_change (C := Try.checked) Try.own started (by kernel_rfl) Try.func3
    (ChangeSpec.witness6 (enc := enc) (C := Try.checked) false ⟨#[], #[.agg #[.int .i64 0, .slice none 0 0]], []⟩ 8 (by kernel_rfl) (by kernel_rfl) (by kernel_rfl) (by kernel_rfl)) ?_
  intro W base args ds gs before hval0 hW _ _
  have hval : ∀ (j : Nat) t v, Try.f3.params[j]? = some t → args[j]? = some v → Value.okWide Try.prog W .any base t v := hval0
  have hW' := hW
  obtain ⟨p, q, hA0, hV, rfl, _, _⟩ := hW
  have hA : DataW.TrodAll enc Try.prog W 0 (fun _ => true) true Try.f3.params.toList args.toList ds p := hA0
  rw [Try.params3] at hA hval
  obtain ⟨v0, d0, rfl, rfl, h0⟩ := trodAll_one hA
  obtain ⟨rfl, rfl⟩ := trodVars_none hV
  obtain ⟨x0, l0, A0, c0, rfl, hl0, hr0⟩ := open_party (hval 0 _ v0 rfl rfl) h0
  refine (lawCommonTable_any x0 l0 A0 c0 W hl0 hr0).mono fun e W' ⟨he, hb⟩ => ?_
  subst he
  exact ⟨_, rfl, law_post Try.laidOut (by kernel_rfl) (by kernel_rfl) Try.underlying4 rfl rfl hW' hb⟩

theorem lawCommonTable_types : typeFacts Try.prog Try.f3 Rows.fnExactCommonTableSpec Rows.fnExactCommonTableRow = true := by kernel_rfl
theorem lawCommonTable_wf : Rows.fnExactCommonTableRow.wf (OpenSpec.ofChange Rows.fnExactCommonTableSpec) = true := by kernel_rfl
theorem lawCommonTable_inPlace : (Rows.fnExactCommonTableRow.inPlace == Try.prog.inPlace 3) = true := by kernel_rfl
theorem lawCommonTable_unfollowed : (Rows.fnExactCommonTableRow.unfollowed == Try.prog.unfollowed 3) = true := by kernel_rfl
theorem lawCommonTable_recurses : (Rows.fnExactCommonTableRow.recurses == Try.prog.recurses 3) = true := by kernel_rfl
theorem lawCommonTable_named : (Rows.fnExactCommonTableRow.named == Try.prog.varsNamed 3) = true := by kernel_rfl
theorem lawCommonTable_name : Try.prog.funcNamed Rows.fnExactCommonTableRow.func = some 3 := by kernel_rfl
theorem lawCommonTable_wrap : (Try.f3).isWrapper Try.prog Rows.fnExactCommonTableRow.wrapper Rows.fnExactCommonTableRow.mainSum := by
  unfold Func.isWrapper
  first | (rw [if_pos (by decide +kernel)]; kernel_rfl) | (rw [if_neg (by decide +kernel)]; exact ⟨rfl, rfl⟩)
theorem lawCommonTable_joined : joinedFacts Try.prog 3 Try.f3 Rows.fnExactCommonTableSpec Rows.fnExactCommonTableRow = true :=
  joined_of lawCommonTable_wf lawCommonTable_types lawCommonTable_inPlace lawCommonTable_unfollowed lawCommonTable_recurses lawCommonTable_named rfl rfl rfl

theorem exactCommonTable_holds : Rows.FnExactCommonTableSaid :=
  OpenClaim.holds_of_wide 3 Try.f3 rfl rfl rfl rfl rfl rfl rfl ⟨rfl, rfl, rfl, rfl, rfl⟩ rfl rfl rfl rfl rfl lawCommonTable_name Try.func3 lawCommonTable_joined
    (of_decide_eq_true (by kernel_rfl)) lawCommonTable_wrap
    (fun os started H enc _ => lawCommonTable_lifted os started H enc)
end Go.Proofs.Ythpapkfpcijpoaa
