/-
  For every input that can be read, 'laws.FnExactLinesOf' returns true, and its arguments read afterwards as they read before. Conditions: none.
-/
import Derived.Test.YthpapkfpcijpoaaLinesOfP1
import Derived.Test.YthpapkfpcijpoaaLinesOfP4
namespace Go.Proofs.Ythpapkfpcijpoaa
open Go.ChangeShapes Go.WideShapes Go.ChangeAt Go.RowKit

set_option maxRecDepth 100000 in
theorem lawLinesOf_lifted (os : Os) (started : os.Started) (H : Type) (enc : TypeId × Value → H) :
    ReturnsInHanded {} Try.checked os 12 .any (Rows.fnExactLinesOfSpec.pre6 enc Try.prog Try.f12 Rows.fnExactLinesOfRow.domain false) (Rows.fnExactLinesOfSpec.post enc Try.prog Try.f12 false true false false) := by
  refine returnsInHanded_of_change (C := Try.checked) Try.own started (by kernel_rfl) Try.func12
    (ChangeSpec.witness6 (enc := enc) (C := Try.checked) false ⟨#[], #[.agg #[.int .i64 0, .slice none 0 0]], []⟩ 8 (by kernel_rfl) (by kernel_rfl) (by kernel_rfl) (by kernel_rfl)) ?_
  intro W base args ds gs before hval0 hW _ _
  have hval : ∀ (j : Nat) t v, Try.f12.params[j]? = some t → args[j]? = some v → Value.okWide Try.prog W .any base t v := hval0
  have hW' := hW
  obtain ⟨p, q, hA0, hV, rfl, _, _⟩ := hW
  have hA : DataW.TrodAll enc Try.prog W 0 (fun _ => true) true Try.f12.params.toList args.toList ds p := hA0
  rw [Try.params12] at hA hval
  obtain ⟨v0, d0, rfl, rfl, h0⟩ := trodAll_one hA
  obtain ⟨rfl, rfl⟩ := trodVars_none hV
  obtain ⟨x0, l0, A0, c0, rfl, hl0, hr0⟩ := open_party (hval 0 _ v0 rfl rfl) h0
  refine (lawLinesOf_any x0 l0 A0 c0 W hl0 hr0).mono fun e W' ⟨he, hb⟩ => ?_
  subst he
  exact ⟨_, rfl, law_post Try.laidOut (by kernel_rfl) (by kernel_rfl) Try.underlying4 rfl rfl hW' hb⟩

theorem lawLinesOf_types : typeFacts Try.prog Try.f12 Rows.fnExactLinesOfSpec Rows.fnExactLinesOfRow = true := by kernel_rfl
theorem lawLinesOf_wf : Rows.fnExactLinesOfRow.wf (OpenSpec.ofChange Rows.fnExactLinesOfSpec) = true := by kernel_rfl
theorem lawLinesOf_inPlace : (Rows.fnExactLinesOfRow.inPlace == Try.prog.inPlace 12) = true := by kernel_rfl
theorem lawLinesOf_unfollowed : (Rows.fnExactLinesOfRow.unfollowed == Try.prog.unfollowed 12) = true := by kernel_rfl
theorem lawLinesOf_recurses : (Rows.fnExactLinesOfRow.recurses == Try.prog.recurses 12) = true := by kernel_rfl
theorem lawLinesOf_named : (Rows.fnExactLinesOfRow.named == Try.prog.varsNamed 12) = true := by kernel_rfl
theorem lawLinesOf_name : Try.prog.funcNamed Rows.fnExactLinesOfRow.func = some 12 := by kernel_rfl
theorem lawLinesOf_wrap : (Try.f12).isWrapper Try.prog Rows.fnExactLinesOfRow.wrapper Rows.fnExactLinesOfRow.mainSum := by
  unfold Func.isWrapper
  first | (rw [if_pos (by decide +kernel)]; kernel_rfl) | (rw [if_neg (by decide +kernel)]; exact ⟨rfl, rfl⟩)
theorem lawLinesOf_joined : joinedFacts Try.prog 12 Try.f12 Rows.fnExactLinesOfSpec Rows.fnExactLinesOfRow = true :=
  joined_of lawLinesOf_wf lawLinesOf_types lawLinesOf_inPlace lawLinesOf_unfollowed lawLinesOf_recurses lawLinesOf_named rfl rfl rfl

theorem exactLinesOf_holds : Rows.FnExactLinesOfSaid :=
  OpenClaim.holds_of_wide 12 Try.f12 rfl rfl rfl rfl rfl rfl rfl ⟨rfl, rfl, rfl, rfl, rfl⟩ rfl rfl rfl rfl rfl lawLinesOf_name Try.func12 lawLinesOf_joined
    (of_decide_eq_true (by kernel_rfl)) lawLinesOf_wrap
    (fun os started H enc _ => lawLinesOf_lifted os started H enc)
end Go.Proofs.Ythpapkfpcijpoaa
