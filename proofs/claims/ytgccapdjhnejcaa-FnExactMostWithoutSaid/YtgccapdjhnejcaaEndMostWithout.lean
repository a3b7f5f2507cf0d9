/-
  For every input that can be read, 'laws.FnExactMostWithout' returns true, and its arguments read afterwards as they read before. Conditions: none.
-/
import Derived.Test.YtgccapdjhnejcaaLawMostWithout
import Derived.Test.YtgccapdjhnejcaaSaid
import Derived.Test.YtgccapdjhnejcaaFacts
namespace Go.Proofs.Ytgccapdjhnejcaa
open Go.ChangeShapes Go.WideShapes Go.ChangeAt Go.RowKit

set_option maxRecDepth 100000 in
theorem lawMostWithout_lifted (os : Os) (started : os.Started) (H : Type) (enc : TypeId × Value → H) :
    ReturnsInHanded {} Try.checked os 6 .any (Rows.fnExactMostWithoutSpec.pre6 enc Try.prog Try.f6 Rows.fnExactMostWithoutRow.domain false) (Rows.fnExactMostWithoutSpec.post enc Try.prog Try.f6 false true false false) := by
  refine returnsInHanded_of_change (C := Try.checked) Try.own started (by kernel_rfl) Try.func6
    (ChangeSpec.witness6 (enc := enc) (C := Try.checked) false ⟨#[], #[.int .i64 0, .int .i64 0], []⟩ 8 (by kernel_rfl) (by kernel_rfl) (by kernel_rfl) (by kernel_rfl)) ?_
  intro W base args ds gs before hval0 hW _ _
  have hval : ∀ (j : Nat) t v, Try.f6.params[j]? = some t → args[j]? = some v → Value.okWide Try.prog W .any base t v := hval0
  have hW' := hW
  obtain ⟨p, q, hA0, hV, rfl, _, _⟩ := hW
  have hA : DataW.TrodAll enc Try.prog W 0 (fun _ => true) true Try.f6.params.toList args.toList ds p := hA0
  rw [Try.params6] at hA hval
  obtain ⟨v0, v1, d0, d1, p0, p1, rfl, rfl, rfl, h0, h1⟩ := trodAll_two hA
  obtain ⟨rfl, rfl⟩ := trodVars_none hV
  obtain ⟨x0, rfl, _, _, wf0⟩ := open_int Try.underlying3 (hval 0 _ v0 rfl rfl) h0
  obtain ⟨x1, rfl, _, _, wf1⟩ := open_int Try.underlying3 (hval 1 _ v1 rfl rfl) h1
  have hr1 : -9223372036854775808 ≤ x1 ∧ x1 ≤ 9223372036854775807 := by simp [Lit.wf, IntKind.min, IntKind.max, IntKind.bits, IntKind.signed] at wf1; omega
  refine (lawMostWithout_any x0 x1 W hr1).mono fun e W' ⟨he, hb⟩ => ?_
  subst he
  exact ⟨_, rfl, law_post Try.laidOut (by kernel_rfl) (by kernel_rfl) Try.underlying4 rfl rfl hW' hb⟩

theorem lawMostWithout_types : typeFacts Try.prog Try.f6 Rows.fnExactMostWithoutSpec Rows.fnExactMostWithoutRow = true := by kernel_rfl
theorem lawMostWithout_wf : Rows.fnExactMostWithoutRow.wf (OpenSpec.ofChange Rows.fnExactMostWithoutSpec) = true := by kernel_rfl
theorem lawMostWithout_inPlace : (Rows.fnExactMostWithoutRow.inPlace == Try.prog.inPlace 6) = true := by kernel_rfl
theorem lawMostWithout_unfollowed : (Rows.fnExactMostWithoutRow.unfollowed == Try.prog.unfollowed 6) = true := by kernel_rfl
theorem lawMostWithout_recurses : (Rows.fnExactMostWithoutRow.recurses == Try.prog.recurses 6) = true := by kernel_rfl
theorem lawMostWithout_named : (Rows.fnExactMostWithoutRow.named == Try.prog.varsNamed 6) = true := by kernel_rfl
theorem lawMostWithout_name : Try.prog.funcNamed Rows.fnExactMostWithoutRow.func = some 6 := by kernel_rfl
theorem lawMostWithout_wrap : (Try.f6).isWrapper Try.prog Rows.fnExactMostWithoutRow.wrapper Rows.fnExactMostWithoutRow.mainSum := by
  unfold Func.isWrapper
  first | (rw [if_pos (by decide +kernel)]; kernel_rfl) | (rw [if_neg (by decide +kernel)]; exact ⟨rfl, rfl⟩)
theorem lawMostWithout_joined : joinedFacts Try.prog 6 Try.f6 Rows.fnExactMostWithoutSpec Rows.fnExactMostWithoutRow = true :=
  joined_of lawMostWithout_wf lawMostWithout_types lawMostWithout_inPlace lawMostWithout_unfollowed lawMostWithout_recurses lawMostWithout_named rfl rfl rfl

theorem exactMostWithout_holds : Rows.FnExactMostWithoutSaid :=
  OpenClaim.holds_of_wide 6 Try.f6 rfl rfl rfl rfl rfl rfl rfl ⟨rfl, rfl, rfl, rfl, rfl⟩ rfl rfl rfl rfl rfl lawMostWithout_name Try.func6 lawMostWithout_joined
    (of_decide_eq_true (by kernel_rfl)) lawMostWithout_wrap
    (fun os started H enc _ => lawMostWithout_lifted os started H enc)
end Go.Proofs.Ytgccapdjhnejcaa
