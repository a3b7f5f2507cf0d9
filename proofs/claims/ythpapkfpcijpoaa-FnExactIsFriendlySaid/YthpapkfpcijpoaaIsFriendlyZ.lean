/-
  For every input that can be read, 'laws.FnExactIsFriendly' returns true, and its arguments read afterwards as they read before. Conditions: none.
-/
import Derived.Test.YthpapkfpcijpoaaIsFriendlyP1
import Derived.Test.YthpapkfpcijpoaaIsFriendlyP5
namespace Go.Proofs.Ythpapkfpcijpoaa
open Go.ChangeShapes Go.WideShapes Go.ChangeAt Go.RowKit

set_option maxRecDepth 100000 in
theorem lawIsFriendly_lifted (os : Os) (started : os.Started) (H : Type) (enc : TypeId × Value → H) :
    ReturnsInHanded {} Try.checked os 4 .any (Rows.fnExactIsFriendlySpec.pre6 enc Try.prog Try.f4 Rows.fnExactIsFriendlyRow.domain false) (Rows.fnExactIsFriendlySpec.post enc Try.prog Try.f4 false true false false) := by
  refine returnsInHanded_of_change (C := Try.checked) Try.own started (by kernel_rfl) Try.func4
    (ChangeSpec.witness6 (enc := enc) (C := Try.checked) false ⟨#[], #[.agg #[.int .i64 0, .slice none 0 0]], []⟩ 8 (by kernel_rfl) (by kernel_rfl) (by kernel_rfl) (by kernel_rfl)) ?_
  intro W base args ds gs before hval0 hW _ _
  have hval : ∀ (j : Nat) t v, Try.f4.params[j]? = some t → args[j]? = some v → Value.okWide Try.prog W .any base t v := hval0
  have hW' := hW
  obtain ⟨p, q, hA0, hV, rfl, _, _⟩ := hW
  have hA : DataW.TrodAll enc Try.prog W 0 (fun _ => true) true Try.f4.params.toList args.toList ds p := hA0
  rw [Try.params4] at hA hval
  obtain ⟨v0, d0, rfl, rfl, h0⟩ := trodAll_one hA
  obtain ⟨rfl, rfl⟩ := trodVars_none hV
  obtain ⟨x0, l0, A0, c0, rfl, hl0, hr0⟩ := open_party (hval 0 _ v0 rfl rfl) h0
  refine (lawIsFriendly_any x0 l0 A0 c0 W hl0 hr0).mono fun e W' ⟨he, hb⟩ => ?_
  subst he
  exact ⟨_, rfl, law_post Try.laidOut (by kernel_rfl) (by kernel_rfl) Try.underlying4 rfl rfl hW' hb⟩

theorem lawIsFriendly_types : typeFacts Try.prog Try.f4 Rows.fnExactIsFriendlySpec Rows.fnExactIsFriendlyRow = true := by kernel_rfl
theorem lawIsFriendly_wf : Rows.fnExactIsFriendlyRow.wf (OpenSpec.ofChange Rows.fnExactIsFriendlySpec) = true := by kernel_rfl
theorem lawIsFriendly_inPlace : (Rows.fnExactIsFriendlyRow.inPlace == Try.prog.inPlace 4) = true := by kernel_rfl
theorem lawIsFriendly_unfollowed : (Rows.fnExactIsFriendlyRow.unfollowed == Try.prog.unfollowed 4) = true := by kernel_rfl
theorem lawIsFriendly_recurses : (Rows.fnExactIsFriendlyRow.recurses == Try.prog.recurses 4) = true := by kernel_rfl
theorem lawIsFriendly_named : (Rows.fnExactIsFriendlyRow.named == Try.prog.varsNamed 4) = true := by kernel_rfl
theorem lawIsFriendly_name : Try.prog.funcNamed Rows.fnExactIsFriendlyRow.func = some 4 := by kernel_rfl
theorem lawIsFriendly_wrap : (Try.f4).isWrapper Try.prog Rows.fnExactIsFriendlyRow.wrapper Rows.fnExactIsFriendlyRow.mainSum := by
  unfold Func.isWrapper
  first | (rw [if_pos (by decide +kernel)]; kernel_rfl) | (rw [if_neg (by decide +kernel)]; exact ⟨rfl, rfl⟩)
theorem lawIsFriendly_joined : joinedFacts Try.prog 4 Try.f4 Rows.fnExactIsFriendlySpec Rows.fnExactIsFriendlyRow = true :=
  joined_of lawIsFriendly_wf lawIsFriendly_types lawIsFriendly_inPlace lawIsFriendly_unfollowed lawIsFriendly_recurses lawIsFriendly_named rfl rfl rfl

theorem exactIsFriendly_holds : Rows.FnExactIsFriendlySaid :=
  OpenClaim.holds_of_wide 4 Try.f4 rfl rfl rfl rfl rfl rfl rfl ⟨rfl, rfl, rfl, rfl, rfl⟩ rfl rfl rfl rfl rfl lawIsFriendly_name Try.func4 lawIsFriendly_joined
    (of_decide_eq_true (by kernel_rfl)) lawIsFriendly_wrap
    (fun os started H enc _ => lawIsFriendly_lifted os started H enc)
end Go.Proofs.Ythpapkfpcijpoaa
