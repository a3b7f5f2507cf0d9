/-
  For every input that can be read, 'laws.FnExactColourOf' returns true, and its arguments read afterwards as they read before. Conditions: none.
-/
import Derived.Test.YtepoabbkalhifaaColourOfP1
import Derived.Test.YtepoabbkalhifaaColourOfP5
namespace Go.Proofs.Ytepoabbkalhifaa
open Go.ChangeShapes Go.WideShapes Go.ChangeAt Go.RowKit

set_option maxRecDepth 100000 in
theorem lawColourOf_lifted (os : Os) (started : os.Started) (H : Type) (enc : TypeId × Value → H) :
    ReturnsInHanded {} Try.checked os 4 .any (Rows.fnExactColourOfSpec.pre6 enc Try.prog Try.f4 Rows.fnExactColourOfRow.domain false) (Rows.fnExactColourOfSpec.post enc Try.prog Try.f4 false true false false) := by
  refine returnsInHanded_of_change (C := Try.checked) Try.own started (by kernel_rfl) Try.func4
    (ChangeSpec.witness6 (enc := enc) (C := Try.checked) false ⟨#[], #[.agg #[.int .i64 0, .int .i64 0, .slice none 0 0], .int .i64 0, .int .i64 0], []⟩ 8 (by kernel_rfl) (by kernel_rfl) (by kernel_rfl) (by kernel_rfl)) ?_
  intro W base args ds gs before hval0 hW _ _
  have hval : ∀ (j : Nat) t v, Try.f4.params[j]? = some t → args[j]? = some v → Value.okWide Try.prog W .any base t v := hval0
  have hW' := hW
  obtain ⟨p, q, hA0, hV, rfl, _, _⟩ := hW
  have hA : DataW.TrodAll enc Try.prog W 0 (fun _ => true) true Try.f4.params.toList args.toList ds p := hA0
  rw [Try.params4] at hA hval
  obtain ⟨v0, v1, v2, d0, d1, d2, p0, p1, p2, rfl, rfl, rfl, h0, h1, h2⟩ := trodAll_three hA
  obtain ⟨rfl, rfl⟩ := trodVars_none hV
  obtain ⟨x0, k0, l0, A0, c0, rfl, hl0, hr0⟩ := open_painting (hval 0 _ v0 rfl rfl) h0
  obtain ⟨x1, rfl, _, _, wf1⟩ := open_int Try.underlying3 (hval 1 _ v1 rfl rfl) h1
  obtain ⟨x2, rfl, _, _, wf2⟩ := open_int Try.underlying3 (hval 2 _ v2 rfl rfl) h2
  refine (lawColourOf_any x0 k0 l0 A0 c0 x1 x2 W hl0 hr0).mono fun e W' ⟨he, hb⟩ => ?_
  subst he
  exact ⟨_, rfl, law_post Try.laidOut (by kernel_rfl) (by kernel_rfl) Try.underlying4 rfl rfl hW' hb⟩

theorem lawColourOf_types : typeFacts Try.prog Try.f4 Rows.fnExactColourOfSpec Rows.fnExactColourOfRow = true := by kernel_rfl
theorem lawColourOf_wf : Rows.fnExactColourOfRow.wf (OpenSpec.ofChange Rows.fnExactColourOfSpec) = true := by kernel_rfl
theorem lawColourOf_inPlace : (Rows.fnExactColourOfRow.inPlace == Try.prog.inPlace 4) = true := by kernel_rfl
theorem lawColourOf_unfollowed : (Rows.fnExactColourOfRow.unfollowed == Try.prog.unfollowed 4) = true := by kernel_rfl
theorem lawColourOf_recurses : (Rows.fnExactColourOfRow.recurses == Try.prog.recurses 4) = true := by kernel_rfl
theorem lawColourOf_named : (Rows.fnExactColourOfRow.named == Try.prog.varsNamed 4) = true := by kernel_rfl
theorem lawColourOf_name : Try.prog.funcNamed Rows.fnExactColourOfRow.func = some 4 := by kernel_rfl
theorem lawColourOf_wrap : (Try.f4).isWrapper Try.prog Rows.fnExactColourOfRow.wrapper Rows.fnExactColourOfRow.mainSum := by
  unfold Func.isWrapper
  first | (rw [if_pos (by decide +kernel)]; kernel_rfl) | (rw [if_neg (by decide +kernel)]; exact ⟨rfl, rfl⟩)
theorem lawColourOf_joined : joinedFacts Try.prog 4 Try.f4 Rows.fnExactColourOfSpec Rows.fnExactColourOfRow = true :=
  joined_of lawColourOf_wf lawColourOf_types lawColourOf_inPlace lawColourOf_unfollowed lawColourOf_recurses lawColourOf_named rfl rfl rfl

theorem exactColourOf_holds : Rows.FnExactColourOfSaid :=
  OpenClaim.holds_of_wide 4 Try.f4 rfl rfl rfl rfl rfl rfl rfl ⟨rfl, rfl, rfl, rfl, rfl⟩ rfl rfl rfl rfl rfl lawColourOf_name Try.func4 lawColourOf_joined
    (of_decide_eq_true (by kernel_rfl)) lawColourOf_wrap
    (fun os started H enc _ => lawColourOf_lifted os started H enc)
end Go.Proofs.Ytepoabbkalhifaa
