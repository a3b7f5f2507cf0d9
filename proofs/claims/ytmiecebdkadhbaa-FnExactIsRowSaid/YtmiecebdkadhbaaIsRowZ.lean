/-
  For every input that can be read, 'laws.FnExactIsRow' returns true, and its arguments read afterwards as they read before. Conditions: none.
-/
import Derived.Test.YtmiecebdkadhbaaIsRowP1
import Derived.Test.YtmiecebdkadhbaaIsRowP6
namespace Go.Proofs.Ytmiecebdkadhbaa
open Go.ChangeShapes Go.WideShapes Go.ChangeAt Go.RowKit

set_option maxRecDepth 100000 in
theorem lawIsRow_lifted (os : Os) (started : os.Started) (H : Type) (enc : TypeId × Value → H) :
    ReturnsInHanded {} Try.checked os 4 .any (Rows.fnExactIsRowSpec.pre6 enc Try.prog Try.f4 Rows.fnExactIsRowRow.domain false) (Rows.fnExactIsRowSpec.post enc Try.prog Try.f4 false true false false) := by
  refine returnsInHanded_of_change (C := Try.checked) Try.own started (by kernel_rfl) Try.func4
    (ChangeSpec.witness6 (enc := enc) (C := Try.checked) false ⟨#[], #[.agg #[.int .i64 0, .slice none 0 0], .slice none 0 0], []⟩ 8 (by kernel_rfl) (by kernel_rfl) (by kernel_rfl) (by kernel_rfl)) ?_
  intro W base args ds gs before hval0 hW _ _
  have hval : ∀ (j : Nat) t v, Try.f4.params[j]? = some t → args[j]? = some v → Value.okWide Try.prog W .any base t v := hval0
  have hW' := hW
  obtain ⟨p, q, hA0, hV, rfl, _, _⟩ := hW
  have hA : DataW.TrodAll enc Try.prog W 0 (fun _ => true) true Try.f4.params.toList args.toList ds p := hA0
  rw [Try.params4] at hA hval
  obtain ⟨v0, v1, d0, d1, p0, p1, rfl, rfl, rfl, h0, h1⟩ := trodAll_two hA
  obtain ⟨rfl, rfl⟩ := trodVars_none hV
  obtain ⟨x0, l0, A0, c0, rfl, hl0, hr0⟩ := open_party (hval 0 _ v0 rfl rfl) h0
  obtain ⟨l1, A1, c1, rfl, hl1, hr1⟩ := open_list (hval 1 _ v1 rfl rfl) h1
  refine (lawIsRow_any x0 l0 A0 c0 l1 A1 c1 W hl0 hr0 hl1 hr1).mono fun e W' ⟨he, hb⟩ => ?_
  subst he
  exact ⟨_, rfl, law_post Try.laidOut (by kernel_rfl) (by kernel_rfl) Try.underlying4 rfl rfl hW' hb⟩

theorem lawIsRow_types : typeFacts Try.prog Try.f4 Rows.fnExactIsRowSpec Rows.fnExactIsRowRow = true := by kernel_rfl
theorem lawIsRow_wf : Rows.fnExactIsRowRow.wf (OpenSpec.ofChange Rows.fnExactIsRowSpec) = true := by kernel_rfl
theorem lawIsRow_inPlace : (Rows.fnExactIsRowRow.inPlace == Try.prog.inPlace 4) = true := by kernel_rfl
theorem lawIsRow_unfollowed : (Rows.fnExactIsRowRow.unfollowed == Try.prog.unfollowed 4) = true := by kernel_rfl
theorem lawIsRow_recurses : (Rows.fnExactIsRowRow.recurses == Try.prog.recurses 4) = true := by kernel_rfl
theorem lawIsRow_named : (Rows.fnExactIsRowRow.named == Try.prog.varsNamed 4) = true := by kernel_rfl
theorem lawIsRow_name : Try.prog.funcNamed Rows.fnExactIsRowRow.func = some 4 := by kernel_rfl
theorem lawIsRow_wrap : (Try.f4).isWrapper Try.prog Rows.fnExactIsRowRow.wrapper Rows.fnExactIsRowRow.mainSum := by
  unfold Func.isWrapper
  first | (rw [if_pos (by decide +kernel)]; kernel_rfl) | (rw [if_neg (by decide +kernel)]; exact ⟨rfl, rfl⟩)
theorem lawIsRow_joined : joinedFacts Try.prog 4 Try.f4 Rows.fnExactIsRowSpec Rows.fnExactIsRowRow = true :=
  joined_of lawIsRow_wf lawIsRow_types lawIsRow_inPlace lawIsRow_unfollowed lawIsRow_recurses lawIsRow_named rfl rfl rfl

theorem exactIsRow_holds : Rows.FnExactIsRowSaid :=
  OpenClaim.holds_of_wide_leaving 4 Try.f4 rfl rfl rfl rfl rfl rfl rfl ⟨rfl, rfl, rfl, rfl, rfl⟩ rfl rfl rfl rfl rfl lawIsRow_name Try.func4 lawIsRow_joined
    (of_decide_eq_true (by kernel_rfl)) lawIsRow_wrap
    (fun os started H enc _ => leaving_of_handed (lawIsRow_lifted os started H enc))
end Go.Proofs.Ytmiecebdkadhbaa
