/-
  For every input that can be read, 'laws.FnExactIsSeating' returns true, and its arguments read afterwards as they read before. Conditions: none.
-/
import Derived.Test.YtmiecebdkadhbaaIsSeatingP1
import Derived.Test.YtmiecebdkadhbaaIsSeatingP6
namespace Go.Proofs.Ytmiecebdkadhbaa
open Go.ChangeShapes Go.WideShapes Go.ChangeAt Go.RowKit

set_option maxRecDepth 100000 in
theorem lawIsSeating_lifted (os : Os) (started : os.Started) (H : Type) (enc : TypeId × Value → H) :
    ReturnsInHanded {} Try.checked os 3 .any (Rows.fnExactIsSeatingSpec.pre6 enc Try.prog Try.f3 Rows.fnExactIsSeatingRow.domain false) (Rows.fnExactIsSeatingSpec.post enc Try.prog Try.f3 false true false false) := by
  refine returnsInHanded_of_change (C := Try.checked) Try.own started (by kernel_rfl) Try.func3
    (ChangeSpec.witness6 (enc := enc) (C := Try.checked) false ⟨#[], #[.agg #[.int .i64 0, .slice none 0 0], .slice none 0 0], []⟩ 8 (by kernel_rfl) (by kernel_rfl) (by kernel_rfl) (by kernel_rfl)) ?_
  intro W base args ds gs before hval0 hW _ _
  have hval : ∀ (j : Nat) t v, Try.f3.params[j]? = some t → args[j]? = some v → Value.okWide Try.prog W .any base t v := hval0
  have hW' := hW
  obtain ⟨p, q, hA0, hV, rfl, _, _⟩ := hW
  have hA : DataW.TrodAll enc Try.prog W 0 (fun _ => true) true Try.f3.params.toList args.toList ds p := hA0
  rw [Try.params3] at hA hval
  obtain ⟨v0, v1, d0, d1, p0, p1, rfl, rfl, rfl, h0, h1⟩ := trodAll_two hA
  obtain ⟨rfl, rfl⟩ := trodVars_none hV
  obtain ⟨x0, l0, A0, c0, rfl, hl0, hr0⟩ := open_party (hval 0 _ v0 rfl rfl) h0
  obtain ⟨l1, A1, c1, rfl, hl1, hr1⟩ := open_list (hval 1 _ v1 rfl rfl) h1
  refine (lawIsSeating_any x0 l0 A0 c0 l1 A1 c1 W hl0 hr0 hl1 hr1).mono fun e W' ⟨he, hb⟩ => ?_
  subst he
  exact ⟨_, rfl, law_post Try.laidOut (by kernel_rfl) (by kernel_rfl) Try.underlying4 rfl rfl hW' hb⟩

theorem lawIsSeating_types : typeFacts Try.prog Try.f3 Rows.fnExactIsSeatingSpec Rows.fnExactIsSeatingRow = true := by kernel_rfl
theorem lawIsSeating_wf : Rows.fnExactIsSeatingRow.wf (OpenSpec.ofChange Rows.fnExactIsSeatingSpec) = true := by kernel_rfl
theorem lawIsSeating_inPlace : (Rows.fnExactIsSeatingRow.inPlace == Try.prog.inPlace 3) = true := by kernel_rfl
theorem lawIsSeating_unfollowed : (Rows.fnExactIsSeatingRow.unfollowed == Try.prog.unfollowed 3) = true := by kernel_rfl
theorem lawIsSeating_recurses : (Rows.fnExactIsSeatingRow.recurses == Try.prog.recurses 3) = true := by kernel_rfl
theorem lawIsSeating_named : (Rows.fnExactIsSeatingRow.named == Try.prog.varsNamed 3) = true := by kernel_rfl
theorem lawIsSeating_name : Try.prog.funcNamed Rows.fnExactIsSeatingRow.func = some 3 := by kernel_rfl
theorem lawIsSeating_wrap : (Try.f3).isWrapper Try.prog Rows.fnExactIsSeatingRow.wrapper Rows.fnExactIsSeatingRow.mainSum := by
  unfold Func.isWrapper
  first | (rw [if_pos (by decide +kernel)]; kernel_rfl) | (rw [if_neg (by decide +kernel)]; exact ⟨rfl, rfl⟩)
theorem lawIsSeating_joined : joinedFacts Try.prog 3 Try.f3 Rows.fnExactIsSeatingSpec Rows.fnExactIsSeatingRow = true :=
  joined_of lawIsSeating_wf lawIsSeating_types lawIsSeating_inPlace lawIsSeating_unfollowed lawIsSeating_recurses lawIsSeating_named rfl rfl rfl

theorem exactIsSeating_holds : Rows.FnExactIsSeatingSaid :=
  OpenClaim.holds_of_wide_leaving 3 Try.f3 rfl rfl rfl rfl rfl rfl rfl ⟨rfl, rfl, rfl, rfl, rfl⟩ rfl rfl rfl rfl rfl lawIsSeating_name Try.func3 lawIsSeating_joined
    (of_decide_eq_true (by kernel_rfl)) lawIsSeating_wrap
    (fun os started H enc _ => leaving_of_handed (lawIsSeating_lifted os started H enc))
end Go.Proofs.Ytmiecebdkadhbaa
