/-
  For every input that can be read, 'laws.FnExactTurnSeats' returns true, and its arguments read afterwards as they read before. Conditions: none.
-/
import Derived.Test.YtmiecebdkadhbaaTurnSeatsP1
import Derived.Test.YtmiecebdkadhbaaTurnSeatsP5
namespace Go.Proofs.Ytmiecebdkadhbaa
open Go.ChangeShapes Go.WideShapes Go.ChangeAt Go.RowKit

set_option maxRecDepth 100000 in
theorem lawTurnSeats_lifted (os : Os) (started : os.Started) (H : Type) (enc : TypeId × Value → H) :
    ReturnsInHanded {} Try.checked os 6 .any (Rows.fnExactTurnSeatsSpec.pre6 enc Try.prog Try.f6 Rows.fnExactTurnSeatsRow.domain false) (Rows.fnExactTurnSeatsSpec.post enc Try.prog Try.f6 false true false false) := by
  refine returnsInHanded_of_change (C := Try.checked) Try.own started (by kernel_rfl) Try.func6
    (ChangeSpec.witness6 (enc := enc) (C := Try.checked) false ⟨#[], #[.slice none 0 0, .int .i64 0, .int .i64 0], []⟩ 8 (by kernel_rfl) (by kernel_rfl) (by kernel_rfl) (by kernel_rfl)) ?_
  intro W base args ds gs before hval0 hW _ _
  have hval : ∀ (j : Nat) t v, Try.f6.params[j]? = some t → args[j]? = some v → Value.okWide Try.prog W .any base t v := hval0
  have hW' := hW
  obtain ⟨p, q, hA0, hV, rfl, _, _⟩ := hW
  have hA : DataW.TrodAll enc Try.prog W 0 (fun _ => true) true Try.f6.params.toList args.toList ds p := hA0
  rw [Try.params6] at hA hval
  obtain ⟨v0, v1, v2, d0, d1, d2, p0, p1, p2, rfl, rfl, rfl, h0, h1, h2⟩ := trodAll_three hA
  obtain ⟨rfl, rfl⟩ := trodVars_none hV
  obtain ⟨l0, A0, c0, rfl, hl0, hr0⟩ := open_list (hval 0 _ v0 rfl rfl) h0
  obtain ⟨x1, rfl, _, _, wf1⟩ := open_int Try.underlying3 (hval 1 _ v1 rfl rfl) h1
  obtain ⟨x2, rfl, _, _, wf2⟩ := open_int Try.underlying3 (hval 2 _ v2 rfl rfl) h2
  refine (lawTurnSeats_any l0 A0 c0 x1 x2 W hl0 hr0).mono fun e W' ⟨he, hb⟩ => ?_
  subst he
  exact ⟨_, rfl, law_post Try.laidOut (by kernel_rfl) (by kernel_rfl) Try.underlying4 rfl rfl hW' hb⟩

theorem lawTurnSeats_types : typeFacts Try.prog Try.f6 Rows.fnExactTurnSeatsSpec Rows.fnExactTurnSeatsRow = true := by kernel_rfl
theorem lawTurnSeats_wf : Rows.fnExactTurnSeatsRow.wf (OpenSpec.ofChange Rows.fnExactTurnSeatsSpec) = true := by kernel_rfl
theorem lawTurnSeats_inPlace : (Rows.fnExactTurnSeatsRow.inPlace == Try.prog.inPlace 6) = true := by kernel_rfl
theorem lawTurnSeats_unfollowed : (Rows.fnExactTurnSeatsRow.unfollowed == Try.prog.unfollowed 6) = true := by kernel_rfl
theorem lawTurnSeats_recurses : (Rows.fnExactTurnSeatsRow.recurses == Try.prog.recurses 6) = true := by kernel_rfl
theorem lawTurnSeats_named : (Rows.fnExactTurnSeatsRow.named == Try.prog.varsNamed 6) = true := by kernel_rfl
theorem lawTurnSeats_name : Try.prog.funcNamed Rows.fnExactTurnSeatsRow.func = some 6 := by kernel_rfl
theorem lawTurnSeats_wrap : (Try.f6).isWrapper Try.prog Rows.fnExactTurnSeatsRow.wrapper Rows.fnExactTurnSeatsRow.mainSum := by
  unfold Func.isWrapper
  first | (rw [if_pos (by decide +kernel)]; kernel_rfl) | (rw [if_neg (by decide +kernel)]; exact ⟨rfl, rfl⟩)
theorem lawTurnSeats_joined : joinedFacts Try.prog 6 Try.f6 Rows.fnExactTurnSeatsSpec Rows.fnExactTurnSeatsRow = true :=
  joined_of lawTurnSeats_wf lawTurnSeats_types lawTurnSeats_inPlace lawTurnSeats_unfollowed lawTurnSeats_recurses lawTurnSeats_named rfl rfl rfl

theorem exactTurnSeats_holds : Rows.FnExactTurnSeatsSaid :=
  OpenClaim.holds_of_wide 6 Try.f6 rfl rfl rfl rfl rfl rfl rfl ⟨rfl, rfl, rfl, rfl, rfl⟩ rfl rfl rfl rfl rfl lawTurnSeats_name Try.func6 lawTurnSeats_joined
    (of_decide_eq_true (by kernel_rfl)) lawTurnSeats_wrap
    (fun os started H enc _ => lawTurnSeats_lifted os started H enc)
end Go.Proofs.Ytmiecebdkadhbaa
