/-
  For every input that can be read, 'laws.FnExactIsDesk' returns true, and its arguments read afterwards as they read before. Conditions: none.
-/
import Derived.Test.YtkiobefojckocaaIsDeskP2
namespace Go.Proofs.Ytkiobefojckocaa
open Go.ChangeShapes Go.WideShapes Go.ChangeAt Go.RowKit

set_option maxRecDepth 100000 in
theorem lawIsDesk_lifted (os : Os) (started : os.Started) (H : Type) (enc : TypeId × Value → H) :
    ReturnsInHanded {} Try.checked os 4 .any (Rows.fnExactIsDeskSpec.pre6 enc Try.prog Try.f4 Rows.fnExactIsDeskRow.domain false) (Rows.fnExactIsDeskSpec.post enc Try.prog Try.f4 false true false false) := by
  refine returnsInHanded_of_change (C := Try.checked) Try.own started (by kernel_rfl) Try.func4
    (ChangeSpec.witness6 (enc := enc) (C := Try.checked) false ⟨#[], #[.agg #[.int .i64 0, .slice none 0 0, .int .i64 0, .slice none 0 0]], []⟩ 8 (by kernel_rfl) (by kernel_rfl) (by kernel_rfl) (by kernel_rfl)) ?_
  intro W base args ds gs before hval0 hW _ _
  have hval : ∀ (j : Nat) t v, Try.f4.params[j]? = some t → args[j]? = some v → Value.okWide Try.prog W .any base t v := hval0
  have hW' := hW
  obtain ⟨p, q, hA0, hV, rfl, _, _⟩ := hW
  have hA : DataW.TrodAll enc Try.prog W 0 (fun _ => true) true Try.f4.params.toList args.toList ds p := hA0
  rw [Try.params4] at hA hval
  obtain ⟨v0, d0, rfl, rfl, h0⟩ := trodAll_one hA
  obtain ⟨rfl, rfl⟩ := trodVars_none hV
  obtain ⟨x0, l0, A0, c0, y0, m0, B0, e0, rfl, hl0, hr0, hm0, hs0⟩ := open_desk (hval 0 _ v0 rfl rfl) h0
  refine (lawIsDesk_any x0 y0 l0 m0 A0 B0 c0 e0 W hl0 hr0 hm0 hs0).mono fun e W' ⟨he, hb⟩ => ?_
  subst he
  exact ⟨_, rfl, law_post Try.laidOut (by kernel_rfl) (by kernel_rfl) Try.underlying4 rfl rfl hW' hb⟩

theorem lawIsDesk_types : typeFacts Try.prog Try.f4 Rows.fnExactIsDeskSpec Rows.fnExactIsDeskRow = true := by kernel_rfl
theorem lawIsDesk_wf : Rows.fnExactIsDeskRow.wf (OpenSpec.ofChange Rows.fnExactIsDeskSpec) = true := by kernel_rfl
theorem lawIsDesk_inPlace : (Rows.fnExactIsDeskRow.inPlace == Try.prog.inPlace 4) = true := by kernel_rfl
theorem lawIsDesk_unfollowed : (Rows.fnExactIsDeskRow.unfollowed == Try.prog.unfollowed 4) = true := by kernel_rfl
theorem lawIsDesk_recurses : (Rows.fnExactIsDeskRow.recurses == Try.prog.recurses 4) = true := by kernel_rfl
theorem lawIsDesk_named : (Rows.fnExactIsDeskRow.named == Try.prog.varsNamed 4) = true := by kernel_rfl
theorem lawIsDesk_name : Try.prog.funcNamed Rows.fnExactIsDeskRow.func = some 4 := by kernel_rfl
theorem lawIsDesk_wrap : (Try.f4).isWrapper Try.prog Rows.fnExactIsDeskRow.wrapper Rows.fnExactIsDeskRow.mainSum := by
  unfold Func.isWrapper
  first | (rw [if_pos (by decide +kernel)]; kernel_rfl) | (rw [if_neg (by decide +kernel)]; exact ⟨rfl, rfl⟩)
theorem lawIsDesk_joined : joinedFacts Try.prog 4 Try.f4 Rows.fnExactIsDeskSpec Rows.fnExactIsDeskRow = true :=
  joined_of lawIsDesk_wf lawIsDesk_types lawIsDesk_inPlace lawIsDesk_unfollowed lawIsDesk_recurses lawIsDesk_named rfl rfl rfl

theorem exactIsDesk_holds : Rows.FnExactIsDeskSaid :=
  OpenClaim.holds_of_wide 4 Try.f4 rfl rfl rfl rfl rfl rfl rfl ⟨rfl, rfl, rfl, rfl, rfl⟩ rfl rfl rfl rfl rfl lawIsDesk_name Try.func4 lawIsDesk_joined
    (of_decide_eq_true (by kernel_rfl)) lawIsDesk_wrap
    (fun os started H enc _ => lawIsDesk_lifted os started H enc)
end Go.Proofs.Ytkiobefojckocaa
