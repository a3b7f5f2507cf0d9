/-
  For every input that can be read, 'laws.FnExactIsClue' returns true, and its arguments read afterwards as they read before. Conditions: none.
-/
import Derived.Test.YtefkcfkicmfhlaaIsClueP1
import Derived.Test.YtefkcfkicmfhlaaIsClueP2
import Derived.Test.YtefkcfkicmfhlaaIsClueP3
namespace Go.Proofs.Ytefkcfkicmfhlaa
open Go.ChangeShapes Go.WideShapes Go.ChangeAt Go.RowKit

set_option maxRecDepth 100000 in
theorem lawIsClue_lifted (os : Os) (started : os.Started) (H : Type) (enc : TypeId × Value → H) :
    ReturnsInHanded {} Try.checked os 3 .any (Rows.fnExactIsClueSpec.pre6 enc Try.prog Try.f3 Rows.fnExactIsClueRow.domain false) (Rows.fnExactIsClueSpec.post enc Try.prog Try.f3 false true false false) := by
  refine returnsInHanded_of_change (C := Try.checked) Try.own started (by kernel_rfl) Try.func3
    (ChangeSpec.witness6 (enc := enc) (C := Try.checked) false ⟨#[], #[.int .i64 0, .agg #[.int .i64 0, .int .i64 0, .int .i64 0]], []⟩ 8 (by kernel_rfl) (by kernel_rfl) (by kernel_rfl) (by kernel_rfl)) ?_
  intro W base args ds gs before hval0 hW _ _
  have hval : ∀ (j : Nat) t v, Try.f3.params[j]? = some t → args[j]? = some v → Value.okWide Try.prog W .any base t v := hval0
  have hW' := hW
  obtain ⟨p, q, hA0, hV, rfl, _, _⟩ := hW
  have hA : DataW.TrodAll enc Try.prog W 0 (fun _ => true) true Try.f3.params.toList args.toList ds p := hA0
  rw [Try.params3] at hA hval
  obtain ⟨v0, v1, d0, d1, p0, p1, rfl, rfl, rfl, h0, h1⟩ := trodAll_two hA
  obtain ⟨rfl, rfl⟩ := trodVars_none hV
  obtain ⟨x0, rfl, _, _, wf0⟩ := open_int Try.underlying3 (hval 0 _ v0 rfl rfl) h0
  obtain ⟨ka1, kb1, kc1, rfl⟩ := open_clue (hval 1 _ v1 rfl rfl) h1
  refine (lawIsClue_any x0 ka1 kb1 kc1 W ).mono fun e W' ⟨he, hb⟩ => ?_
  subst he
  exact ⟨_, rfl, law_post Try.laidOut (by kernel_rfl) (by kernel_rfl) Try.underlying4 rfl rfl hW' hb⟩

theorem lawIsClue_types : typeFacts Try.prog Try.f3 Rows.fnExactIsClueSpec Rows.fnExactIsClueRow = true := by kernel_rfl
theorem lawIsClue_wf : Rows.fnExactIsClueRow.wf (OpenSpec.ofChange Rows.fnExactIsClueSpec) = true := by kernel_rfl
theorem lawIsClue_inPlace : (Rows.fnExactIsClueRow.inPlace == Try.prog.inPlace 3) = true := by kernel_rfl
theorem lawIsClue_unfollowed : (Rows.fnExactIsClueRow.unfollowed == Try.prog.unfollowed 3) = true := by kernel_rfl
theorem lawIsClue_recurses : (Rows.fnExactIsClueRow.recurses == Try.prog.recurses 3) = true := by kernel_rfl
theorem lawIsClue_named : (Rows.fnExactIsClueRow.named == Try.prog.varsNamed 3) = true := by kernel_rfl
theorem lawIsClue_name : Try.prog.funcNamed Rows.fnExactIsClueRow.func = some 3 := by kernel_rfl
theorem lawIsClue_wrap : (Try.f3).isWrapper Try.prog Rows.fnExactIsClueRow.wrapper Rows.fnExactIsClueRow.mainSum := by
  unfold Func.isWrapper
  first | (rw [if_pos (by decide +kernel)]; kernel_rfl) | (rw [if_neg (by decide +kernel)]; exact ⟨rfl, rfl⟩)
theorem lawIsClue_joined : joinedFacts Try.prog 3 Try.f3 Rows.fnExactIsClueSpec Rows.fnExactIsClueRow = true :=
  joined_of lawIsClue_wf lawIsClue_types lawIsClue_inPlace lawIsClue_unfollowed lawIsClue_recurses lawIsClue_named rfl rfl rfl

theorem exactIsClue_holds : Rows.FnExactIsClueSaid :=
  OpenClaim.holds_of_wide 3 Try.f3 rfl rfl rfl rfl rfl rfl rfl ⟨rfl, rfl, rfl, rfl, rfl⟩ rfl rfl rfl rfl rfl lawIsClue_name Try.func3 lawIsClue_joined
    (of_decide_eq_true (by kernel_rfl)) lawIsClue_wrap
    (fun os started H enc _ => lawIsClue_lifted os started H enc)
end Go.Proofs.Ytefkcfkicmfhlaa
