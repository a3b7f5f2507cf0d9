/-
  For every input that can be read, 'laws.FnExactIsPuzzle' returns true, and its arguments read afterwards as they read before. Conditions: none.
-/
import Derived.Test.YtefkcfkicmfhlaaIsPuzzleP1
import Derived.Test.YtefkcfkicmfhlaaIsPuzzleP2
import Derived.Test.YtefkcfkicmfhlaaIsPuzzleP3
namespace Go.Proofs.Ytefkcfkicmfhlaa
open Go.ChangeShapes Go.WideShapes Go.ChangeAt Go.RowKit

set_option maxRecDepth 100000 in
theorem lawIsPuzzle_lifted (os : Os) (started : os.Started) (H : Type) (enc : TypeId × Value → H) :
    ReturnsInHanded {} Try.checked os 4 .any (Rows.fnExactIsPuzzleSpec.pre6 enc Try.prog Try.f4 Rows.fnExactIsPuzzleRow.domain false) (Rows.fnExactIsPuzzleSpec.post enc Try.prog Try.f4 false true false false) := by
  refine returnsInHanded_of_change (C := Try.checked) Try.own started (by kernel_rfl) Try.func4
    (ChangeSpec.witness6 (enc := enc) (C := Try.checked) false ⟨#[], #[.agg #[.int .i64 0, .slice none 0 0]], []⟩ 8 (by kernel_rfl) (by kernel_rfl) (by kernel_rfl) (by kernel_rfl)) ?_
  intro W base args ds gs before hval0 hW _ _
  have hval : ∀ (j : Nat) t v, Try.f4.params[j]? = some t → args[j]? = some v → Value.okWide Try.prog W .any base t v := hval0
  have hW' := hW
  obtain ⟨p, q, hA0, hV, rfl, _, _⟩ := hW
  have hA : DataW.TrodAll enc Try.prog W 0 (fun _ => true) true Try.f4.params.toList args.toList ds p := hA0
  rw [Try.params4] at hA hval
  obtain ⟨v0, d0, rfl, rfl, h0⟩ := trodAll_one hA
  obtain ⟨rfl, rfl⟩ := trodVars_none hV
  obtain ⟨x0, l0, A0, c0, rfl, hl0, hr0⟩ := open_puzzle (hval 0 _ v0 rfl rfl) h0
  refine (lawIsPuzzle_any x0 l0 A0 c0 W hl0 hr0).mono fun e W' ⟨he, hb⟩ => ?_
  subst he
  exact ⟨_, rfl, law_post Try.laidOut (by kernel_rfl) (by kernel_rfl) Try.underlying4 rfl rfl hW' hb⟩

theorem lawIsPuzzle_types : typeFacts Try.prog Try.f4 Rows.fnExactIsPuzzleSpec Rows.fnExactIsPuzzleRow = true := by kernel_rfl
theorem lawIsPuzzle_wf : Rows.fnExactIsPuzzleRow.wf (OpenSpec.ofChange Rows.fnExactIsPuzzleSpec) = true := by kernel_rfl
theorem lawIsPuzzle_inPlace : (Rows.fnExactIsPuzzleRow.inPlace == Try.prog.inPlace 4) = true := by kernel_rfl
theorem lawIsPuzzle_unfollowed : (Rows.fnExactIsPuzzleRow.unfollowed == Try.prog.unfollowed 4) = true := by kernel_rfl
theorem lawIsPuzzle_recurses : (Rows.fnExactIsPuzzleRow.recurses == Try.prog.recurses 4) = true := by kernel_rfl
theorem lawIsPuzzle_named : (Rows.fnExactIsPuzzleRow.named == Try.prog.varsNamed 4) = true := by kernel_rfl
theorem lawIsPuzzle_name : Try.prog.funcNamed Rows.fnExactIsPuzzleRow.func = some 4 := by kernel_rfl
theorem lawIsPuzzle_wrap : (Try.f4).isWrapper Try.prog Rows.fnExactIsPuzzleRow.wrapper Rows.fnExactIsPuzzleRow.mainSum := by
  unfold Func.isWrapper
  first | (rw [if_pos (by decide +kernel)]; kernel_rfl) | (rw [if_neg (by decide +kernel)]; exact ⟨rfl, rfl⟩)
theorem lawIsPuzzle_joined : joinedFacts Try.prog 4 Try.f4 Rows.fnExactIsPuzzleSpec Rows.fnExactIsPuzzleRow = true :=
  joined_of lawIsPuzzle_wf lawIsPuzzle_types lawIsPuzzle_inPlace lawIsPuzzle_unfollowed lawIsPuzzle_recurses lawIsPuzzle_named rfl rfl rfl

theorem exactIsPuzzle_holds : Rows.FnExactIsPuzzleSaid :=
  OpenClaim.holds_of_wide 4 Try.f4 rfl rfl rfl rfl rfl rfl rfl ⟨rfl, rfl, rfl, rfl, rfl⟩ rfl rfl rfl rfl rfl lawIsPuzzle_name Try.func4 lawIsPuzzle_joined
    (of_decide_eq_true (by kernel_rfl)) lawIsPuzzle_wrap
    (fun os started H enc _ => lawIsPuzzle_lifted os started H enc)
end Go.Proofs.Ytefkcfkicmfhlaa
