/-
  For every input that can be read, 'laws.FnExactAddClue' returns true, and its arguments read afterwards as they read before. Conditions: none.
-/
import Derived.Test.YtkiobefojckocaaAddClueP1
import Derived.Test.YtkiobefojckocaaAddClueP2
import Derived.Test.YtkiobefojckocaaAddClueP4
namespace Go.Proofs.Ytkiobefojckocaa
open Go.ChangeShapes Go.WideShapes Go.ChangeAt Go.RowKit

set_option maxRecDepth 100000 in
theorem lawAddClue_lifted (os : Os) (started : os.Started) (H : Type) (enc : TypeId × Value → H) :
    ReturnsInHanded {} Try.checked os 8 .any (Rows.fnExactAddClueSpec.pre6 enc Try.prog Try.f8 Rows.fnExactAddClueRow.domain false) (Rows.fnExactAddClueSpec.post enc Try.prog Try.f8 false true false false) := by
  refine returnsInHanded_of_change (C := Try.checked) Try.own started (by kernel_rfl) Try.func8
    (ChangeSpec.witness6 (enc := enc) (C := Try.checked) false ⟨#[], #[.agg #[.int .i64 0, .slice none 0 0], .agg #[.int .i64 0, .int .i64 0, .int .i64 0]], []⟩ 8 (by kernel_rfl) (by kernel_rfl) (by kernel_rfl) (by kernel_rfl)) ?_
  intro W base args ds gs before hval0 hW _ _
  have hval : ∀ (j : Nat) t v, Try.f8.params[j]? = some t → args[j]? = some v → Value.okWide Try.prog W .any base t v := hval0
  have hW' := hW
  obtain ⟨p, q, hA0, hV, rfl, _, _⟩ := hW
  have hA : DataW.TrodAll enc Try.prog W 0 (fun _ => true) true Try.f8.params.toList args.toList ds p := hA0
  rw [Try.params8] at hA hval
  obtain ⟨v0, v1, d0, d1, p0, p1, rfl, rfl, rfl, h0, h1⟩ := trodAll_two hA
  obtain ⟨rfl, rfl⟩ := trodVars_none hV
  obtain ⟨x0, l0, A0, c0, rfl, hl0, hr0⟩ := open_puzzle (hval 0 _ v0 rfl rfl) h0
  obtain ⟨ka1, kb1, kc1, rfl⟩ := open_clue (hval 1 _ v1 rfl rfl) h1
  refine (lawAddClue_any x0 l0 A0 c0 ka1 kb1 kc1 W hl0 hr0).mono fun e W' ⟨he, hb⟩ => ?_
  subst he
  exact ⟨_, rfl, law_post Try.laidOut (by kernel_rfl) (by kernel_rfl) Try.underlying4 rfl rfl hW' hb⟩

theorem lawAddClue_types : typeFacts Try.prog Try.f8 Rows.fnExactAddClueSpec Rows.fnExactAddClueRow = true := by kernel_rfl
theorem lawAddClue_wf : Rows.fnExactAddClueRow.wf (OpenSpec.ofChange Rows.fnExactAddClueSpec) = true := by kernel_rfl
theorem lawAddClue_inPlace : (Rows.fnExactAddClueRow.inPlace == Try.prog.inPlace 8) = true := by kernel_rfl
theorem lawAddClue_unfollowed : (Rows.fnExactAddClueRow.unfollowed == Try.prog.unfollowed 8) = true := by kernel_rfl
theorem lawAddClue_recurses : (Rows.fnExactAddClueRow.recurses == Try.prog.recurses 8) = true := by kernel_rfl
theorem lawAddClue_named : (Rows.fnExactAddClueRow.named == Try.prog.varsNamed 8) = true := by kernel_rfl
theorem lawAddClue_name : Try.prog.funcNamed Rows.fnExactAddClueRow.func = some 8 := by kernel_rfl
theorem lawAddClue_wrap : (Try.f8).isWrapper Try.prog Rows.fnExactAddClueRow.wrapper Rows.fnExactAddClueRow.mainSum := by
  unfold Func.isWrapper
  first | (rw [if_pos (by decide +kernel)]; kernel_rfl) | (rw [if_neg (by decide +kernel)]; exact ⟨rfl, rfl⟩)
theorem lawAddClue_joined : joinedFacts Try.prog 8 Try.f8 Rows.fnExactAddClueSpec Rows.fnExactAddClueRow = true :=
  joined_of lawAddClue_wf lawAddClue_types lawAddClue_inPlace lawAddClue_unfollowed lawAddClue_recurses lawAddClue_named rfl rfl rfl

theorem exactAddClue_holds : Rows.FnExactAddClueSaid :=
  OpenClaim.holds_of_wide 8 Try.f8 rfl rfl rfl rfl rfl rfl rfl ⟨rfl, rfl, rfl, rfl, rfl⟩ rfl rfl rfl rfl rfl lawAddClue_name Try.func8 lawAddClue_joined
    (of_decide_eq_true (by kernel_rfl)) lawAddClue_wrap
    (fun os started H enc _ => lawAddClue_lifted os started H enc)
end Go.Proofs.Ytkiobefojckocaa
