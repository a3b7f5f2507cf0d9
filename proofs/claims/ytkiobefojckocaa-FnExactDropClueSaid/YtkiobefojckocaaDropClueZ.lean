/-
  For every input that can be read, 'laws.FnExactDropClue' returns true, and its arguments read afterwards as they read before. Conditions: none.
-/
import Derived.Test.YtkiobefojckocaaDropClueP1
import Derived.Test.YtkiobefojckocaaDropClueP2
import Derived.Test.YtkiobefojckocaaDropClueP4
namespace Go.Proofs.Ytkiobefojckocaa
open Go.ChangeShapes Go.WideShapes Go.ChangeAt Go.RowKit

set_option maxRecDepth 100000 in
theorem lawDropClue_lifted (os : Os) (started : os.Started) (H : Type) (enc : TypeId × Value → H) :
    ReturnsInHanded {} Try.checked os 7 .any (Rows.fnExactDropClueSpec.pre6 enc Try.prog Try.f7 Rows.fnExactDropClueRow.domain false) (Rows.fnExactDropClueSpec.post enc Try.prog Try.f7 false true false false) := by
  refine returnsInHanded_of_change (C := Try.checked) Try.own started (by kernel_rfl) Try.func7
    (ChangeSpec.witness6 (enc := enc) (C := Try.checked) false ⟨#[], #[.agg #[.int .i64 0, .slice none 0 0], .int .i64 0], []⟩ 8 (by kernel_rfl) (by kernel_rfl) (by kernel_rfl) (by kernel_rfl)) ?_
  intro W base args ds gs before hval0 hW _ _
  have hval : ∀ (j : Nat) t v, Try.f7.params[j]? = some t → args[j]? = some v → Value.okWide Try.prog W .any base t v := hval0
  have hW' := hW
  obtain ⟨p, q, hA0, hV, rfl, _, _⟩ := hW
  have hA : DataW.TrodAll enc Try.prog W 0 (fun _ => true) true Try.f7.params.toList args.toList ds p := hA0
  rw [Try.params7] at hA hval
  obtain ⟨v0, v1, d0, d1, p0, p1, rfl, rfl, rfl, h0, h1⟩ := trodAll_two hA
  obtain ⟨rfl, rfl⟩ := trodVars_none hV
  obtain ⟨x0, l0, A0, c0, rfl, hl0, hr0⟩ := open_puzzle (hval 0 _ v0 rfl rfl) h0
  obtain ⟨x1, rfl, _, _, wf1⟩ := open_int Try.underlying3 (hval 1 _ v1 rfl rfl) h1
  refine (lawDropClue_any x0 l0 A0 c0 x1 W hl0 hr0).mono fun e W' ⟨he, hb⟩ => ?_
  subst he
  exact ⟨_, rfl, law_post Try.laidOut (by kernel_rfl) (by kernel_rfl) Try.underlying4 rfl rfl hW' hb⟩

theorem lawDropClue_types : typeFacts Try.prog Try.f7 Rows.fnExactDropClueSpec Rows.fnExactDropClueRow = true := by kernel_rfl
theorem lawDropClue_wf : Rows.fnExactDropClueRow.wf (OpenSpec.ofChange Rows.fnExactDropClueSpec) = true := by kernel_rfl
theorem lawDropClue_inPlace : (Rows.fnExactDropClueRow.inPlace == Try.prog.inPlace 7) = true := by kernel_rfl
theorem lawDropClue_unfollowed : (Rows.fnExactDropClueRow.unfollowed == Try.prog.unfollowed 7) = true := by kernel_rfl
theorem lawDropClue_recurses : (Rows.fnExactDropClueRow.recurses == Try.prog.recurses 7) = true := by kernel_rfl
theorem lawDropClue_named : (Rows.fnExactDropClueRow.named == Try.prog.varsNamed 7) = true := by kernel_rfl
theorem lawDropClue_name : Try.prog.funcNamed Rows.fnExactDropClueRow.func = some 7 := by kernel_rfl
theorem lawDropClue_wrap : (Try.f7).isWrapper Try.prog Rows.fnExactDropClueRow.wrapper Rows.fnExactDropClueRow.mainSum := by
  unfold Func.isWrapper
  first | (rw [if_pos (by decide +kernel)]; kernel_rfl) | (rw [if_neg (by decide +kernel)]; exact ⟨rfl, rfl⟩)
theorem lawDropClue_joined : joinedFacts Try.prog 7 Try.f7 Rows.fnExactDropClueSpec Rows.fnExactDropClueRow = true :=
  joined_of lawDropClue_wf lawDropClue_types lawDropClue_inPlace lawDropClue_unfollowed lawDropClue_recurses lawDropClue_named rfl rfl rfl

theorem exactDropClue_holds : Rows.FnExactDropClueSaid :=
  OpenClaim.holds_of_wide 7 Try.f7 rfl rfl rfl rfl rfl rfl rfl ⟨rfl, rfl, rfl, rfl, rfl⟩ rfl rfl rfl rfl rfl lawDropClue_name Try.func7 lawDropClue_joined
    (of_decide_eq_true (by kernel_rfl)) lawDropClue_wrap
    (fun os started H enc _ => lawDropClue_lifted os started H enc)
end Go.Proofs.Ytkiobefojckocaa
