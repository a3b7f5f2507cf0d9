/-
  For every input that can be read, 'laws.FnExactRenamePainting' returns true, and its arguments read afterwards as they read before. Conditions: none.
-/
import Derived.Test.YtepoabbkalhifaaRenamePaintingP1
import Derived.Test.YtepoabbkalhifaaRenamePaintingP6
namespace Go.Proofs.Ytepoabbkalhifaa
open Go.ChangeShapes Go.WideShapes Go.ChangeAt Go.RowKit

set_option maxRecDepth 100000 in
theorem lawRenamePainting_lifted (os : Os) (started : os.Started) (H : Type) (enc : TypeId × Value → H) :
    ReturnsInHanded {} Try.checked os 15 .any (Rows.fnExactRenamePaintingSpec.pre6 enc Try.prog Try.f15 Rows.fnExactRenamePaintingRow.domain false) (Rows.fnExactRenamePaintingSpec.post enc Try.prog Try.f15 false true false false) := by
  refine returnsInHanded_of_change (C := Try.checked) Try.own started (by kernel_rfl) Try.func15
    (ChangeSpec.witness6 (enc := enc) (C := Try.checked) false ⟨#[], #[.agg #[.int .i64 0, .int .i64 0, .slice none 0 0], .slice none 0 0], []⟩ 8 (by kernel_rfl) (by kernel_rfl) (by kernel_rfl) (by kernel_rfl)) ?_
  intro W base args ds gs before hval0 hW _ _
  have hval : ∀ (j : Nat) t v, Try.f15.params[j]? = some t → args[j]? = some v → Value.okWide Try.prog W .any base t v := hval0
  have hW' := hW
  obtain ⟨p, q, hA0, hV, rfl, _, _⟩ := hW
  have hA : DataW.TrodAll enc Try.prog W 0 (fun _ => true) true Try.f15.params.toList args.toList ds p := hA0
  rw [Try.params15] at hA hval
  obtain ⟨v0, v1, d0, d1, p0, p1, rfl, rfl, rfl, h0, h1⟩ := trodAll_two hA
  obtain ⟨rfl, rfl⟩ := trodVars_none hV
  obtain ⟨x0, k0, l0, A0, c0, rfl, hl0, hr0⟩ := open_painting (hval 0 _ v0 rfl rfl) h0
  obtain ⟨l1, A1, c1, rfl, hl1, hr1⟩ := open_list (hval 1 _ v1 rfl rfl) h1
  refine (lawRenamePainting_any x0 k0 l0 A0 c0 l1 A1 c1 W hl0 hr0 hl1 hr1).mono fun e W' ⟨he, hb⟩ => ?_
  subst he
  exact ⟨_, rfl, law_post Try.laidOut (by kernel_rfl) (by kernel_rfl) Try.underlying4 rfl rfl hW' hb⟩

theorem lawRenamePainting_types : typeFacts Try.prog Try.f15 Rows.fnExactRenamePaintingSpec Rows.fnExactRenamePaintingRow = true := by kernel_rfl
theorem lawRenamePainting_wf : Rows.fnExactRenamePaintingRow.wf (OpenSpec.ofChange Rows.fnExactRenamePaintingSpec) = true := by kernel_rfl
theorem lawRenamePainting_inPlace : (Rows.fnExactRenamePaintingRow.inPlace == Try.prog.inPlace 15) = true := by kernel_rfl
theorem lawRenamePainting_unfollowed : (Rows.fnExactRenamePaintingRow.unfollowed == Try.prog.unfollowed 15) = true := by kernel_rfl
theorem lawRenamePainting_recurses : (Rows.fnExactRenamePaintingRow.recurses == Try.prog.recurses 15) = true := by kernel_rfl
theorem lawRenamePainting_named : (Rows.fnExactRenamePaintingRow.named == Try.prog.varsNamed 15) = true := by kernel_rfl
theorem lawRenamePainting_name : Try.prog.funcNamed Rows.fnExactRenamePaintingRow.func = some 15 := by kernel_rfl
theorem lawRenamePainting_wrap : (Try.f15).isWrapper Try.prog Rows.fnExactRenamePaintingRow.wrapper Rows.fnExactRenamePaintingRow.mainSum := by
  unfold Func.isWrapper
  first | (rw [if_pos (by decide +kernel)]; kernel_rfl) | (rw [if_neg (by decide +kernel)]; exact ⟨rfl, rfl⟩)
theorem lawRenamePainting_joined : joinedFacts Try.prog 15 Try.f15 Rows.fnExactRenamePaintingSpec Rows.fnExactRenamePaintingRow = true :=
  joined_of lawRenamePainting_wf lawRenamePainting_types lawRenamePainting_inPlace lawRenamePainting_unfollowed lawRenamePainting_recurses lawRenamePainting_named rfl rfl rfl

theorem exactRenamePainting_holds : Rows.FnExactRenamePaintingSaid :=
  OpenClaim.holds_of_wide 15 Try.f15 rfl rfl rfl rfl rfl rfl rfl ⟨rfl, rfl, rfl, rfl, rfl⟩ rfl rfl rfl rfl rfl lawRenamePainting_name Try.func15 lawRenamePainting_joined
    (of_decide_eq_true (by kernel_rfl)) lawRenamePainting_wrap
    (fun os started H enc _ => lawRenamePainting_lifted os started H enc)
end Go.Proofs.Ytepoabbkalhifaa
