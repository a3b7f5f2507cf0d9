/-
  For every input that can be read, 'laws.FnExactStarOf' returns true, and its arguments read afterwards as they read before. Conditions: none.
-/
import Derived.Test.YtgkedgfbncljbaaStarOfP1
import Derived.Test.YtgkedgfbncljbaaStarOfP4
namespace Go.Proofs.Ytgkedgfbncljbaa
open Go.ChangeShapes Go.WideShapes Go.ChangeAt Go.RowKit

set_option maxRecDepth 100000 in
theorem lawStarOf_lifted (os : Os) (started : os.Started) (H : Type) (enc : TypeId × Value → H) :
    ReturnsInHanded {} Try.checked os 8 .any (Rows.fnExactStarOfSpec.pre6 enc Try.prog Try.f8 Rows.fnExactStarOfRow.domain false) (Rows.fnExactStarOfSpec.post enc Try.prog Try.f8 false true false false) := by
  refine returnsInHanded_of_change (C := Try.checked) Try.own started (by kernel_rfl) Try.func8
    (ChangeSpec.witness6 (enc := enc) (C := Try.checked) false ⟨#[], #[.slice none 0 0], []⟩ 8 (by kernel_rfl) (by kernel_rfl) (by kernel_rfl) (by kernel_rfl)) ?_
  intro W base args ds gs before hval0 hW _ _
  have hval : ∀ (j : Nat) t v, Try.f8.params[j]? = some t → args[j]? = some v → Value.okWide Try.prog W .any base t v := hval0
  have hW' := hW
  obtain ⟨p, q, hA0, hV, rfl, _, _⟩ := hW
  have hA : DataW.TrodAll enc Try.prog W 0 (fun _ => true) true Try.f8.params.toList args.toList ds p := hA0
  rw [Try.params8] at hA hval
  obtain ⟨v0, d0, rfl, rfl, h0⟩ := trodAll_one hA
  obtain ⟨rfl, rfl⟩ := trodVars_none hV
  obtain ⟨l0, A0, c0, rfl, hl0, hk0, hr0⟩ := open_rows (hval 0 _ v0 rfl rfl) h0
  refine (lawStarOf_any l0 A0 c0 W hl0 hk0 hr0).mono fun e W' ⟨he, hb⟩ => ?_
  subst he
  exact ⟨_, rfl, law_post Try.laidOut (by kernel_rfl) (by kernel_rfl) Try.underlying4 rfl rfl hW' hb⟩

theorem lawStarOf_types : typeFacts Try.prog Try.f8 Rows.fnExactStarOfSpec Rows.fnExactStarOfRow = true := by kernel_rfl
theorem lawStarOf_wf : Rows.fnExactStarOfRow.wf (OpenSpec.ofChange Rows.fnExactStarOfSpec) = true := by kernel_rfl
theorem lawStarOf_inPlace : (Rows.fnExactStarOfRow.inPlace == Try.prog.inPlace 8) = true := by kernel_rfl
theorem lawStarOf_unfollowed : (Rows.fnExactStarOfRow.unfollowed == Try.prog.unfollowed 8) = true := by kernel_rfl
theorem lawStarOf_recurses : (Rows.fnExactStarOfRow.recurses == Try.prog.recurses 8) = true := by kernel_rfl
theorem lawStarOf_named : (Rows.fnExactStarOfRow.named == Try.prog.varsNamed 8) = true := by kernel_rfl
theorem lawStarOf_name : Try.prog.funcNamed Rows.fnExactStarOfRow.func = some 8 := by kernel_rfl
theorem lawStarOf_wrap : (Try.f8).isWrapper Try.prog Rows.fnExactStarOfRow.wrapper Rows.fnExactStarOfRow.mainSum := by
  unfold Func.isWrapper
  first | (rw [if_pos (by decide +kernel)]; kernel_rfl) | (rw [if_neg (by decide +kernel)]; exact ⟨rfl, rfl⟩)
theorem lawStarOf_joined : joinedFacts Try.prog 8 Try.f8 Rows.fnExactStarOfSpec Rows.fnExactStarOfRow = true :=
  joined_of lawStarOf_wf lawStarOf_types lawStarOf_inPlace lawStarOf_unfollowed lawStarOf_recurses lawStarOf_named rfl rfl rfl

theorem exactStarOf_holds : Rows.FnExactStarOfSaid :=
  OpenClaim.holds_of_wide 8 Try.f8 rfl rfl rfl rfl rfl rfl rfl ⟨rfl, rfl, rfl, rfl, rfl⟩ rfl rfl rfl rfl rfl lawStarOf_name Try.func8 lawStarOf_joined
    (of_decide_eq_true (by kernel_rfl)) lawStarOf_wrap
    (fun os started H enc _ => lawStarOf_lifted os started H enc)
end Go.Proofs.Ytgkedgfbncljbaa
