/-
  For every input that can be read, 'laws.FnExactIsFame' returns true, and its arguments read afterwards as they read before. Conditions: none.
-/
import Derived.Test.YtgkedgfbncljbaaIsFameP1
import Derived.Test.YtgkedgfbncljbaaIsFameP4
namespace Go.Proofs.Ytgkedgfbncljbaa
open Go.ChangeShapes Go.WideShapes Go.ChangeAt Go.RowKit

set_option maxRecDepth 100000 in
theorem lawIsFame_lifted (os : Os) (started : os.Started) (H : Type) (enc : TypeId × Value → H) :
    ReturnsInHanded {} Try.checked os 7 .any (Rows.fnExactIsFameSpec.pre6 enc Try.prog Try.f7 Rows.fnExactIsFameRow.domain false) (Rows.fnExactIsFameSpec.post enc Try.prog Try.f7 false true false false) := by
  refine returnsInHanded_of_change (C := Try.checked) Try.own started (by kernel_rfl) Try.func7
    (ChangeSpec.witness6 (enc := enc) (C := Try.checked) false ⟨#[], #[.slice none 0 0], []⟩ 8 (by kernel_rfl) (by kernel_rfl) (by kernel_rfl) (by kernel_rfl)) ?_
  intro W base args ds gs before hval0 hW _ _
  have hval : ∀ (j : Nat) t v, Try.f7.params[j]? = some t → args[j]? = some v → Value.okWide Try.prog W .any base t v := hval0
  have hW' := hW
  obtain ⟨p, q, hA0, hV, rfl, _, _⟩ := hW
  have hA : DataW.TrodAll enc Try.prog W 0 (fun _ => true) true Try.f7.params.toList args.toList ds p := hA0
  rw [Try.params7] at hA hval
  obtain ⟨v0, d0, rfl, rfl, h0⟩ := trodAll_one hA
  obtain ⟨rfl, rfl⟩ := trodVars_none hV
  obtain ⟨l0, A0, c0, rfl, hl0, hk0, hr0⟩ := open_rows (hval 0 _ v0 rfl rfl) h0
  refine (lawIsFame_any l0 A0 c0 W hl0 hk0 hr0).mono fun e W' ⟨he, hb⟩ => ?_
  subst he
  exact ⟨_, rfl, law_post Try.laidOut (by kernel_rfl) (by kernel_rfl) Try.underlying4 rfl rfl hW' hb⟩

theorem lawIsFame_types : typeFacts Try.prog Try.f7 Rows.fnExactIsFameSpec Rows.fnExactIsFameRow = true := by kernel_rfl
theorem lawIsFame_wf : Rows.fnExactIsFameRow.wf (OpenSpec.ofChange Rows.fnExactIsFameSpec) = true := by kernel_rfl
theorem lawIsFame_inPlace : (Rows.fnExactIsFameRow.inPlace == Try.prog.inPlace 7) = true := by kernel_rfl
theorem lawIsFame_unfollowed : (Rows.fnExactIsFameRow.unfollowed == Try.prog.unfollowed 7) = true := by kernel_rfl
theorem lawIsFame_recurses : (Rows.fnExactIsFameRow.recurses == Try.prog.recurses 7) = true := by kernel_rfl
theorem lawIsFame_named : (Rows.fnExactIsFameRow.named == Try.prog.varsNamed 7) = true := by kernel_rfl
theorem lawIsFame_name : Try.prog.funcNamed Rows.fnExactIsFameRow.func = some 7 := by kernel_rfl
theorem lawIsFame_wrap : (Try.f7).isWrapper Try.prog Rows.fnExactIsFameRow.wrapper Rows.fnExactIsFameRow.mainSum := by
  unfold Func.isWrapper
  first | (rw [if_pos (by decide +kernel)]; kernel_rfl) | (rw [if_neg (by decide +kernel)]; exact ⟨rfl, rfl⟩)
theorem lawIsFame_joined : joinedFacts Try.prog 7 Try.f7 Rows.fnExactIsFameSpec Rows.fnExactIsFameRow = true :=
  joined_of lawIsFame_wf lawIsFame_types lawIsFame_inPlace lawIsFame_unfollowed lawIsFame_recurses lawIsFame_named rfl rfl rfl

theorem exactIsFame_holds : Rows.FnExactIsFameSaid :=
  OpenClaim.holds_of_wide 7 Try.f7 rfl rfl rfl rfl rfl rfl rfl ⟨rfl, rfl, rfl, rfl, rfl⟩ rfl rfl rfl rfl rfl lawIsFame_name Try.func7 lawIsFame_joined
    (of_decide_eq_true (by kernel_rfl)) lawIsFame_wrap
    (fun os started H enc _ => lawIsFame_lifted os started H enc)
end Go.Proofs.Ytgkedgfbncljbaa
