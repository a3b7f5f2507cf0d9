/-
  For every input that can be read, 'laws.FnExactCountPairings' returns true, and its arguments read afterwards as they read before. Conditions: none.
-/
import Derived.Test.YtefkcfkicmfhlaaCountPairingsP1
import Derived.Test.YtefkcfkicmfhlaaCountPairingsP4
namespace Go.Proofs.Ytefkcfkicmfhlaa
open Go.ChangeShapes Go.WideShapes Go.ChangeAt Go.RowKit

set_option maxRecDepth 100000 in
theorem lawCountPairings_lifted (os : Os) (started : os.Started) (H : Type) (enc : TypeId × Value → H) :
    ReturnsInHanded {} Try.checked os 8 .any (Rows.fnExactCountPairingsSpec.pre6 enc Try.prog Try.f8 Rows.fnExactCountPairingsRow.domain false) (Rows.fnExactCountPairingsSpec.post enc Try.prog Try.f8 false true false false) := by
  refine returnsInHanded_of_change (C := Try.checked) Try.own started (by kernel_rfl) Try.func8
    (ChangeSpec.witness6 (enc := enc) (C := Try.checked) false ⟨#[], #[.agg #[.int .i64 0, .slice none 0 0]], []⟩ 8 (by kernel_rfl) (by kernel_rfl) (by kernel_rfl) (by kernel_rfl)) ?_
  intro W base args ds gs before hval0 hW _ _
  have hval : ∀ (j : Nat) t v, Try.f8.params[j]? = some t → args[j]? = some v → Value.okWide Try.prog W .any base t v := hval0
  have hW' := hW
  obtain ⟨p, q, hA0, hV, rfl, _, _⟩ := hW
  have hA : DataW.TrodAll enc Try.prog W 0 (fun _ => true) true Try.f8.params.toList args.toList ds p := hA0
  rw [Try.params8] at hA hval
  obtain ⟨v0, d0, rfl, rfl, h0⟩ := trodAll_one hA
  obtain ⟨rfl, rfl⟩ := trodVars_none hV
  obtain ⟨x0, l0, A0, c0, rfl, hl0, hr0⟩ := open_party (hval 0 _ v0 rfl rfl) h0
  refine (lawCountPairings_any x0 l0 A0 c0 W hl0 hr0).mono fun e W' ⟨he, hb⟩ => ?_
  subst he
  exact ⟨_, rfl, law_post Try.laidOut (by kernel_rfl) (by kernel_rfl) Try.underlying4 rfl rfl hW' hb⟩

theorem lawCountPairings_types : typeFacts Try.prog Try.f8 Rows.fnExactCountPairingsSpec Rows.fnExactCountPairingsRow = true := by kernel_rfl
theorem lawCountPairings_wf : Rows.fnExactCountPairingsRow.wf (OpenSpec.ofChange Rows.fnExactCountPairingsSpec) = true := by kernel_rfl
theorem lawCountPairings_inPlace : (Rows.fnExactCountPairingsRow.inPlace == Try.prog.inPlace 8) = true := by kernel_rfl
theorem lawCountPairings_unfollowed : (Rows.fnExactCountPairingsRow.unfollowed == Try.prog.unfollowed 8) = true := by kernel_rfl
theorem lawCountPairings_recurses : (Rows.fnExactCountPairingsRow.recurses == Try.prog.recurses 8) = true := by kernel_rfl
theorem lawCountPairings_named : (Rows.fnExactCountPairingsRow.named == Try.prog.varsNamed 8) = true := by kernel_rfl
theorem lawCountPairings_name : Try.prog.funcNamed Rows.fnExactCountPairingsRow.func = some 8 := by kernel_rfl
theorem lawCountPairings_wrap : (Try.f8).isWrapper Try.prog Rows.fnExactCountPairingsRow.wrapper Rows.fnExactCountPairingsRow.mainSum := by
  unfold Func.isWrapper
  first | (rw [if_pos (by decide +kernel)]; kernel_rfl) | (rw [if_neg (by decide +kernel)]; exact ⟨rfl, rfl⟩)
theorem lawCountPairings_joined : joinedFacts Try.prog 8 Try.f8 Rows.fnExactCountPairingsSpec Rows.fnExactCountPairingsRow = true :=
  joined_of lawCountPairings_wf lawCountPairings_types lawCountPairings_inPlace lawCountPairings_unfollowed lawCountPairings_recurses lawCountPairings_named rfl rfl rfl

theorem exactCountPairings_holds : Rows.FnExactCountPairingsSaid :=
  OpenClaim.holds_of_wide 8 Try.f8 rfl rfl rfl rfl rfl rfl rfl ⟨rfl, rfl, rfl, rfl, rfl⟩ rfl rfl rfl rfl rfl lawCountPairings_name Try.func8 lawCountPairings_joined
    (of_decide_eq_true (by kernel_rfl)) lawCountPairings_wrap
    (fun os started H enc _ => lawCountPairings_lifted os started H enc)
end Go.Proofs.Ytefkcfkicmfhlaa
