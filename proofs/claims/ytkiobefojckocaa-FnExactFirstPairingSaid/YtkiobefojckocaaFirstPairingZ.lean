/-
  For every input that can be read, 'laws.FnExactFirstPairing' returns true, and its arguments read afterwards as they read before. Conditions: none.
-/
import Derived.Test.YtkiobefojckocaaFirstPairingP1
import Derived.Test.YtkiobefojckocaaFirstPairingP5
namespace Go.Proofs.Ytkiobefojckocaa
open Go.ChangeShapes Go.WideShapes Go.ChangeAt Go.RowKit

set_option maxRecDepth 100000 in
theorem lawFirstPairing_lifted (os : Os) (started : os.Started) (H : Type) (enc : TypeId × Value → H) :
    ReturnsInHanded {} Try.checked os 5 .any (Rows.fnExactFirstPairingSpec.pre6 enc Try.prog Try.f5 Rows.fnExactFirstPairingRow.domain false) (Rows.fnExactFirstPairingSpec.post enc Try.prog Try.f5 false true false false) := by
  refine returnsInHanded_of_change (C := Try.checked) Try.own started (by kernel_rfl) Try.func5
    (ChangeSpec.witness6 (enc := enc) (C := Try.checked) false ⟨#[], #[.agg #[.int .i64 0, .slice none 0 0]], []⟩ 8 (by kernel_rfl) (by kernel_rfl) (by kernel_rfl) (by kernel_rfl)) ?_
  intro W base args ds gs before hval0 hW _ _
  have hval : ∀ (j : Nat) t v, Try.f5.params[j]? = some t → args[j]? = some v → Value.okWide Try.prog W .any base t v := hval0
  have hW' := hW
  obtain ⟨p, q, hA0, hV, rfl, _, _⟩ := hW
  have hA : DataW.TrodAll enc Try.prog W 0 (fun _ => true) true Try.f5.params.toList args.toList ds p := hA0
  rw [Try.params5] at hA hval
  obtain ⟨v0, d0, rfl, rfl, h0⟩ := trodAll_one hA
  obtain ⟨rfl, rfl⟩ := trodVars_none hV
  obtain ⟨x0, l0, A0, c0, rfl, hl0, hr0⟩ := open_party (hval 0 _ v0 rfl rfl) h0
  refine (lawFirstPairing_any x0 l0 A0 c0 W hl0 hr0).mono fun e W' ⟨he, hb⟩ => ?_
  subst he
  exact ⟨_, rfl, law_post Try.laidOut (by kernel_rfl) (by kernel_rfl) Try.underlying4 rfl rfl hW' hb⟩

theorem lawFirstPairing_types : typeFacts Try.prog Try.f5 Rows.fnExactFirstPairingSpec Rows.fnExactFirstPairingRow = true := by kernel_rfl
theorem lawFirstPairing_wf : Rows.fnExactFirstPairingRow.wf (OpenSpec.ofChange Rows.fnExactFirstPairingSpec) = true := by kernel_rfl
theorem lawFirstPairing_inPlace : (Rows.fnExactFirstPairingRow.inPlace == Try.prog.inPlace 5) = true := by kernel_rfl
theorem lawFirstPairing_unfollowed : (Rows.fnExactFirstPairingRow.unfollowed == Try.prog.unfollowed 5) = true := by kernel_rfl
theorem lawFirstPairing_recurses : (Rows.fnExactFirstPairingRow.recurses == Try.prog.recurses 5) = true := by kernel_rfl
theorem lawFirstPairing_named : (Rows.fnExactFirstPairingRow.named == Try.prog.varsNamed 5) = true := by kernel_rfl
theorem lawFirstPairing_name : Try.prog.funcNamed Rows.fnExactFirstPairingRow.func = some 5 := by kernel_rfl
theorem lawFirstPairing_wrap : (Try.f5).isWrapper Try.prog Rows.fnExactFirstPairingRow.wrapper Rows.fnExactFirstPairingRow.mainSum := by
  unfold Func.isWrapper
  first | (rw [if_pos (by decide +kernel)]; kernel_rfl) | (rw [if_neg (by decide +kernel)]; exact ⟨rfl, rfl⟩)
theorem lawFirstPairing_joined : joinedFacts Try.prog 5 Try.f5 Rows.fnExactFirstPairingSpec Rows.fnExactFirstPairingRow = true :=
  joined_of lawFirstPairing_wf lawFirstPairing_types lawFirstPairing_inPlace lawFirstPairing_unfollowed lawFirstPairing_recurses lawFirstPairing_named rfl rfl rfl

theorem exactFirstPairing_holds : Rows.FnExactFirstPairingSaid :=
  OpenClaim.holds_of_wide 5 Try.f5 rfl rfl rfl rfl rfl rfl rfl ⟨rfl, rfl, rfl, rfl, rfl⟩ rfl rfl rfl rfl rfl lawFirstPairing_name Try.func5 lawFirstPairing_joined
    (of_decide_eq_true (by kernel_rfl)) lawFirstPairing_wrap
    (fun os started H enc _ => lawFirstPairing_lifted os started H enc)
end Go.Proofs.Ytkiobefojckocaa
