/-
  For every input that can be read, 'laws.FnExactPartsParty' returns true, and its arguments read afterwards as they read before. Conditions: none.
-/
import Derived.Test.YtgccapdjhnejcaaSaid
import Derived.Test.YtgccapdjhnejcaaOpenL
import Derived.Test.YtgccapdjhnejcaaLawPartsParty
import Derived.Test.YtgccapdjhnejcaaFacts
namespace Go.Proofs.Ytgccapdjhnejcaa
open Go.ChangeShapes Go.WideShapes Go.ChangeAt Go.RowKit

set_option maxRecDepth 100000 in
theorem lawPartsParty_lifted (os : Os) (started : os.Started) (H : Type) (enc : TypeId × Value → H) :
    ReturnsInHanded {} Try.checked os 4 .any (Rows.fnExactPartsPartySpec.pre6 enc Try.prog Try.f4 Rows.fnExactPartsPartyRow.domain false) (Rows.fnExactPartsPartySpec.post enc Try.prog Try.f4 false true false false) := by
  refine returnsInHanded_of_change (C := Try.checked) Try.own started (by kernel_rfl) Try.func4
    (ChangeSpec.witness6 (enc := enc) (C := Try.checked) false ⟨#[], #[.slice none 0 0], []⟩ 8 (by kernel_rfl) (by kernel_rfl) (by kernel_rfl) (by kernel_rfl)) ?_
  intro W base args ds gs before hval0 hW _ _
  have hval : ∀ (j : Nat) t v, Try.f4.params[j]? = some t → args[j]? = some v → Value.okWide Try.prog W .any base t v := hval0
  have hW' := hW
  obtain ⟨p, q, hA0, hV, rfl, _, _⟩ := hW
  have hA : DataW.TrodAll enc Try.prog W 0 (fun _ => true) true Try.f4.params.toList args.toList ds p := hA0
  rw [Try.params4] at hA hval
  obtain ⟨v0, d0, rfl, rfl, h0⟩ := trodAll_one hA
  obtain ⟨rfl, rfl⟩ := trodVars_none hV
  obtain ⟨l0, A0, c0, rfl, hl0, hr0⟩ := open_list (hval 0 _ v0 rfl rfl) h0
  refine (lawPartsParty_any l0 A0 c0 W hl0 hr0).mono fun e W' ⟨he, hb⟩ => ?_
  subst he
  exact ⟨_, rfl, law_post Try.laidOut (by kernel_rfl) (by kernel_rfl) Try.underlying4 rfl rfl hW' hb⟩

theorem lawPartsParty_types : typeFacts Try.prog Try.f4 Rows.fnExactPartsPartySpec Rows.fnExactPartsPartyRow = true := by kernel_rfl
theorem lawPartsParty_wf : Rows.fnExactPartsPartyRow.wf (OpenSpec.ofChange Rows.fnExactPartsPartySpec) = true := by kernel_rfl
theorem lawPartsParty_inPlace : (Rows.fnExactPartsPartyRow.inPlace == Try.prog.inPlace 4) = true := by kernel_rfl
theorem lawPartsParty_unfollowed : (Rows.fnExactPartsPartyRow.unfollowed == Try.prog.unfollowed 4) = true := by kernel_rfl
theorem lawPartsParty_recurses : (Rows.fnExactPartsPartyRow.recurses == Try.prog.recurses 4) = true := by kernel_rfl
theorem lawPartsParty_named : (Rows.fnExactPartsPartyRow.named == Try.prog.varsNamed 4) = true := by kernel_rfl
theorem lawPartsParty_name : Try.prog.funcNamed Rows.fnExactPartsPartyRow.func = some 4 := by kernel_rfl
theorem lawPartsParty_wrap : (Try.f4).isWrapper Try.prog Rows.fnExactPartsPartyRow.wrapper Rows.fnExactPartsPartyRow.mainSum := by
  unfold Func.isWrapper
  first | (rw [if_pos (by decide +kernel)]; kernel_rfl) | (rw [if_neg (by decide +kernel)]; exact ⟨rfl, rfl⟩)
theorem lawPartsParty_joined : joinedFacts Try.prog 4 Try.f4 Rows.fnExactPartsPartySpec Rows.fnExactPartsPartyRow = true :=
  joined_of lawPartsParty_wf lawPartsParty_types lawPartsParty_inPlace lawPartsParty_unfollowed lawPartsParty_recurses lawPartsParty_named rfl rfl rfl

theorem exactPartsParty_holds : Rows.FnExactPartsPartySaid :=
  OpenClaim.holds_of_wide 4 Try.f4 rfl rfl rfl rfl rfl rfl rfl ⟨rfl, rfl, rfl, rfl, rfl⟩ rfl rfl rfl rfl rfl lawPartsParty_name Try.func4 lawPartsParty_joined
    (of_decide_eq_true (by kernel_rfl)) lawPartsParty_wrap
    (fun os started H enc _ => lawPartsParty_lifted os started H enc)
end Go.Proofs.Ytgccapdjhnejcaa
