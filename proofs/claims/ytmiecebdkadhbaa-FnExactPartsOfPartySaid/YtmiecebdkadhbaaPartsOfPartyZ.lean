/-
  For every input that can be read, 'laws.FnExactPartsOfParty' returns true, and its arguments read afterwards as they read before. Conditions: none.
-/
import Derived.Test.YtmiecebdkadhbaaPartsOfPartyP1
import Derived.Test.YtmiecebdkadhbaaPartsOfPartyP6
namespace Go.Proofs.Ytmiecebdkadhbaa
open Go.ChangeShapes Go.WideShapes Go.ChangeAt Go.RowKit

set_option maxRecDepth 100000 in
theorem lawPartsOfParty_lifted (os : Os) (started : os.Started) (H : Type) (enc : TypeId × Value → H) :
    ReturnsInHanded {} Try.checked os 14 .any (Rows.fnExactPartsOfPartySpec.pre6 enc Try.prog Try.f14 Rows.fnExactPartsOfPartyRow.domain false) (Rows.fnExactPartsOfPartySpec.post enc Try.prog Try.f14 false true false false) := by
  refine returnsInHanded_of_change (C := Try.checked) Try.own started (by kernel_rfl) Try.func14
    (ChangeSpec.witness6 (enc := enc) (C := Try.checked) false ⟨#[], #[.agg #[.int .i64 0, .slice none 0 0]], []⟩ 8 (by kernel_rfl) (by kernel_rfl) (by kernel_rfl) (by kernel_rfl)) ?_
  intro W base args ds gs before hval0 hW _ _
  have hval : ∀ (j : Nat) t v, Try.f14.params[j]? = some t → args[j]? = some v → Value.okWide Try.prog W .any base t v := hval0
  have hW' := hW
  obtain ⟨p, q, hA0, hV, rfl, _, _⟩ := hW
  have hA : DataW.TrodAll enc Try.prog W 0 (fun _ => true) true Try.f14.params.toList args.toList ds p := hA0
  rw [Try.params14] at hA hval
  obtain ⟨v0, d0, rfl, rfl, h0⟩ := trodAll_one hA
  obtain ⟨rfl, rfl⟩ := trodVars_none hV
  obtain ⟨x0, l0, A0, c0, rfl, hl0, hr0⟩ := open_party (hval 0 _ v0 rfl rfl) h0
  refine (lawPartsOfParty_any x0 l0 A0 c0 W hl0 hr0).mono fun e W' ⟨he, hb⟩ => ?_
  subst he
  exact ⟨_, rfl, law_post Try.laidOut (by kernel_rfl) (by kernel_rfl) Try.underlying4 rfl rfl hW' hb⟩

theorem lawPartsOfParty_types : typeFacts Try.prog Try.f14 Rows.fnExactPartsOfPartySpec Rows.fnExactPartsOfPartyRow = true := by kernel_rfl
theorem lawPartsOfParty_wf : Rows.fnExactPartsOfPartyRow.wf (OpenSpec.ofChange Rows.fnExactPartsOfPartySpec) = true := by kernel_rfl
theorem lawPartsOfParty_inPlace : (Rows.fnExactPartsOfPartyRow.inPlace == Try.prog.inPlace 14) = true := by kernel_rfl
theorem lawPartsOfParty_unfollowed : (Rows.fnExactPartsOfPartyRow.unfollowed == Try.prog.unfollowed 14) = true := by kernel_rfl
theorem lawPartsOfParty_recurses : (Rows.fnExactPartsOfPartyRow.recurses == Try.prog.recurses 14) = true := by kernel_rfl
theorem lawPartsOfParty_named : (Rows.fnExactPartsOfPartyRow.named == Try.prog.varsNamed 14) = true := by kernel_rfl
theorem lawPartsOfParty_name : Try.prog.funcNamed Rows.fnExactPartsOfPartyRow.func = some 14 := by kernel_rfl
theorem lawPartsOfParty_wrap : (Try.f14).isWrapper Try.prog Rows.fnExactPartsOfPartyRow.wrapper Rows.fnExactPartsOfPartyRow.mainSum := by
  unfold Func.isWrapper
  first | (rw [if_pos (by decide +kernel)]; kernel_rfl) | (rw [if_neg (by decide +kernel)]; exact ⟨rfl, rfl⟩)
theorem lawPartsOfParty_joined : joinedFacts Try.prog 14 Try.f14 Rows.fnExactPartsOfPartySpec Rows.fnExactPartsOfPartyRow = true :=
  joined_of lawPartsOfParty_wf lawPartsOfParty_types lawPartsOfParty_inPlace lawPartsOfParty_unfollowed lawPartsOfParty_recurses lawPartsOfParty_named rfl rfl rfl

theorem exactPartsOfParty_holds : Rows.FnExactPartsOfPartySaid :=
  OpenClaim.holds_of_wide 14 Try.f14 rfl rfl rfl rfl rfl rfl rfl ⟨rfl, rfl, rfl, rfl, rfl⟩ rfl rfl rfl rfl rfl lawPartsOfParty_name Try.func14 lawPartsOfParty_joined
    (of_decide_eq_true (by kernel_rfl)) lawPartsOfParty_wrap
    (fun os started H enc _ => lawPartsOfParty_lifted os started H enc)
end Go.Proofs.Ytmiecebdkadhbaa
