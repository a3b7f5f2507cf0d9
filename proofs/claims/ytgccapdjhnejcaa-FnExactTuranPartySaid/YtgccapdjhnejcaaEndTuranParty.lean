/-
  For every input that can be read, 'laws.FnExactTuranParty' returns true, and its arguments read afterwards as they read before. Conditions: none.
-/
import Derived.Test.YtgccapdjhnejcaaLawTuranParty
import Derived.Test.YtgccapdjhnejcaaSaid
import Derived.Test.YtgccapdjhnejcaaFacts
namespace Go.Proofs.Ytgccapdjhnejcaa
open Go.ChangeShapes Go.WideShapes Go.ChangeAt Go.RowKit

set_option maxRecDepth 100000 in
theorem lawTuranParty_lifted (os : Os) (started : os.Started) (H : Type) (enc : TypeId × Value → H) :
    ReturnsInHanded {} Try.checked os 5 .any (Rows.fnExactTuranPartySpec.pre6 enc Try.prog Try.f5 Rows.fnExactTuranPartyRow.domain false) (Rows.fnExactTuranPartySpec.post enc Try.prog Try.f5 false true false false) := by
  refine returnsInHanded_of_change (C := Try.checked) Try.own started (by kernel_rfl) Try.func5
    (ChangeSpec.witness6 (enc := enc) (C := Try.checked) false ⟨#[], #[.int .i64 0, .int .i64 0], []⟩ 8 (by kernel_rfl) (by kernel_rfl) (by kernel_rfl) (by kernel_rfl)) ?_
  intro W base args ds gs before hval0 hW _ _
  have hval : ∀ (j : Nat) t v, Try.f5.params[j]? = some t → args[j]? = some v → Value.okWide Try.prog W .any base t v := hval0
  have hW' := hW
  obtain ⟨p, q, hA0, hV, rfl, _, _⟩ := hW
  have hA : DataW.TrodAll enc Try.prog W 0 (fun _ => true) true Try.f5.params.toList args.toList ds p := hA0
  rw [Try.params5] at hA hval
  obtain ⟨v0, v1, d0, d1, p0, p1, rfl, rfl, rfl, h0, h1⟩ := trodAll_two hA
  obtain ⟨rfl, rfl⟩ := trodVars_none hV
  obtain ⟨x0, rfl, _, _, wf0⟩ := open_int Try.underlying3 (hval 0 _ v0 rfl rfl) h0
  obtain ⟨x1, rfl, _, _, wf1⟩ := open_int Try.underlying3 (hval 1 _ v1 rfl rfl) h1
  refine (lawTuranParty_any x0 x1 W ).mono fun e W' ⟨he, hb⟩ => ?_
  subst he
  exact ⟨_, rfl, law_post Try.laidOut (by kernel_rfl) (by kernel_rfl) Try.underlying4 rfl rfl hW' hb⟩

theorem lawTuranParty_types : typeFacts Try.prog Try.f5 Rows.fnExactTuranPartySpec Rows.fnExactTuranPartyRow = true := by kernel_rfl
theorem lawTuranParty_wf : Rows.fnExactTuranPartyRow.wf (OpenSpec.ofChange Rows.fnExactTuranPartySpec) = true := by kernel_rfl
theorem lawTuranParty_inPlace : (Rows.fnExactTuranPartyRow.inPlace == Try.prog.inPlace 5) = true := by kernel_rfl
theorem lawTuranParty_unfollowed : (Rows.fnExactTuranPartyRow.unfollowed == Try.prog.unfollowed 5) = true := by kernel_rfl
theorem lawTuranParty_recurses : (Rows.fnExactTuranPartyRow.recurses == Try.prog.recurses 5) = true := by kernel_rfl
theorem lawTuranParty_named : (Rows.fnExactTuranPartyRow.named == Try.prog.varsNamed 5) = true := by kernel_rfl
theorem lawTuranParty_name : Try.prog.funcNamed Rows.fnExactTuranPartyRow.func = some 5 := by kernel_rfl
theorem lawTuranParty_wrap : (Try.f5).isWrapper Try.prog Rows.fnExactTuranPartyRow.wrapper Rows.fnExactTuranPartyRow.mainSum := by
  unfold Func.isWrapper
  first | (rw [if_pos (by decide +kernel)]; kernel_rfl) | (rw [if_neg (by decide +kernel)]; exact ⟨rfl, rfl⟩)
theorem lawTuranParty_joined : joinedFacts Try.prog 5 Try.f5 Rows.fnExactTuranPartySpec Rows.fnExactTuranPartyRow = true :=
  joined_of lawTuranParty_wf lawTuranParty_types lawTuranParty_inPlace lawTuranParty_unfollowed lawTuranParty_recurses lawTuranParty_named rfl rfl rfl

theorem exactTuranParty_holds : Rows.FnExactTuranPartySaid :=
  OpenClaim.holds_of_wide 5 Try.f5 rfl rfl rfl rfl rfl rfl rfl ⟨rfl, rfl, rfl, rfl, rfl⟩ rfl rfl rfl rfl rfl lawTuranParty_name Try.func5 lawTuranParty_joined
    (of_decide_eq_true (by kernel_rfl)) lawTuranParty_wrap
    (fun os started H enc _ => lawTuranParty_lifted os started H enc)
end Go.Proofs.Ytgccapdjhnejcaa
