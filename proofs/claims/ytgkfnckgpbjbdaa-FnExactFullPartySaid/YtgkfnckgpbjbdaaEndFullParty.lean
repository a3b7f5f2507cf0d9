/-
  For every input that can be read, 'laws.FnExactFullParty' returns true, and its arguments read afterwards as they read before. Conditions: none.
-/
import Derived.Test.YtgkfnckgpbjbdaaLawFullParty
import Derived.Test.YtgkfnckgpbjbdaaFacts
namespace Go.Proofs.Ytgkfnckgpbjbdaa
open Go.ChangeShapes Go.WideShapes Go.ChangeAt Go.RowKit

set_option maxRecDepth 100000 in
theorem lawFullParty_lifted (os : Os) (started : os.Started) (H : Type) (enc : TypeId × Value → H) :
    ReturnsInHanded {} Try.checked os 5 .any (Rows.fnExactFullPartySpec.pre6 enc Try.prog Try.f5 Rows.fnExactFullPartyRow.domain false) (Rows.fnExactFullPartySpec.post enc Try.prog Try.f5 false true false false) := by
  refine returnsInHanded_of_change (C := Try.checked) Try.own started (by kernel_rfl) Try.func5
    (ChangeSpec.witness6 (enc := enc) (C := Try.checked) false ⟨#[], #[.int .i64 0], []⟩ 8 (by kernel_rfl) (by kernel_rfl) (by kernel_rfl) (by kernel_rfl)) ?_
  intro W base args ds gs before hval0 hW _ _
  have hval : ∀ (j : Nat) t v, Try.f5.params[j]? = some t → args[j]? = some v → Value.okWide Try.prog W .any base t v := hval0
  have hW' := hW
  obtain ⟨p, q, hA0, hV, rfl, _, _⟩ := hW
  have hA : DataW.TrodAll enc Try.prog W 0 (fun _ => true) true Try.f5.params.toList args.toList ds p := hA0
  rw [Try.params5] at hA hval
  obtain ⟨v0, d0, rfl, rfl, h0⟩ := trodAll_one hA
  obtain ⟨rfl, rfl⟩ := trodVars_none hV
  obtain ⟨x0, rfl, _, _, wf0⟩ := open_int Try.underlying3 (hval 0 _ v0 rfl rfl) h0
  refine (lawFullParty_any x0 W ).mono fun e W' ⟨he, hb⟩ => ?_
  subst he
  exact ⟨_, rfl, law_post Try.laidOut (by kernel_rfl) (by kernel_rfl) Try.underlying4 rfl rfl hW' hb⟩

theorem lawFullParty_types : typeFacts Try.prog Try.f5 Rows.fnExactFullPartySpec Rows.fnExactFullPartyRow = true := by kernel_rfl
theorem lawFullParty_wf : Rows.fnExactFullPartyRow.wf (OpenSpec.ofChange Rows.fnExactFullPartySpec) = true := by kernel_rfl
theorem lawFullParty_inPlace : (Rows.fnExactFullPartyRow.inPlace == Try.prog.inPlace 5) = true := by kernel_rfl
theorem lawFullParty_unfollowed : (Rows.fnExactFullPartyRow.unfollowed == Try.prog.unfollowed 5) = true := by kernel_rfl
theorem lawFullParty_recurses : (Rows.fnExactFullPartyRow.recurses == Try.prog.recurses 5) = true := by kernel_rfl
theorem lawFullParty_named : (Rows.fnExactFullPartyRow.named == Try.prog.varsNamed 5) = true := by kernel_rfl
theorem lawFullParty_name : Try.prog.funcNamed Rows.fnExactFullPartyRow.func = some 5 := by kernel_rfl
theorem lawFullParty_wrap : (Try.f5).isWrapper Try.prog Rows.fnExactFullPartyRow.wrapper Rows.fnExactFullPartyRow.mainSum := by
  unfold Func.isWrapper
  first | (rw [if_pos (by decide +kernel)]; kernel_rfl) | (rw [if_neg (by decide +kernel)]; exact ⟨rfl, rfl⟩)
theorem lawFullParty_joined : joinedFacts Try.prog 5 Try.f5 Rows.fnExactFullPartySpec Rows.fnExactFullPartyRow = true :=
  joined_of lawFullParty_wf lawFullParty_types lawFullParty_inPlace lawFullParty_unfollowed lawFullParty_recurses lawFullParty_named rfl rfl rfl

theorem exactFullParty_holds : Rows.FnExactFullPartySaid :=
  OpenClaim.holds_of_wide 5 Try.f5 rfl rfl rfl rfl rfl rfl rfl ⟨rfl, rfl, rfl, rfl, rfl⟩ rfl rfl rfl rfl rfl lawFullParty_name Try.func5 lawFullParty_joined
    (of_decide_eq_true (by kernel_rfl)) lawFullParty_wrap
    (fun os started H enc _ => lawFullParty_lifted os started H enc)
end Go.Proofs.Ytgkfnckgpbjbdaa
