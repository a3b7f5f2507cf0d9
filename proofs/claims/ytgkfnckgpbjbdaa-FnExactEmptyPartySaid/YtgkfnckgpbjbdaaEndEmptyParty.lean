/-
  For every input that can be read, 'laws.FnExactEmptyParty' returns true, and its arguments read afterwards as they read before. Conditions: none.
-/
import Derived.Test.YtgkfnckgpbjbdaaLawEmptyParty
import Derived.Test.YtgkfnckgpbjbdaaFacts
namespace Go.Proofs.Ytgkfnckgpbjbdaa
open Go.ChangeShapes Go.WideShapes Go.ChangeAt Go.RowKit

set_option maxRecDepth 100000 in
theorem lawEmptyParty_lifted (os : Os) (started : os.Started) (H : Type) (enc : TypeId × Value → H) :
    ReturnsInHanded {} Try.checked os 4 .any (Rows.fnExactEmptyPartySpec.pre6 enc Try.prog Try.f4 Rows.fnExactEmptyPartyRow.domain false) (Rows.fnExactEmptyPartySpec.post enc Try.prog Try.f4 false true false false) := by
  refine returnsInHanded_of_change (C := Try.checked) Try.own started (by kernel_rfl) Try.func4
    (ChangeSpec.witness6 (enc := enc) (C := Try.checked) false ⟨#[], #[.int .i64 0], []⟩ 8 (by kernel_rfl) (by kernel_rfl) (by kernel_rfl) (by kernel_rfl)) ?_
  intro W base args ds gs before hval0 hW _ _
  have hval : ∀ (j : Nat) t v, Try.f4.params[j]? = some t → args[j]? = some v → Value.okWide Try.prog W .any base t v := hval0
  have hW' := hW
  obtain ⟨p, q, hA0, hV, rfl, _, _⟩ := hW
  have hA : DataW.TrodAll enc Try.prog W 0 (fun _ => true) true Try.f4.params.toList args.toList ds p := hA0
  rw [Try.params4] at hA hval
  obtain ⟨v0, d0, rfl, rfl, h0⟩ := trodAll_one hA
  obtain ⟨rfl, rfl⟩ := trodVars_none hV
  obtain ⟨x0, rfl, _, _, wf0⟩ := open_int Try.underlying3 (hval 0 _ v0 rfl rfl) h0
  refine (lawEmptyParty_any x0 W ).mono fun e W' ⟨he, hb⟩ => ?_
  subst he
  exact ⟨_, rfl, law_post Try.laidOut (by kernel_rfl) (by kernel_rfl) Try.underlying4 rfl rfl hW' hb⟩

theorem lawEmptyParty_types : typeFacts Try.prog Try.f4 Rows.fnExactEmptyPartySpec Rows.fnExactEmptyPartyRow = true := by kernel_rfl
theorem lawEmptyParty_wf : Rows.fnExactEmptyPartyRow.wf (OpenSpec.ofChange Rows.fnExactEmptyPartySpec) = true := by kernel_rfl
theorem lawEmptyParty_inPlace : (Rows.fnExactEmptyPartyRow.inPlace == Try.prog.inPlace 4) = true := by kernel_rfl
theorem lawEmptyParty_unfollowed : (Rows.fnExactEmptyPartyRow.unfollowed == Try.prog.unfollowed 4) = true := by kernel_rfl
theorem lawEmptyParty_recurses : (Rows.fnExactEmptyPartyRow.recurses == Try.prog.recurses 4) = true := by kernel_rfl
theorem lawEmptyParty_named : (Rows.fnExactEmptyPartyRow.named == Try.prog.varsNamed 4) = true := by kernel_rfl
theorem lawEmptyParty_name : Try.prog.funcNamed Rows.fnExactEmptyPartyRow.func = some 4 := by kernel_rfl
theorem lawEmptyParty_wrap : (Try.f4).isWrapper Try.prog Rows.fnExactEmptyPartyRow.wrapper Rows.fnExactEmptyPartyRow.mainSum := by
  unfold Func.isWrapper
  first | (rw [if_pos (by decide +kernel)]; kernel_rfl) | (rw [if_neg (by decide +kernel)]; exact ⟨rfl, rfl⟩)
theorem lawEmptyParty_joined : joinedFacts Try.prog 4 Try.f4 Rows.fnExactEmptyPartySpec Rows.fnExactEmptyPartyRow = true :=
  joined_of lawEmptyParty_wf lawEmptyParty_types lawEmptyParty_inPlace lawEmptyParty_unfollowed lawEmptyParty_recurses lawEmptyParty_named rfl rfl rfl

theorem exactEmptyParty_holds : Rows.FnExactEmptyPartySaid :=
  OpenClaim.holds_of_wide 4 Try.f4 rfl rfl rfl rfl rfl rfl rfl ⟨rfl, rfl, rfl, rfl, rfl⟩ rfl rfl rfl rfl rfl lawEmptyParty_name Try.func4 lawEmptyParty_joined
    (of_decide_eq_true (by kernel_rfl)) lawEmptyParty_wrap
    (fun os started H enc _ => lawEmptyParty_lifted os started H enc)
end Go.Proofs.Ytgkfnckgpbjbdaa
