/-
  For every input that can be read, 'laws.FnExactOtherParty' returns true, and its arguments read afterwards as they read before. Conditions: none.
-/
import Derived.Test.YtgkfnckgpbjbdaaLawOtherParty
import Derived.Test.YtgkfnckgpbjbdaaFacts
namespace Go.Proofs.Ytgkfnckgpbjbdaa
open Go.ChangeShapes Go.WideShapes Go.ChangeAt Go.RowKit

set_option maxRecDepth 100000 in
theorem lawOtherParty_lifted (os : Os) (started : os.Started) (H : Type) (enc : TypeId × Value → H) :
    ReturnsInHanded {} Try.checked os 11 .any (Rows.fnExactOtherPartySpec.pre6 enc Try.prog Try.f11 Rows.fnExactOtherPartyRow.domain false) (Rows.fnExactOtherPartySpec.post enc Try.prog Try.f11 false true false false) := by
  refine returnsInHanded_of_change (C := Try.checked) Try.own started (by kernel_rfl) Try.func11
    (ChangeSpec.witness6 (enc := enc) (C := Try.checked) false ⟨#[], #[.agg #[.int .i64 0, .slice none 0 0]], []⟩ 8 (by kernel_rfl) (by kernel_rfl) (by kernel_rfl) (by kernel_rfl)) ?_
  intro W base args ds gs before hval0 hW _ _
  have hval : ∀ (j : Nat) t v, Try.f11.params[j]? = some t → args[j]? = some v → Value.okWide Try.prog W .any base t v := hval0
  have hW' := hW
  obtain ⟨p, q, hA0, hV, rfl, _, _⟩ := hW
  have hA : DataW.TrodAll enc Try.prog W 0 (fun _ => true) true Try.f11.params.toList args.toList ds p := hA0
  rw [Try.params11] at hA hval
  obtain ⟨v0, d0, rfl, rfl, h0⟩ := trodAll_one hA
  obtain ⟨rfl, rfl⟩ := trodVars_none hV
  obtain ⟨x0, l0, A0, c0, rfl, hl0, hr0⟩ := open_party (hval 0 _ v0 rfl rfl) h0
  refine (lawOtherParty_any x0 l0 A0 c0 W hl0 hr0).mono fun e W' ⟨he, hb⟩ => ?_
  subst he
  exact ⟨_, rfl, law_post Try.laidOut (by kernel_rfl) (by kernel_rfl) Try.underlying4 rfl rfl hW' hb⟩

theorem lawOtherParty_types : typeFacts Try.prog Try.f11 Rows.fnExactOtherPartySpec Rows.fnExactOtherPartyRow = true := by kernel_rfl
theorem lawOtherParty_wf : Rows.fnExactOtherPartyRow.wf (OpenSpec.ofChange Rows.fnExactOtherPartySpec) = true := by kernel_rfl
theorem lawOtherParty_inPlace : (Rows.fnExactOtherPartyRow.inPlace == Try.prog.inPlace 11) = true := by kernel_rfl
theorem lawOtherParty_unfollowed : (Rows.fnExactOtherPartyRow.unfollowed == Try.prog.unfollowed 11) = true := by kernel_rfl
theorem lawOtherParty_recurses : (Rows.fnExactOtherPartyRow.recurses == Try.prog.recurses 11) = true := by kernel_rfl
theorem lawOtherParty_named : (Rows.fnExactOtherPartyRow.named == Try.prog.varsNamed 11) = true := by kernel_rfl
theorem lawOtherParty_name : Try.prog.funcNamed Rows.fnExactOtherPartyRow.func = some 11 := by kernel_rfl
theorem lawOtherParty_wrap : (Try.f11).isWrapper Try.prog Rows.fnExactOtherPartyRow.wrapper Rows.fnExactOtherPartyRow.mainSum := by
  unfold Func.isWrapper
  first | (rw [if_pos (by decide +kernel)]; kernel_rfl) | (rw [if_neg (by decide +kernel)]; exact ⟨rfl, rfl⟩)
theorem lawOtherParty_joined : joinedFacts Try.prog 11 Try.f11 Rows.fnExactOtherPartySpec Rows.fnExactOtherPartyRow = true :=
  joined_of lawOtherParty_wf lawOtherParty_types lawOtherParty_inPlace lawOtherParty_unfollowed lawOtherParty_recurses lawOtherParty_named rfl rfl rfl

theorem exactOtherParty_holds : Rows.FnExactOtherPartySaid :=
  OpenClaim.holds_of_wide 11 Try.f11 rfl rfl rfl rfl rfl rfl rfl ⟨rfl, rfl, rfl, rfl, rfl⟩ rfl rfl rfl rfl rfl lawOtherParty_name Try.func11 lawOtherParty_joined
    (of_decide_eq_true (by kernel_rfl)) lawOtherParty_wrap
    (fun os started H enc _ => lawOtherParty_lifted os started H enc)
end Go.Proofs.Ytgkfnckgpbjbdaa
