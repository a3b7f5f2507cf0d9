/-
  For every input that can be read, 'laws.FnExactRenameParty' returns true, and its arguments read afterwards as they read before. Conditions: none.
-/
import Derived.Test.YtaemodpolopcfaaSaid
import Derived.Test.YtaemodpolopcfaaOpenL
import Derived.Test.YtaemodpolopcfaaLawRenameParty
import Derived.Test.YtaemodpolopcfaaFacts
namespace Go.Proofs.Ytaemodpolopcfaa
open Go.ChangeShapes Go.WideShapes Go.ChangeAt Go.RowKit

set_option maxRecDepth 100000 in
theorem lawRenameParty_lifted (os : Os) (started : os.Started) (H : Type) (enc : TypeId × Value → H) :
    ReturnsInHanded {} Try.checked os 3 .any (Rows.fnExactRenamePartySpec.pre6 enc Try.prog Try.f3 Rows.fnExactRenamePartyRow.domain false) (Rows.fnExactRenamePartySpec.post enc Try.prog Try.f3 false true false false) := by
  refine returnsInHanded_of_change (C := Try.checked) Try.own started (by kernel_rfl) Try.func3
    (ChangeSpec.witness6 (enc := enc) (C := Try.checked) false ⟨#[], #[.agg #[.int .i64 0, .slice none 0 0], .slice none 0 0], []⟩ 8 (by kernel_rfl) (by kernel_rfl) (by kernel_rfl) (by kernel_rfl)) ?_
  intro W base args ds gs before hval0 hW _ _
  have hval : ∀ (j : Nat) t v, Try.f3.params[j]? = some t → args[j]? = some v → Value.okWide Try.prog W .any base t v := hval0
  have hW' := hW
  obtain ⟨p, q, hA0, hV, rfl, _, _⟩ := hW
  have hA : DataW.TrodAll enc Try.prog W 0 (fun _ => true) true Try.f3.params.toList args.toList ds p := hA0
  rw [Try.params3] at hA hval
  obtain ⟨v0, v1, d0, d1, p0, p1, rfl, rfl, rfl, h0, h1⟩ := trodAll_two hA
  obtain ⟨rfl, rfl⟩ := trodVars_none hV
  obtain ⟨x0, l0, A0, c0, rfl, hl0, hr0⟩ := open_party (hval 0 _ v0 rfl rfl) h0
  obtain ⟨l1, A1, c1, rfl, hl1, hr1⟩ := open_list (hval 1 _ v1 rfl rfl) h1
  refine (lawRenameParty_any x0 l0 A0 c0 l1 A1 c1 W hl0 hr0 hl1 hr1).mono fun e W' ⟨he, hb⟩ => ?_
  subst he
  exact ⟨_, rfl, law_post Try.laidOut (by kernel_rfl) (by kernel_rfl) Try.underlying4 rfl rfl hW' hb⟩

theorem lawRenameParty_types : typeFacts Try.prog Try.f3 Rows.fnExactRenamePartySpec Rows.fnExactRenamePartyRow = true := by kernel_rfl
theorem lawRenameParty_wf : Rows.fnExactRenamePartyRow.wf (OpenSpec.ofChange Rows.fnExactRenamePartySpec) = true := by kernel_rfl
theorem lawRenameParty_inPlace : (Rows.fnExactRenamePartyRow.inPlace == Try.prog.inPlace 3) = true := by kernel_rfl
theorem lawRenameParty_unfollowed : (Rows.fnExactRenamePartyRow.unfollowed == Try.prog.unfollowed 3) = true := by kernel_rfl
theorem lawRenameParty_recurses : (Rows.fnExactRenamePartyRow.recurses == Try.prog.recurses 3) = true := by kernel_rfl
theorem lawRenameParty_named : (Rows.fnExactRenamePartyRow.named == Try.prog.varsNamed 3) = true := by kernel_rfl
theorem lawRenameParty_name : Try.prog.funcNamed Rows.fnExactRenamePartyRow.func = some 3 := by kernel_rfl
theorem lawRenameParty_wrap : (Try.f3).isWrapper Try.prog Rows.fnExactRenamePartyRow.wrapper Rows.fnExactRenamePartyRow.mainSum := by
  unfold Func.isWrapper
  first | (rw [if_pos (by decide +kernel)]; kernel_rfl) | (rw [if_neg (by decide +kernel)]; exact ⟨rfl, rfl⟩)
theorem lawRenameParty_joined : joinedFacts Try.prog 3 Try.f3 Rows.fnExactRenamePartySpec Rows.fnExactRenamePartyRow = true :=
  joined_of lawRenameParty_wf lawRenameParty_types lawRenameParty_inPlace lawRenameParty_unfollowed lawRenameParty_recurses lawRenameParty_named rfl rfl rfl

theorem exactRenameParty_holds : Rows.FnExactRenamePartySaid :=
  OpenClaim.holds_of_wide 3 Try.f3 rfl rfl rfl rfl rfl rfl rfl ⟨rfl, rfl, rfl, rfl, rfl⟩ rfl rfl rfl rfl rfl lawRenameParty_name Try.func3 lawRenameParty_joined
    (of_decide_eq_true (by kernel_rfl)) lawRenameParty_wrap
    (fun os started H enc _ => lawRenameParty_lifted os started H enc)
end Go.Proofs.Ytaemodpolopcfaa
