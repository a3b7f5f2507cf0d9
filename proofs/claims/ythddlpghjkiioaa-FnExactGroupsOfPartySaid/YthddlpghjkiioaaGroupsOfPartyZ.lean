/-
  For every input that can be read, 'laws.FnExactGroupsOfParty' returns true, and its arguments read afterwards as they read before. Conditions: none.
-/
import Derived.Test.YthddlpghjkiioaaGroupsOfPartyP1
import Derived.Test.YthddlpghjkiioaaGroupsOfPartyP7
namespace Go.Proofs.Ythddlpghjkiioaa
open Go.ChangeShapes Go.WideShapes Go.ChangeAt Go.RowKit

set_option maxRecDepth 100000 in
theorem lawGroupsOfParty_lifted (os : Os) (started : os.Started) (H : Type) (enc : TypeId × Value → H) :
    ReturnsInHanded {} Try.checked os 8 .any (Rows.fnExactGroupsOfPartySpec.pre6 enc Try.prog Try.f8 Rows.fnExactGroupsOfPartyRow.domain false) (Rows.fnExactGroupsOfPartySpec.post enc Try.prog Try.f8 false true false false) := by
  refine returnsInHanded_of_change (C := Try.checked) Try.own started (by kernel_rfl) Try.func8
    (ChangeSpec.witness6 (enc := enc) (C := Try.checked) false ⟨#[], #[.agg #[.int .i64 0, .slice none 0 0]], []⟩ 8 (by kernel_rfl) (by kernel_rfl) (by kernel_rfl) (by kernel_rfl)) ?_
  intro W base args ds gs before hval0 hW _ _
  have hval : ∀ (j : Nat) t v, Try.f8.params[j]? = some t → args[j]? = some v → Value.okWide Try.prog W .any base t v := hval0
  have hW' := hW
  obtain ⟨p, q, hA0, hV, rfl, _, _⟩ := hW
  have hA : DataW.TrodAll enc Try.prog W 0 (fun _ => true) true Try.f8.params.toList args.toList ds p := hA0
  rw [Try.params8] at hA hval
  obtain ⟨v0, d0, rfl, rfl, h0⟩ := trodAll_one hA
  obtain ⟨rfl, rfl⟩ := trodVars_none hV
  obtain ⟨x0, l0, A0, c0, rfl, hl0, hr0⟩ := open_party (hval 0 _ v0 rfl rfl) h0
  refine (lawGroupsOfParty_any x0 l0 A0 c0 W hl0 hr0).mono fun e W' ⟨he, hb⟩ => ?_
  subst he
  exact ⟨_, rfl, law_post Try.laidOut (by kernel_rfl) (by kernel_rfl) Try.underlying4 rfl rfl hW' hb⟩

theorem lawGroupsOfParty_types : typeFacts Try.prog Try.f8 Rows.fnExactGroupsOfPartySpec Rows.fnExactGroupsOfPartyRow = true := by kernel_rfl
theorem lawGroupsOfParty_wf : Rows.fnExactGroupsOfPartyRow.wf (OpenSpec.ofChange Rows.fnExactGroupsOfPartySpec) = true := by kernel_rfl
theorem lawGroupsOfParty_inPlace : (Rows.fnExactGroupsOfPartyRow.inPlace == Try.prog.inPlace 8) = true := by kernel_rfl
theorem lawGroupsOfParty_unfollowed : (Rows.fnExactGroupsOfPartyRow.unfollowed == Try.prog.unfollowed 8) = true := by kernel_rfl
theorem lawGroupsOfParty_recurses : (Rows.fnExactGroupsOfPartyRow.recurses == Try.prog.recurses 8) = true := by kernel_rfl
theorem lawGroupsOfParty_named : (Rows.fnExactGroupsOfPartyRow.named == Try.prog.varsNamed 8) = true := by kernel_rfl
theorem lawGroupsOfParty_name : Try.prog.funcNamed Rows.fnExactGroupsOfPartyRow.func = some 8 := by kernel_rfl
theorem lawGroupsOfParty_wrap : (Try.f8).isWrapper Try.prog Rows.fnExactGroupsOfPartyRow.wrapper Rows.fnExactGroupsOfPartyRow.mainSum := by
  unfold Func.isWrapper
  first | (rw [if_pos (by decide +kernel)]; kernel_rfl) | (rw [if_neg (by decide +kernel)]; exact ⟨rfl, rfl⟩)
theorem lawGroupsOfParty_joined : joinedFacts Try.prog 8 Try.f8 Rows.fnExactGroupsOfPartySpec Rows.fnExactGroupsOfPartyRow = true :=
  joined_of lawGroupsOfParty_wf lawGroupsOfParty_types lawGroupsOfParty_inPlace lawGroupsOfParty_unfollowed lawGroupsOfParty_recurses lawGroupsOfParty_named rfl rfl rfl

theorem exactGroupsOfParty_holds : Rows.FnExactGroupsOfPartySaid :=
  OpenClaim.holds_of_wide 8 Try.f8 rfl rfl rfl rfl rfl rfl rfl ⟨rfl, rfl, rfl, rfl, rfl⟩ rfl rfl rfl rfl rfl lawGroupsOfParty_name Try.func8 lawGroupsOfParty_joined
    (of_decide_eq_true (by kernel_rfl)) lawGroupsOfParty_wrap
    (fun os started H enc _ => lawGroupsOfParty_lifted os started H enc)
end Go.Proofs.Ythddlpghjkiioaa
