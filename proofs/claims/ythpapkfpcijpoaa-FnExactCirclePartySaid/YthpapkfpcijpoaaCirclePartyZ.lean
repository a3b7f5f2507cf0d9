/-
  For every input that can be read, 'laws.FnExactCircleParty' returns true, and its arguments read afterwards as they read before. Conditions: none.
-/
import Derived.Test.YthpapkfpcijpoaaCirclePartyP1
import Derived.Test.YthpapkfpcijpoaaCirclePartyP4
namespace Go.Proofs.Ythpapkfpcijpoaa
open Go.ChangeShapes Go.WideShapes Go.ChangeAt Go.RowKit

set_option maxRecDepth 100000 in
theorem lawCircleParty_lifted (os : Os) (started : os.Started) (H : Type) (enc : TypeId × Value → H) :
    ReturnsInHanded {} Try.checked os 10 .any (Rows.fnExactCirclePartySpec.pre6 enc Try.prog Try.f10 Rows.fnExactCirclePartyRow.domain false) (Rows.fnExactCirclePartySpec.post enc Try.prog Try.f10 false true false false) := by
  refine returnsInHanded_of_change (C := Try.checked) Try.own started (by kernel_rfl) Try.func10
    (ChangeSpec.witness6 (enc := enc) (C := Try.checked) false ⟨#[], #[.int .i64 0, .slice none 0 0], []⟩ 8 (by kernel_rfl) (by kernel_rfl) (by kernel_rfl) (by kernel_rfl)) ?_
  intro W base args ds gs before hval0 hW _ _
  have hval : ∀ (j : Nat) t v, Try.f10.params[j]? = some t → args[j]? = some v → Value.okWide Try.prog W .any base t v := hval0
  have hW' := hW
  obtain ⟨p, q, hA0, hV, rfl, _, _⟩ := hW
  have hA : DataW.TrodAll enc Try.prog W 0 (fun _ => true) true Try.f10.params.toList args.toList ds p := hA0
  rw [Try.params10] at hA hval
  obtain ⟨v0, v1, d0, d1, p0, p1, rfl, rfl, rfl, h0, h1⟩ := trodAll_two hA
  obtain ⟨rfl, rfl⟩ := trodVars_none hV
  obtain ⟨x0, rfl, _, _, wf0⟩ := open_int Try.underlying3 (hval 0 _ v0 rfl rfl) h0
  obtain ⟨l1, A1, c1, rfl, hl1, hr1⟩ := open_list (hval 1 _ v1 rfl rfl) h1
  refine (lawCircleParty_any x0 l1 A1 c1 W hl1 hr1).mono fun e W' ⟨he, hb⟩ => ?_
  subst he
  exact ⟨_, rfl, law_post Try.laidOut (by kernel_rfl) (by kernel_rfl) Try.underlying4 rfl rfl hW' hb⟩

theorem lawCircleParty_types : typeFacts Try.prog Try.f10 Rows.fnExactCirclePartySpec Rows.fnExactCirclePartyRow = true := by kernel_rfl
theorem lawCircleParty_wf : Rows.fnExactCirclePartyRow.wf (OpenSpec.ofChange Rows.fnExactCirclePartySpec) = true := by kernel_rfl
theorem lawCircleParty_inPlace : (Rows.fnExactCirclePartyRow.inPlace == Try.prog.inPlace 10) = true := by kernel_rfl
theorem lawCircleParty_unfollowed : (Rows.fnExactCirclePartyRow.unfollowed == Try.prog.unfollowed 10) = true := by kernel_rfl
theorem lawCircleParty_recurses : (Rows.fnExactCirclePartyRow.recurses == Try.prog.recurses 10) = true := by kernel_rfl
theorem lawCircleParty_named : (Rows.fnExactCirclePartyRow.named == Try.prog.varsNamed 10) = true := by kernel_rfl
theorem lawCircleParty_name : Try.prog.funcNamed Rows.fnExactCirclePartyRow.func = some 10 := by kernel_rfl
theorem lawCircleParty_wrap : (Try.f10).isWrapper Try.prog Rows.fnExactCirclePartyRow.wrapper Rows.fnExactCirclePartyRow.mainSum := by
  unfold Func.isWrapper
  first | (rw [if_pos (by decide +kernel)]; kernel_rfl) | (rw [if_neg (by decide +kernel)]; exact ⟨rfl, rfl⟩)
theorem lawCircleParty_joined : joinedFacts Try.prog 10 Try.f10 Rows.fnExactCirclePartySpec Rows.fnExactCirclePartyRow = true :=
  joined_of lawCircleParty_wf lawCircleParty_types lawCircleParty_inPlace lawCircleParty_unfollowed lawCircleParty_recurses lawCircleParty_named rfl rfl rfl

theorem exactCircleParty_holds : Rows.FnExactCirclePartySaid :=
  OpenClaim.holds_of_wide 10 Try.f10 rfl rfl rfl rfl rfl rfl rfl ⟨rfl, rfl, rfl, rfl, rfl⟩ rfl rfl rfl rfl rfl lawCircleParty_name Try.func10 lawCircleParty_joined
    (of_decide_eq_true (by kernel_rfl)) lawCircleParty_wrap
    (fun os started H enc _ => lawCircleParty_lifted os started H enc)
end Go.Proofs.Ythpapkfpcijpoaa
