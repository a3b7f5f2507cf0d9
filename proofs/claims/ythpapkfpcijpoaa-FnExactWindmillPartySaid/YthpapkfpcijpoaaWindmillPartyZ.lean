/-
  For every input that can be read, 'laws.FnExactWindmillParty' returns true, and its arguments read afterwards as they read before. Conditions: none.
-/
import Derived.Test.YthpapkfpcijpoaaWindmillPartyP1
import Derived.Test.YthpapkfpcijpoaaWindmillPartyP3
namespace Go.Proofs.Ythpapkfpcijpoaa
open Go.ChangeShapes Go.WideShapes Go.ChangeAt Go.RowKit

set_option maxRecDepth 100000 in
theorem lawWindmillParty_lifted (os : Os) (started : os.Started) (H : Type) (enc : TypeId × Value → H) :
    ReturnsInHanded {} Try.checked os 5 .any (Rows.fnExactWindmillPartySpec.pre6 enc Try.prog Try.f5 Rows.fnExactWindmillPartyRow.domain false) (Rows.fnExactWindmillPartySpec.post enc Try.prog Try.f5 false true false false) := by
  refine returnsInHanded_of_change (C := Try.checked) Try.own started (by kernel_rfl) Try.func5
    (ChangeSpec.witness6 (enc := enc) (C := Try.checked) false ⟨#[], #[.int .i64 0], []⟩ 8 (by kernel_rfl) (by kernel_rfl) (by kernel_rfl) (by kernel_rfl)) ?_
  intro W base args ds gs before hval0 hW _ _
  have hval : ∀ (j : Nat) t v, Try.f5.params[j]? = some t → args[j]? = some v → Value.okWide Try.prog W .any base t v := hval0
  have hW' := hW
  obtain ⟨p, q, hA0, hV, rfl, _, _⟩ := hW
  have hA : DataW.TrodAll enc Try.prog W 0 (fun _ => true) true Try.f5.params.toList args.toList ds p := hA0
  rw [Try.params5] at hA hval
  obtain ⟨v0, d0, rfl, rfl, h0⟩ := trodAll_one hA
  obtain ⟨rfl, rfl⟩ := trodVars_none hV
  obtain ⟨x0, rfl, _, _, wf0⟩ := open_int Try.underlying3 (hval 0 _ v0 rfl rfl) h0
  refine (lawWindmillParty_any x0 W ).mono fun e W' ⟨he, hb⟩ => ?_
  subst he
  exact ⟨_, rfl, law_post Try.laidOut (by kernel_rfl) (by kernel_rfl) Try.underlying4 rfl rfl hW' hb⟩

theorem lawWindmillParty_types : typeFacts Try.prog Try.f5 Rows.fnExactWindmillPartySpec Rows.fnExactWindmillPartyRow = true := by kernel_rfl
theorem lawWindmillParty_wf : Rows.fnExactWindmillPartyRow.wf (OpenSpec.ofChange Rows.fnExactWindmillPartySpec) = true := by kernel_rfl
theorem lawWindmillParty_inPlace : (Rows.fnExactWindmillPartyRow.inPlace == Try.prog.inPlace 5) = true := by kernel_rfl
theorem lawWindmillParty_unfollowed : (Rows.fnExactWindmillPartyRow.unfollowed == Try.prog.unfollowed 5) = true := by kernel_rfl
theorem lawWindmillParty_recurses : (Rows.fnExactWindmillPartyRow.recurses == Try.prog.recurses 5) = true := by kernel_rfl
theorem lawWindmillParty_named : (Rows.fnExactWindmillPartyRow.named == Try.prog.varsNamed 5) = true := by kernel_rfl
theorem lawWindmillParty_name : Try.prog.funcNamed Rows.fnExactWindmillPartyRow.func = some 5 := by kernel_rfl
theorem lawWindmillParty_wrap : (Try.f5).isWrapper Try.prog Rows.fnExactWindmillPartyRow.wrapper Rows.fnExactWindmillPartyRow.mainSum := by
  unfold Func.isWrapper
  first | (rw [if_pos (by decide +kernel)]; kernel_rfl) | (rw [if_neg (by decide +kernel)]; exact ⟨rfl, rfl⟩)
theorem lawWindmillParty_joined : joinedFacts Try.prog 5 Try.f5 Rows.fnExactWindmillPartySpec Rows.fnExactWindmillPartyRow = true :=
  joined_of lawWindmillParty_wf lawWindmillParty_types lawWindmillParty_inPlace lawWindmillParty_unfollowed lawWindmillParty_recurses lawWindmillParty_named rfl rfl rfl

theorem exactWindmillParty_holds : Rows.FnExactWindmillPartySaid :=
  OpenClaim.holds_of_wide 5 Try.f5 rfl rfl rfl rfl rfl rfl rfl ⟨rfl, rfl, rfl, rfl, rfl⟩ rfl rfl rfl rfl rfl lawWindmillParty_name Try.func5 lawWindmillParty_joined
    (of_decide_eq_true (by kernel_rfl)) lawWindmillParty_wrap
    (fun os started H enc _ => lawWindmillParty_lifted os started H enc)
end Go.Proofs.Ythpapkfpcijpoaa
