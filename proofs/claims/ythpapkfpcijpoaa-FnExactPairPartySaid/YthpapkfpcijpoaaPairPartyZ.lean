/-
  For every input that can be read, 'laws.FnExactPairParty' returns true, and its arguments read afterwards as they read before. Conditions: none.
-/
import Derived.Test.YthpapkfpcijpoaaPairPartyP1
import Derived.Test.YthpapkfpcijpoaaPairPartyP4
namespace Go.Proofs.Ythpapkfpcijpoaa
open Go.ChangeShapes Go.WideShapes Go.ChangeAt Go.RowKit

set_option maxRecDepth 100000 in
theorem lawPairParty_lifted (os : Os) (started : os.Started) (H : Type) (enc : TypeId × Value → H) :
    ReturnsInHanded {} Try.checked os 11 .any (Rows.fnExactPairPartySpec.pre6 enc Try.prog Try.f11 Rows.fnExactPairPartyRow.domain false) (Rows.fnExactPairPartySpec.post enc Try.prog Try.f11 false true false false) := by
  refine returnsInHanded_of_change (C := Try.checked) Try.own started (by kernel_rfl) Try.func11
    (ChangeSpec.witness6 (enc := enc) (C := Try.checked) false ⟨#[], #[.int .i64 0], []⟩ 8 (by kernel_rfl) (by kernel_rfl) (by kernel_rfl) (by kernel_rfl)) ?_
  intro W base args ds gs before hval0 hW _ _
  have hval : ∀ (j : Nat) t v, Try.f11.params[j]? = some t → args[j]? = some v → Value.okWide Try.prog W .any base t v := hval0
  have hW' := hW
  obtain ⟨p, q, hA0, hV, rfl, _, _⟩ := hW
  have hA : DataW.TrodAll enc Try.prog W 0 (fun _ => true) true Try.f11.params.toList args.toList ds p := hA0
  rw [Try.params11] at hA hval
  obtain ⟨v0, d0, rfl, rfl, h0⟩ := trodAll_one hA
  obtain ⟨rfl, rfl⟩ := trodVars_none hV
  obtain ⟨x0, rfl, _, _, wf0⟩ := open_int Try.underlying3 (hval 0 _ v0 rfl rfl) h0
  refine (lawPairParty_any x0 W ).mono fun e W' ⟨he, hb⟩ => ?_
  subst he
  exact ⟨_, rfl, law_post Try.laidOut (by kernel_rfl) (by kernel_rfl) Try.underlying4 rfl rfl hW' hb⟩

theorem lawPairParty_types : typeFacts Try.prog Try.f11 Rows.fnExactPairPartySpec Rows.fnExactPairPartyRow = true := by kernel_rfl
theorem lawPairParty_wf : Rows.fnExactPairPartyRow.wf (OpenSpec.ofChange Rows.fnExactPairPartySpec) = true := by kernel_rfl
theorem lawPairParty_inPlace : (Rows.fnExactPairPartyRow.inPlace == Try.prog.inPlace 11) = true := by kernel_rfl
theorem lawPairParty_unfollowed : (Rows.fnExactPairPartyRow.unfollowed == Try.prog.unfollowed 11) = true := by kernel_rfl
theorem lawPairParty_recurses : (Rows.fnExactPairPartyRow.recurses == Try.prog.recurses 11) = true := by kernel_rfl
theorem lawPairParty_named : (Rows.fnExactPairPartyRow.named == Try.prog.varsNamed 11) = true := by kernel_rfl
theorem lawPairParty_name : Try.prog.funcNamed Rows.fnExactPairPartyRow.func = some 11 := by kernel_rfl
theorem lawPairParty_wrap : (Try.f11).isWrapper Try.prog Rows.fnExactPairPartyRow.wrapper Rows.fnExactPairPartyRow.mainSum := by
  unfold Func.isWrapper
  first | (rw [if_pos (by decide +kernel)]; kernel_rfl) | (rw [if_neg (by decide +kernel)]; exact ⟨rfl, rfl⟩)
theorem lawPairParty_joined : joinedFacts Try.prog 11 Try.f11 Rows.fnExactPairPartySpec Rows.fnExactPairPartyRow = true :=
  joined_of lawPairParty_wf lawPairParty_types lawPairParty_inPlace lawPairParty_unfollowed lawPairParty_recurses lawPairParty_named rfl rfl rfl

theorem exactPairParty_holds : Rows.FnExactPairPartySaid :=
  OpenClaim.holds_of_wide 11 Try.f11 rfl rfl rfl rfl rfl rfl rfl ⟨rfl, rfl, rfl, rfl, rfl⟩ rfl rfl rfl rfl rfl lawPairParty_name Try.func11 lawPairParty_joined
    (of_decide_eq_true (by kernel_rfl)) lawPairParty_wrap
    (fun os started H enc _ => lawPairParty_lifted os started H enc)
end Go.Proofs.Ythpapkfpcijpoaa
