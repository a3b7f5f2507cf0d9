/-
  For every input that can be read, 'laws.FnExactCouplesParty' returns true, and its arguments read afterwards as they read before. Conditions: none.
-/
import Derived.Test.YtgkedgfbncljbaaCouplesPartyP1
import Derived.Test.YtgkedgfbncljbaaCouplesPartyP3
namespace Go.Proofs.Ytgkedgfbncljbaa
open Go.ChangeShapes Go.WideShapes Go.ChangeAt Go.RowKit

set_option maxRecDepth 100000 in
theorem lawCouplesParty_lifted (os : Os) (started : os.Started) (H : Type) (enc : TypeId × Value → H) :
    ReturnsInHanded {} Try.checked os 3 .any (Rows.fnExactCouplesPartySpec.pre6 enc Try.prog Try.f3 Rows.fnExactCouplesPartyRow.domain false) (Rows.fnExactCouplesPartySpec.post enc Try.prog Try.f3 false true false false) := by
  refine returnsInHanded_of_change (C := Try.checked) Try.own started (by kernel_rfl) Try.func3
    (ChangeSpec.witness6 (enc := enc) (C := Try.checked) false ⟨#[], #[.int .i64 0], []⟩ 8 (by kernel_rfl) (by kernel_rfl) (by kernel_rfl) (by kernel_rfl)) ?_
  intro W base args ds gs before hval0 hW _ _
  have hval : ∀ (j : Nat) t v, Try.f3.params[j]? = some t → args[j]? = some v → Value.okWide Try.prog W .any base t v := hval0
  have hW' := hW
  obtain ⟨p, q, hA0, hV, rfl, _, _⟩ := hW
  have hA : DataW.TrodAll enc Try.prog W 0 (fun _ => true) true Try.f3.params.toList args.toList ds p := hA0
  rw [Try.params3] at hA hval
  obtain ⟨v0, d0, rfl, rfl, h0⟩ := trodAll_one hA
  obtain ⟨rfl, rfl⟩ := trodVars_none hV
  obtain ⟨x0, rfl, _, _, wf0⟩ := open_int Try.underlying3 (hval 0 _ v0 rfl rfl) h0
  refine (lawCouplesParty_any x0 W ).mono fun e W' ⟨he, hb⟩ => ?_
  subst he
  exact ⟨_, rfl, law_post Try.laidOut (by kernel_rfl) (by kernel_rfl) Try.underlying4 rfl rfl hW' hb⟩

theorem lawCouplesParty_types : typeFacts Try.prog Try.f3 Rows.fnExactCouplesPartySpec Rows.fnExactCouplesPartyRow = true := by kernel_rfl
theorem lawCouplesParty_wf : Rows.fnExactCouplesPartyRow.wf (OpenSpec.ofChange Rows.fnExactCouplesPartySpec) = true := by kernel_rfl
theorem lawCouplesParty_inPlace : (Rows.fnExactCouplesPartyRow.inPlace == Try.prog.inPlace 3) = true := by kernel_rfl
theorem lawCouplesParty_unfollowed : (Rows.fnExactCouplesPartyRow.unfollowed == Try.prog.unfollowed 3) = true := by kernel_rfl
theorem lawCouplesParty_recurses : (Rows.fnExactCouplesPartyRow.recurses == Try.prog.recurses 3) = true := by kernel_rfl
theorem lawCouplesParty_named : (Rows.fnExactCouplesPartyRow.named == Try.prog.varsNamed 3) = true := by kernel_rfl
theorem lawCouplesParty_name : Try.prog.funcNamed Rows.fnExactCouplesPartyRow.func = some 3 := by kernel_rfl
theorem lawCouplesParty_wrap : (Try.f3).isWrapper Try.prog Rows.fnExactCouplesPartyRow.wrapper Rows.fnExactCouplesPartyRow.mainSum := by
  unfold Func.isWrapper
  first | (rw [if_pos (by decide +kernel)]; kernel_rfl) | (rw [if_neg (by decide +kernel)]; exact ⟨rfl, rfl⟩)
theorem lawCouplesParty_joined : joinedFacts Try.prog 3 Try.f3 Rows.fnExactCouplesPartySpec Rows.fnExactCouplesPartyRow = true :=
  joined_of lawCouplesParty_wf lawCouplesParty_types lawCouplesParty_inPlace lawCouplesParty_unfollowed lawCouplesParty_recurses lawCouplesParty_named rfl rfl rfl

theorem exactCouplesParty_holds : Rows.FnExactCouplesPartySaid :=
  OpenClaim.holds_of_wide_leaving 3 Try.f3 rfl rfl rfl rfl rfl rfl rfl ⟨rfl, rfl, rfl, rfl, rfl⟩ rfl rfl rfl rfl rfl lawCouplesParty_name Try.func3 lawCouplesParty_joined
    (of_decide_eq_true (by kernel_rfl)) lawCouplesParty_wrap
    (fun os started H enc _ => leaving_of_handed (lawCouplesParty_lifted os started H enc))
end Go.Proofs.Ytgkedgfbncljbaa
