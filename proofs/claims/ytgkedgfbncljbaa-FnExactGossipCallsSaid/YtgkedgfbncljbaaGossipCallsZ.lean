/-
  For every input that can be read, 'laws.FnExactGossipCalls' returns true, and its arguments read afterwards as they read before. Conditions: none.
-/
import Derived.Test.YtgkedgfbncljbaaGossipCallsP1
import Derived.Test.YtgkedgfbncljbaaGossipCallsP2
import Derived.Test.YtgkedgfbncljbaaGossipCallsP3
namespace Go.Proofs.Ytgkedgfbncljbaa
open Go.ChangeShapes Go.WideShapes Go.ChangeAt Go.RowKit

set_option maxRecDepth 100000 in
theorem lawGossipCalls_lifted (os : Os) (started : os.Started) (H : Type) (enc : TypeId × Value → H) :
    ReturnsInHanded {} Try.checked os 13 .any (Rows.fnExactGossipCallsSpec.pre6 enc Try.prog Try.f13 Rows.fnExactGossipCallsRow.domain false) (Rows.fnExactGossipCallsSpec.post enc Try.prog Try.f13 false true false false) := by
  refine returnsInHanded_of_change (C := Try.checked) Try.own started (by kernel_rfl) Try.func13
    (ChangeSpec.witness6 (enc := enc) (C := Try.checked) false ⟨#[], #[.int .i64 0], []⟩ 8 (by kernel_rfl) (by kernel_rfl) (by kernel_rfl) (by kernel_rfl)) ?_
  intro W base args ds gs before hval0 hW _ _
  have hval : ∀ (j : Nat) t v, Try.f13.params[j]? = some t → args[j]? = some v → Value.okWide Try.prog W .any base t v := hval0
  have hW' := hW
  obtain ⟨p, q, hA0, hV, rfl, _, _⟩ := hW
  have hA : DataW.TrodAll enc Try.prog W 0 (fun _ => true) true Try.f13.params.toList args.toList ds p := hA0
  rw [Try.params13] at hA hval
  obtain ⟨v0, d0, rfl, rfl, h0⟩ := trodAll_one hA
  obtain ⟨rfl, rfl⟩ := trodVars_none hV
  obtain ⟨x0, rfl, _, _, wf0⟩ := open_int Try.underlying3 (hval 0 _ v0 rfl rfl) h0
  refine (lawGossipCalls_any x0 W ).mono fun e W' ⟨he, hb⟩ => ?_
  subst he
  exact ⟨_, rfl, law_post Try.laidOut (by kernel_rfl) (by kernel_rfl) Try.underlying4 rfl rfl hW' hb⟩

theorem lawGossipCalls_types : typeFacts Try.prog Try.f13 Rows.fnExactGossipCallsSpec Rows.fnExactGossipCallsRow = true := by kernel_rfl
theorem lawGossipCalls_wf : Rows.fnExactGossipCallsRow.wf (OpenSpec.ofChange Rows.fnExactGossipCallsSpec) = true := by kernel_rfl
theorem lawGossipCalls_inPlace : (Rows.fnExactGossipCallsRow.inPlace == Try.prog.inPlace 13) = true := by kernel_rfl
theorem lawGossipCalls_unfollowed : (Rows.fnExactGossipCallsRow.unfollowed == Try.prog.unfollowed 13) = true := by kernel_rfl
theorem lawGossipCalls_recurses : (Rows.fnExactGossipCallsRow.recurses == Try.prog.recurses 13) = true := by kernel_rfl
theorem lawGossipCalls_named : (Rows.fnExactGossipCallsRow.named == Try.prog.varsNamed 13) = true := by kernel_rfl
theorem lawGossipCalls_name : Try.prog.funcNamed Rows.fnExactGossipCallsRow.func = some 13 := by kernel_rfl
theorem lawGossipCalls_wrap : (Try.f13).isWrapper Try.prog Rows.fnExactGossipCallsRow.wrapper Rows.fnExactGossipCallsRow.mainSum := by
  unfold Func.isWrapper
  first | (rw [if_pos (by decide +kernel)]; kernel_rfl) | (rw [if_neg (by decide +kernel)]; exact ⟨rfl, rfl⟩)
theorem lawGossipCalls_joined : joinedFacts Try.prog 13 Try.f13 Rows.fnExactGossipCallsSpec Rows.fnExactGossipCallsRow = true :=
  joined_of lawGossipCalls_wf lawGossipCalls_types lawGossipCalls_inPlace lawGossipCalls_unfollowed lawGossipCalls_recurses lawGossipCalls_named rfl rfl rfl

theorem exactGossipCalls_holds : Rows.FnExactGossipCallsSaid :=
  OpenClaim.holds_of_wide 13 Try.f13 rfl rfl rfl rfl rfl rfl rfl ⟨rfl, rfl, rfl, rfl, rfl⟩ rfl rfl rfl rfl rfl lawGossipCalls_name Try.func13 lawGossipCalls_joined
    (of_decide_eq_true (by kernel_rfl)) lawGossipCalls_wrap
    (fun os started H enc _ => lawGossipCalls_lifted os started H enc)
end Go.Proofs.Ytgkedgfbncljbaa
