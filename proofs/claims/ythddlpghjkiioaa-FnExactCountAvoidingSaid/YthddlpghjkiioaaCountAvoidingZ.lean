/-
  For every input that can be read, 'laws.FnExactCountAvoiding' returns true, and its arguments read afterwards as they read before. Conditions: none.
-/
import Derived.Test.YthddlpghjkiioaaCountAvoidingP1
import Derived.Test.YthddlpghjkiioaaCountAvoidingP7
namespace Go.Proofs.Ythddlpghjkiioaa
open Go.ChangeShapes Go.WideShapes Go.ChangeAt Go.RowKit

set_option maxRecDepth 100000 in
theorem lawCountAvoiding_lifted (os : Os) (started : os.Started) (H : Type) (enc : TypeId × Value → H) :
    ReturnsInHanded {} Try.checked os 10 .any (Rows.fnExactCountAvoidingSpec.pre6 enc Try.prog Try.f10 Rows.fnExactCountAvoidingRow.domain false) (Rows.fnExactCountAvoidingSpec.post enc Try.prog Try.f10 false true false false) := by
  refine returnsInHanded_of_change (C := Try.checked) Try.own started (by kernel_rfl) Try.func10
    (ChangeSpec.witness6 (enc := enc) (C := Try.checked) false ⟨#[], #[.int .i64 0, .int .i64 0], []⟩ 8 (by kernel_rfl) (by kernel_rfl) (by kernel_rfl) (by kernel_rfl)) ?_
  intro W base args ds gs before hval0 hW _ _
  have hval : ∀ (j : Nat) t v, Try.f10.params[j]? = some t → args[j]? = some v → Value.okWide Try.prog W .any base t v := hval0
  have hW' := hW
  obtain ⟨p, q, hA0, hV, rfl, _, _⟩ := hW
  have hA : DataW.TrodAll enc Try.prog W 0 (fun _ => true) true Try.f10.params.toList args.toList ds p := hA0
  rw [Try.params10] at hA hval
  obtain ⟨v0, v1, d0, d1, p0, p1, rfl, rfl, rfl, h0, h1⟩ := trodAll_two hA
  obtain ⟨rfl, rfl⟩ := trodVars_none hV
  obtain ⟨x0, rfl, _, _, wf0⟩ := open_int Try.underlying3 (hval 0 _ v0 rfl rfl) h0
  obtain ⟨x1, rfl, _, _, wf1⟩ := open_int Try.underlying3 (hval 1 _ v1 rfl rfl) h1
  refine (lawCountAvoiding_any x0 x1 W ).mono fun e W' ⟨he, hb⟩ => ?_
  subst he
  exact ⟨_, rfl, law_post Try.laidOut (by kernel_rfl) (by kernel_rfl) Try.underlying4 rfl rfl hW' hb⟩

theorem lawCountAvoiding_types : typeFacts Try.prog Try.f10 Rows.fnExactCountAvoidingSpec Rows.fnExactCountAvoidingRow = true := by kernel_rfl
theorem lawCountAvoiding_wf : Rows.fnExactCountAvoidingRow.wf (OpenSpec.ofChange Rows.fnExactCountAvoidingSpec) = true := by kernel_rfl
theorem lawCountAvoiding_inPlace : (Rows.fnExactCountAvoidingRow.inPlace == Try.prog.inPlace 10) = true := by kernel_rfl
theorem lawCountAvoiding_unfollowed : (Rows.fnExactCountAvoidingRow.unfollowed == Try.prog.unfollowed 10) = true := by kernel_rfl
theorem lawCountAvoiding_recurses : (Rows.fnExactCountAvoidingRow.recurses == Try.prog.recurses 10) = true := by kernel_rfl
theorem lawCountAvoiding_named : (Rows.fnExactCountAvoidingRow.named == Try.prog.varsNamed 10) = true := by kernel_rfl
theorem lawCountAvoiding_name : Try.prog.funcNamed Rows.fnExactCountAvoidingRow.func = some 10 := by kernel_rfl
theorem lawCountAvoiding_wrap : (Try.f10).isWrapper Try.prog Rows.fnExactCountAvoidingRow.wrapper Rows.fnExactCountAvoidingRow.mainSum := by
  unfold Func.isWrapper
  first | (rw [if_pos (by decide +kernel)]; kernel_rfl) | (rw [if_neg (by decide +kernel)]; exact ⟨rfl, rfl⟩)
theorem lawCountAvoiding_joined : joinedFacts Try.prog 10 Try.f10 Rows.fnExactCountAvoidingSpec Rows.fnExactCountAvoidingRow = true :=
  joined_of lawCountAvoiding_wf lawCountAvoiding_types lawCountAvoiding_inPlace lawCountAvoiding_unfollowed lawCountAvoiding_recurses lawCountAvoiding_named rfl rfl rfl

theorem exactCountAvoiding_holds : Rows.FnExactCountAvoidingSaid :=
  OpenClaim.holds_of_wide 10 Try.f10 rfl rfl rfl rfl rfl rfl rfl ⟨rfl, rfl, rfl, rfl, rfl⟩ rfl rfl rfl rfl rfl lawCountAvoiding_name Try.func10 lawCountAvoiding_joined
    (of_decide_eq_true (by kernel_rfl)) lawCountAvoiding_wrap
    (fun os started H enc _ => lawCountAvoiding_lifted os started H enc)
end Go.Proofs.Ythddlpghjkiioaa
