/-
  For every input that can be read, 'laws.FnExactCountColourings' returns true, and its arguments read afterwards as they read before. Conditions: none.
-/
import Derived.Test.YthddlpghjkiioaaCountColouringsP1
import Derived.Test.YthddlpghjkiioaaCountColouringsP7
import Derived.Test.YthddlpghjkiioaaCountColouringsP8
namespace Go.Proofs.Ythddlpghjkiioaa
open Go.ChangeShapes Go.WideShapes Go.ChangeAt Go.RowKit

set_option maxRecDepth 100000 in
theorem lawCountColourings_lifted (os : Os) (started : os.Started) (H : Type) (enc : TypeId × Value → H) :
    ReturnsInHanded {} Try.checked os 6 .any (Rows.fnExactCountColouringsSpec.pre6 enc Try.prog Try.f6 Rows.fnExactCountColouringsRow.domain false) (Rows.fnExactCountColouringsSpec.post enc Try.prog Try.f6 false true false false) := by
  refine returnsInHanded_of_change (C := Try.checked) Try.own started (by kernel_rfl) Try.func6
    (ChangeSpec.witness6 (enc := enc) (C := Try.checked) false ⟨#[], #[.agg #[.int .i64 0, .slice none 0 0], .int .i64 0], []⟩ 8 (by kernel_rfl) (by kernel_rfl) (by kernel_rfl) (by kernel_rfl)) ?_
  intro W base args ds gs before hval0 hW _ _
  have hval : ∀ (j : Nat) t v, Try.f6.params[j]? = some t → args[j]? = some v → Value.okWide Try.prog W .any base t v := hval0
  have hW' := hW
  obtain ⟨p, q, hA0, hV, rfl, _, _⟩ := hW
  have hA : DataW.TrodAll enc Try.prog W 0 (fun _ => true) true Try.f6.params.toList args.toList ds p := hA0
  rw [Try.params6] at hA hval
  obtain ⟨v0, v1, d0, d1, p0, p1, rfl, rfl, rfl, h0, h1⟩ := trodAll_two hA
  obtain ⟨rfl, rfl⟩ := trodVars_none hV
  obtain ⟨x0, l0, A0, c0, rfl, hl0, hr0⟩ := open_party (hval 0 _ v0 rfl rfl) h0
  obtain ⟨x1, rfl, _, _, wf1⟩ := open_int Try.underlying3 (hval 1 _ v1 rfl rfl) h1
  refine (lawCountColourings_any x0 l0 A0 c0 x1 W hl0 hr0).mono fun e W' ⟨he, hb⟩ => ?_
  subst he
  exact ⟨_, rfl, law_post Try.laidOut (by kernel_rfl) (by kernel_rfl) Try.underlying4 rfl rfl hW' hb⟩

theorem lawCountColourings_types : typeFacts Try.prog Try.f6 Rows.fnExactCountColouringsSpec Rows.fnExactCountColouringsRow = true := by kernel_rfl
theorem lawCountColourings_wf : Rows.fnExactCountColouringsRow.wf (OpenSpec.ofChange Rows.fnExactCountColouringsSpec) = true := by kernel_rfl
theorem lawCountColourings_inPlace : (Rows.fnExactCountColouringsRow.inPlace == Try.prog.inPlace 6) = true := by kernel_rfl
theorem lawCountColourings_unfollowed : (Rows.fnExactCountColouringsRow.unfollowed == Try.prog.unfollowed 6) = true := by kernel_rfl
theorem lawCountColourings_recurses : (Rows.fnExactCountColouringsRow.recurses == Try.prog.recurses 6) = true := by kernel_rfl
theorem lawCountColourings_named : (Rows.fnExactCountColouringsRow.named == Try.prog.varsNamed 6) = true := by kernel_rfl
theorem lawCountColourings_name : Try.prog.funcNamed Rows.fnExactCountColouringsRow.func = some 6 := by kernel_rfl
theorem lawCountColourings_wrap : (Try.f6).isWrapper Try.prog Rows.fnExactCountColouringsRow.wrapper Rows.fnExactCountColouringsRow.mainSum := by
  unfold Func.isWrapper
  first | (rw [if_pos (by decide +kernel)]; kernel_rfl) | (rw [if_neg (by decide +kernel)]; exact ⟨rfl, rfl⟩)
theorem lawCountColourings_joined : joinedFacts Try.prog 6 Try.f6 Rows.fnExactCountColouringsSpec Rows.fnExactCountColouringsRow = true :=
  joined_of lawCountColourings_wf lawCountColourings_types lawCountColourings_inPlace lawCountColourings_unfollowed lawCountColourings_recurses lawCountColourings_named rfl rfl rfl

theorem exactCountColourings_holds : Rows.FnExactCountColouringsSaid :=
  OpenClaim.holds_of_wide 6 Try.f6 rfl rfl rfl rfl rfl rfl rfl ⟨rfl, rfl, rfl, rfl, rfl⟩ rfl rfl rfl rfl rfl lawCountColourings_name Try.func6 lawCountColourings_joined
    (of_decide_eq_true (by kernel_rfl)) lawCountColourings_wrap
    (fun os started H enc _ => lawCountColourings_lifted os started H enc)
end Go.Proofs.Ythddlpghjkiioaa
