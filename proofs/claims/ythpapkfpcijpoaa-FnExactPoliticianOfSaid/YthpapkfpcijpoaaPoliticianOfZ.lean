/-
  For every input that can be read, 'laws.FnExactPoliticianOf' returns true, and its arguments read afterwards as they read before. Conditions: none.
-/
import Derived.Test.YthpapkfpcijpoaaPoliticianOfP1
import Derived.Test.YthpapkfpcijpoaaPoliticianOfP2
namespace Go.Proofs.Ythpapkfpcijpoaa
open Go.ChangeShapes Go.WideShapes Go.ChangeAt Go.RowKit

set_option maxRecDepth 100000 in
theorem lawPoliticianOf_lifted (os : Os) (started : os.Started) (H : Type) (enc : TypeId × Value → H) :
    ReturnsInHanded {} Try.checked os 7 .any (Rows.fnExactPoliticianOfSpec.pre6 enc Try.prog Try.f7 Rows.fnExactPoliticianOfRow.domain false) (Rows.fnExactPoliticianOfSpec.post enc Try.prog Try.f7 false true false false) := by
  refine returnsInHanded_of_change (C := Try.checked) Try.own started (by kernel_rfl) Try.func7
    (ChangeSpec.witness6 (enc := enc) (C := Try.checked) false ⟨#[], #[.agg #[.int .i64 0, .slice none 0 0]], []⟩ 8 (by kernel_rfl) (by kernel_rfl) (by kernel_rfl) (by kernel_rfl)) ?_
  intro W base args ds gs before hval0 hW _ _
  have hval : ∀ (j : Nat) t v, Try.f7.params[j]? = some t → args[j]? = some v → Value.okWide Try.prog W .any base t v := hval0
  have hW' := hW
  obtain ⟨p, q, hA0, hV, rfl, _, _⟩ := hW
  have hA : DataW.TrodAll enc Try.prog W 0 (fun _ => true) true Try.f7.params.toList args.toList ds p := hA0
  rw [Try.params7] at hA hval
  obtain ⟨v0, d0, rfl, rfl, h0⟩ := trodAll_one hA
  obtain ⟨rfl, rfl⟩ := trodVars_none hV
  obtain ⟨x0, l0, A0, c0, rfl, hl0, hr0⟩ := open_party (hval 0 _ v0 rfl rfl) h0
  refine (lawPoliticianOf_any x0 l0 A0 c0 W hl0 hr0).mono fun e W' ⟨he, hb⟩ => ?_
  subst he
  exact ⟨_, rfl, law_post Try.laidOut (by kernel_rfl) (by kernel_rfl) Try.underlying4 rfl rfl hW' hb⟩

theorem lawPoliticianOf_types : typeFacts Try.prog Try.f7 Rows.fnExactPoliticianOfSpec Rows.fnExactPoliticianOfRow = true := by kernel_rfl
theorem lawPoliticianOf_wf : Rows.fnExactPoliticianOfRow.wf (OpenSpec.ofChange Rows.fnExactPoliticianOfSpec) = true := by kernel_rfl
theorem lawPoliticianOf_inPlace : (Rows.fnExactPoliticianOfRow.inPlace == Try.prog.inPlace 7) = true := by kernel_rfl
theorem lawPoliticianOf_unfollowed : (Rows.fnExactPoliticianOfRow.unfollowed == Try.prog.unfollowed 7) = true := by kernel_rfl
theorem lawPoliticianOf_recurses : (Rows.fnExactPoliticianOfRow.recurses == Try.prog.recurses 7) = true := by kernel_rfl
theorem lawPoliticianOf_named : (Rows.fnExactPoliticianOfRow.named == Try.prog.varsNamed 7) = true := by kernel_rfl
theorem lawPoliticianOf_name : Try.prog.funcNamed Rows.fnExactPoliticianOfRow.func = some 7 := by kernel_rfl
theorem lawPoliticianOf_wrap : (Try.f7).isWrapper Try.prog Rows.fnExactPoliticianOfRow.wrapper Rows.fnExactPoliticianOfRow.mainSum := by
  unfold Func.isWrapper
  first | (rw [if_pos (by decide +kernel)]; kernel_rfl) | (rw [if_neg (by decide +kernel)]; exact ⟨rfl, rfl⟩)
theorem lawPoliticianOf_joined : joinedFacts Try.prog 7 Try.f7 Rows.fnExactPoliticianOfSpec Rows.fnExactPoliticianOfRow = true :=
  joined_of lawPoliticianOf_wf lawPoliticianOf_types lawPoliticianOf_inPlace lawPoliticianOf_unfollowed lawPoliticianOf_recurses lawPoliticianOf_named rfl rfl rfl

theorem exactPoliticianOf_holds : Rows.FnExactPoliticianOfSaid :=
  OpenClaim.holds_of_wide 7 Try.f7 rfl rfl rfl rfl rfl rfl rfl ⟨rfl, rfl, rfl, rfl, rfl⟩ rfl rfl rfl rfl rfl lawPoliticianOf_name Try.func7 lawPoliticianOf_joined
    (of_decide_eq_true (by kernel_rfl)) lawPoliticianOf_wrap
    (fun os started H enc _ => lawPoliticianOf_lifted os started H enc)
end Go.Proofs.Ythpapkfpcijpoaa
