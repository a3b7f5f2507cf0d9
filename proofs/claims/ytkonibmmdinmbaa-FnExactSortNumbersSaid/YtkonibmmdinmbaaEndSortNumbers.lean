/-
  For every input that can be read, 'laws.FnExactSortNumbers' returns true, and its arguments read afterwards as they read before. Conditions: none.
-/
import Derived.Test.YtkonibmmdinmbaaOpenL
import Derived.Test.YtkonibmmdinmbaaLawSortNumbers
import Derived.Test.YtkonibmmdinmbaaFacts
namespace Go.Proofs.Ytkonibmmdinmbaa
open Go.ChangeShapes Go.WideShapes Go.ChangeAt Go.RowKit

set_option maxRecDepth 100000 in
theorem lawSortNumbers_lifted (os : Os) (started : os.Started) (H : Type) (enc : TypeId × Value → H) :
    ReturnsInHanded {} Try.checked os 14 .any (Rows.fnExactSortNumbersSpec.pre6 enc Try.prog Try.f14 Rows.fnExactSortNumbersRow.domain false) (Rows.fnExactSortNumbersSpec.post enc Try.prog Try.f14 false true false false) := by
  refine returnsInHanded_of_change (C := Try.checked) Try.own started (by kernel_rfl) Try.func14
    (ChangeSpec.witness6 (enc := enc) (C := Try.checked) false ⟨#[], #[.slice none 0 0], []⟩ 8 (by kernel_rfl) (by kernel_rfl) (by kernel_rfl) (by kernel_rfl)) ?_
  intro W base args ds gs before hval0 hW _ _
  have hval : ∀ (j : Nat) t v, Try.f14.params[j]? = some t → args[j]? = some v → Value.okWide Try.prog W .any base t v := hval0
  have hW' := hW
  obtain ⟨p, q, hA0, hV, rfl, _, _⟩ := hW
  have hA : DataW.TrodAll enc Try.prog W 0 (fun _ => true) true Try.f14.params.toList args.toList ds p := hA0
  rw [Try.params14] at hA hval
  obtain ⟨v0, d0, rfl, rfl, h0⟩ := trodAll_one hA
  obtain ⟨rfl, rfl⟩ := trodVars_none hV
  obtain ⟨l0, A0, c0, rfl, hl0, hr0⟩ := open_list (hval 0 _ v0 rfl rfl) h0
  refine (lawSortNumbers_any l0 A0 c0 W hl0 hr0).mono fun e W' ⟨he, hb⟩ => ?_
  subst he
  exact ⟨_, rfl, law_post Try.laidOut (by kernel_rfl) (by kernel_rfl) Try.underlying4 rfl rfl hW' hb⟩

theorem lawSortNumbers_types : typeFacts Try.prog Try.f14 Rows.fnExactSortNumbersSpec Rows.fnExactSortNumbersRow = true := by kernel_rfl
theorem lawSortNumbers_wf : Rows.fnExactSortNumbersRow.wf (OpenSpec.ofChange Rows.fnExactSortNumbersSpec) = true := by kernel_rfl
theorem lawSortNumbers_inPlace : (Rows.fnExactSortNumbersRow.inPlace == Try.prog.inPlace 14) = true := by kernel_rfl
theorem lawSortNumbers_unfollowed : (Rows.fnExactSortNumbersRow.unfollowed == Try.prog.unfollowed 14) = true := by kernel_rfl
theorem lawSortNumbers_recurses : (Rows.fnExactSortNumbersRow.recurses == Try.prog.recurses 14) = true := by kernel_rfl
theorem lawSortNumbers_named : (Rows.fnExactSortNumbersRow.named == Try.prog.varsNamed 14) = true := by kernel_rfl
theorem lawSortNumbers_name : Try.prog.funcNamed Rows.fnExactSortNumbersRow.func = some 14 := by kernel_rfl
theorem lawSortNumbers_wrap : (Try.f14).isWrapper Try.prog Rows.fnExactSortNumbersRow.wrapper Rows.fnExactSortNumbersRow.mainSum := by
  unfold Func.isWrapper
  first | (rw [if_pos (by decide +kernel)]; kernel_rfl) | (rw [if_neg (by decide +kernel)]; exact ⟨rfl, rfl⟩)
theorem lawSortNumbers_joined : joinedFacts Try.prog 14 Try.f14 Rows.fnExactSortNumbersSpec Rows.fnExactSortNumbersRow = true :=
  joined_of lawSortNumbers_wf lawSortNumbers_types lawSortNumbers_inPlace lawSortNumbers_unfollowed lawSortNumbers_recurses lawSortNumbers_named rfl rfl rfl

theorem exactSortNumbers_holds : Rows.FnExactSortNumbersSaid :=
  OpenClaim.holds_of_wide 14 Try.f14 rfl rfl rfl rfl rfl rfl rfl ⟨rfl, rfl, rfl, rfl, rfl⟩ rfl rfl rfl rfl rfl lawSortNumbers_name Try.func14 lawSortNumbers_joined
    (of_decide_eq_true (by kernel_rfl)) lawSortNumbers_wrap
    (fun os started H enc _ => lawSortNumbers_lifted os started H enc)
end Go.Proofs.Ytkonibmmdinmbaa
