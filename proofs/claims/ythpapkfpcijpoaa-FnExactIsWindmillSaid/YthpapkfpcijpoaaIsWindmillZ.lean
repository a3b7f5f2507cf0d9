/-
  For every input that can be read, 'laws.FnExactIsWindmill' returns true, and its arguments read afterwards as they read before. Conditions: none.
-/
import Derived.Test.YthpapkfpcijpoaaIsWindmillP1
import Derived.Test.YthpapkfpcijpoaaIsWindmillP5
namespace Go.Proofs.Ythpapkfpcijpoaa
open Go.ChangeShapes Go.WideShapes Go.ChangeAt Go.RowKit

set_option maxRecDepth 100000 in
theorem lawIsWindmill_lifted (os : Os) (started : os.Started) (H : Type) (enc : TypeId × Value → H) :
    ReturnsInHanded {} Try.checked os 6 .any (Rows.fnExactIsWindmillSpec.pre6 enc Try.prog Try.f6 Rows.fnExactIsWindmillRow.domain false) (Rows.fnExactIsWindmillSpec.post enc Try.prog Try.f6 false true false false) := by
  refine returnsInHanded_of_change (C := Try.checked) Try.own started (by kernel_rfl) Try.func6
    (ChangeSpec.witness6 (enc := enc) (C := Try.checked) false ⟨#[], #[.agg #[.int .i64 0, .slice none 0 0]], []⟩ 8 (by kernel_rfl) (by kernel_rfl) (by kernel_rfl) (by kernel_rfl)) ?_
  intro W base args ds gs before hval0 hW _ _
  have hval : ∀ (j : Nat) t v, Try.f6.params[j]? = some t → args[j]? = some v → Value.okWide Try.prog W .any base t v := hval0
  have hW' := hW
  obtain ⟨p, q, hA0, hV, rfl, _, _⟩ := hW
  have hA : DataW.TrodAll enc Try.prog W 0 (fun _ => true) true Try.f6.params.toList args.toList ds p := hA0
  rw [Try.params6] at hA hval
  obtain ⟨v0, d0, rfl, rfl, h0⟩ := trodAll_one hA
  obtain ⟨rfl, rfl⟩ := trodVars_none hV
  obtain ⟨x0, l0, A0, c0, rfl, hl0, hr0⟩ := open_party (hval 0 _ v0 rfl rfl) h0
  refine (lawIsWindmill_any x0 l0 A0 c0 W hl0 hr0).mono fun e W' ⟨he, hb⟩ => ?_
  subst he
  exact ⟨_, rfl, law_post Try.laidOut (by kernel_rfl) (by kernel_rfl) Try.underlying4 rfl rfl hW' hb⟩

theorem lawIsWindmill_types : typeFacts Try.prog Try.f6 Rows.fnExactIsWindmillSpec Rows.fnExactIsWindmillRow = true := by kernel_rfl
theorem lawIsWindmill_wf : Rows.fnExactIsWindmillRow.wf (OpenSpec.ofChange Rows.fnExactIsWindmillSpec) = true := by kernel_rfl
theorem lawIsWindmill_inPlace : (Rows.fnExactIsWindmillRow.inPlace == Try.prog.inPlace 6) = true := by kernel_rfl
theorem lawIsWindmill_unfollowed : (Rows.fnExactIsWindmillRow.unfollowed == Try.prog.unfollowed 6) = true := by kernel_rfl
theorem lawIsWindmill_recurses : (Rows.fnExactIsWindmillRow.recurses == Try.prog.recurses 6) = true := by kernel_rfl
theorem lawIsWindmill_named : (Rows.fnExactIsWindmillRow.named == Try.prog.varsNamed 6) = true := by kernel_rfl
theorem lawIsWindmill_name : Try.prog.funcNamed Rows.fnExactIsWindmillRow.func = some 6 := by kernel_rfl
theorem lawIsWindmill_wrap : (Try.f6).isWrapper Try.prog Rows.fnExactIsWindmillRow.wrapper Rows.fnExactIsWindmillRow.mainSum := by
  unfold Func.isWrapper
  first | (rw [if_pos (by decide +kernel)]; kernel_rfl) | (rw [if_neg (by decide +kernel)]; exact ⟨rfl, rfl⟩)
theorem lawIsWindmill_joined : joinedFacts Try.prog 6 Try.f6 Rows.fnExactIsWindmillSpec Rows.fnExactIsWindmillRow = true :=
  joined_of lawIsWindmill_wf lawIsWindmill_types lawIsWindmill_inPlace lawIsWindmill_unfollowed lawIsWindmill_recurses lawIsWindmill_named rfl rfl rfl

theorem exactIsWindmill_holds : Rows.FnExactIsWindmillSaid :=
  OpenClaim.holds_of_wide 6 Try.f6 rfl rfl rfl rfl rfl rfl rfl ⟨rfl, rfl, rfl, rfl, rfl⟩ rfl rfl rfl rfl rfl lawIsWindmill_name Try.func6 lawIsWindmill_joined
    (of_decide_eq_true (by kernel_rfl)) lawIsWindmill_wrap
    (fun os started H enc _ => lawIsWindmill_lifted os started H enc)
end Go.Proofs.Ythpapkfpcijpoaa
