/-
  For every input that can be read, 'laws.FnExactAreCouples' returns true, and its arguments read afterwards as they read before. Conditions: none.
-/
import Derived.Test.YtgkedgfbncljbaaAreCouplesP1
import Derived.Test.YtgkedgfbncljbaaAreCouplesP3
namespace Go.Proofs.Ytgkedgfbncljbaa
open Go.ChangeShapes Go.WideShapes Go.ChangeAt Go.RowKit

set_option maxRecDepth 100000 in
theorem lawAreCouples_lifted (os : Os) (started : os.Started) (H : Type) (enc : TypeId × Value → H) :
    ReturnsInHanded {} Try.checked os 4 .any (Rows.fnExactAreCouplesSpec.pre6 enc Try.prog Try.f4 Rows.fnExactAreCouplesRow.domain false) (Rows.fnExactAreCouplesSpec.post enc Try.prog Try.f4 false true false false) := by
  refine returnsInHanded_of_change (C := Try.checked) Try.own started (by kernel_rfl) Try.func4
    (ChangeSpec.witness6 (enc := enc) (C := Try.checked) false ⟨#[], #[.agg #[.int .i64 0, .slice none 0 0]], []⟩ 8 (by kernel_rfl) (by kernel_rfl) (by kernel_rfl) (by kernel_rfl)) ?_
  intro W base args ds gs before hval0 hW _ _
  have hval : ∀ (j : Nat) t v, Try.f4.params[j]? = some t → args[j]? = some v → Value.okWide Try.prog W .any base t v := hval0
  have hW' := hW
  obtain ⟨p, q, hA0, hV, rfl, _, _⟩ := hW
  have hA : DataW.TrodAll enc Try.prog W 0 (fun _ => true) true Try.f4.params.toList args.toList ds p := hA0
  rw [Try.params4] at hA hval
  obtain ⟨v0, d0, rfl, rfl, h0⟩ := trodAll_one hA
  obtain ⟨rfl, rfl⟩ := trodVars_none hV
  obtain ⟨x0, l0, A0, c0, rfl, hl0, hr0⟩ := open_party (hval 0 _ v0 rfl rfl) h0
  refine (lawAreCouples_any x0 l0 A0 c0 W hl0 hr0).mono fun e W' ⟨he, hb⟩ => ?_
  subst he
  exact ⟨_, rfl, law_post Try.laidOut (by kernel_rfl) (by kernel_rfl) Try.underlying4 rfl rfl hW' hb⟩

theorem lawAreCouples_types : typeFacts Try.prog Try.f4 Rows.fnExactAreCouplesSpec Rows.fnExactAreCouplesRow = true := by kernel_rfl
theorem lawAreCouples_wf : Rows.fnExactAreCouplesRow.wf (OpenSpec.ofChange Rows.fnExactAreCouplesSpec) = true := by kernel_rfl
theorem lawAreCouples_inPlace : (Rows.fnExactAreCouplesRow.inPlace == Try.prog.inPlace 4) = true := by kernel_rfl
theorem lawAreCouples_unfollowed : (Rows.fnExactAreCouplesRow.unfollowed == Try.prog.unfollowed 4) = true := by kernel_rfl
theorem lawAreCouples_recurses : (Rows.fnExactAreCouplesRow.recurses == Try.prog.recurses 4) = true := by kernel_rfl
theorem lawAreCouples_named : (Rows.fnExactAreCouplesRow.named == Try.prog.varsNamed 4) = true := by kernel_rfl
theorem lawAreCouples_name : Try.prog.funcNamed Rows.fnExactAreCouplesRow.func = some 4 := by kernel_rfl
theorem lawAreCouples_wrap : (Try.f4).isWrapper Try.prog Rows.fnExactAreCouplesRow.wrapper Rows.fnExactAreCouplesRow.mainSum := by
  unfold Func.isWrapper
  first | (rw [if_pos (by decide +kernel)]; kernel_rfl) | (rw [if_neg (by decide +kernel)]; exact ⟨rfl, rfl⟩)
theorem lawAreCouples_joined : joinedFacts Try.prog 4 Try.f4 Rows.fnExactAreCouplesSpec Rows.fnExactAreCouplesRow = true :=
  joined_of lawAreCouples_wf lawAreCouples_types lawAreCouples_inPlace lawAreCouples_unfollowed lawAreCouples_recurses lawAreCouples_named rfl rfl rfl

theorem exactAreCouples_holds : Rows.FnExactAreCouplesSaid :=
  OpenClaim.holds_of_wide_leaving 4 Try.f4 rfl rfl rfl rfl rfl rfl rfl ⟨rfl, rfl, rfl, rfl, rfl⟩ rfl rfl rfl rfl rfl lawAreCouples_name Try.func4 lawAreCouples_joined
    (of_decide_eq_true (by kernel_rfl)) lawAreCouples_wrap
    (fun os started H enc _ => leaving_of_handed (lawAreCouples_lifted os started H enc))
end Go.Proofs.Ytgkedgfbncljbaa
