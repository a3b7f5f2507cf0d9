/-
  For every input that can be read, 'laws.FnExactExchangeColours' returns true, and its arguments read afterwards as they read before. Conditions: none.
-/
import Derived.Test.YtepoabbkalhifaaExchangeColoursP1
import Derived.Test.YtepoabbkalhifaaExchangeColoursP4
namespace Go.Proofs.Ytepoabbkalhifaa
open Go.ChangeShapes Go.WideShapes Go.ChangeAt Go.RowKit

set_option maxRecDepth 100000 in
theorem lawExchangeColours_lifted (os : Os) (started : os.Started) (H : Type) (enc : TypeId × Value → H) :
    ReturnsInHanded {} Try.checked os 14 .any (Rows.fnExactExchangeColoursSpec.pre6 enc Try.prog Try.f14 Rows.fnExactExchangeColoursRow.domain false) (Rows.fnExactExchangeColoursSpec.post enc Try.prog Try.f14 false true false false) := by
  refine returnsInHanded_of_change (C := Try.checked) Try.own started (by kernel_rfl) Try.func14
    (ChangeSpec.witness6 (enc := enc) (C := Try.checked) false ⟨#[], #[.agg #[.int .i64 0, .int .i64 0, .slice none 0 0], .int .i64 0, .int .i64 0], []⟩ 8 (by kernel_rfl) (by kernel_rfl) (by kernel_rfl) (by kernel_rfl)) ?_
  intro W base args ds gs before hval0 hW _ _
  have hval : ∀ (j : Nat) t v, Try.f14.params[j]? = some t → args[j]? = some v → Value.okWide Try.prog W .any base t v := hval0
  have hW' := hW
  obtain ⟨p, q, hA0, hV, rfl, _, _⟩ := hW
  have hA : DataW.TrodAll enc Try.prog W 0 (fun _ => true) true Try.f14.params.toList args.toList ds p := hA0
  rw [Try.params14] at hA hval
  obtain ⟨v0, v1, v2, d0, d1, d2, p0, p1, p2, rfl, rfl, rfl, h0, h1, h2⟩ := trodAll_three hA
  obtain ⟨rfl, rfl⟩ := trodVars_none hV
  obtain ⟨x0, k0, l0, A0, c0, rfl, hl0, hr0⟩ := open_painting (hval 0 _ v0 rfl rfl) h0
  obtain ⟨x1, rfl, _, _, wf1⟩ := open_int Try.underlying3 (hval 1 _ v1 rfl rfl) h1
  obtain ⟨x2, rfl, _, _, wf2⟩ := open_int Try.underlying3 (hval 2 _ v2 rfl rfl) h2
  refine (lawExchangeColours_any x0 k0 l0 A0 c0 x1 x2 W hl0 hr0).mono fun e W' ⟨he, hb⟩ => ?_
  subst he
  exact ⟨_, rfl, law_post Try.laidOut (by kernel_rfl) (by kernel_rfl) Try.underlying4 rfl rfl hW' hb⟩

theorem lawExchangeColours_types : typeFacts Try.prog Try.f14 Rows.fnExactExchangeColoursSpec Rows.fnExactExchangeColoursRow = true := by kernel_rfl
theorem lawExchangeColours_wf : Rows.fnExactExchangeColoursRow.wf (OpenSpec.ofChange Rows.fnExactExchangeColoursSpec) = true := by kernel_rfl
theorem lawExchangeColours_inPlace : (Rows.fnExactExchangeColoursRow.inPlace == Try.prog.inPlace 14) = true := by kernel_rfl
theorem lawExchangeColours_unfollowed : (Rows.fnExactExchangeColoursRow.unfollowed == Try.prog.unfollowed 14) = true := by kernel_rfl
theorem lawExchangeColours_recurses : (Rows.fnExactExchangeColoursRow.recurses == Try.prog.recurses 14) = true := by kernel_rfl
theorem lawExchangeColours_named : (Rows.fnExactExchangeColoursRow.named == Try.prog.varsNamed 14) = true := by kernel_rfl
theorem lawExchangeColours_name : Try.prog.funcNamed Rows.fnExactExchangeColoursRow.func = some 14 := by kernel_rfl
theorem lawExchangeColours_wrap : (Try.f14).isWrapper Try.prog Rows.fnExactExchangeColoursRow.wrapper Rows.fnExactExchangeColoursRow.mainSum := by
  unfold Func.isWrapper
  first | (rw [if_pos (by decide +kernel)]; kernel_rfl) | (rw [if_neg (by decide +kernel)]; exact ⟨rfl, rfl⟩)
theorem lawExchangeColours_joined : joinedFacts Try.prog 14 Try.f14 Rows.fnExactExchangeColoursSpec Rows.fnExactExchangeColoursRow = true :=
  joined_of lawExchangeColours_wf lawExchangeColours_types lawExchangeColours_inPlace lawExchangeColours_unfollowed lawExchangeColours_recurses lawExchangeColours_named rfl rfl rfl

theorem exactExchangeColours_holds : Rows.FnExactExchangeColoursSaid :=
  OpenClaim.holds_of_wide 14 Try.f14 rfl rfl rfl rfl rfl rfl rfl ⟨rfl, rfl, rfl, rfl, rfl⟩ rfl rfl rfl rfl rfl lawExchangeColours_name Try.func14 lawExchangeColours_joined
    (of_decide_eq_true (by kernel_rfl)) lawExchangeColours_wrap
    (fun os started H enc _ => lawExchangeColours_lifted os started H enc)
end Go.Proofs.Ytepoabbkalhifaa
