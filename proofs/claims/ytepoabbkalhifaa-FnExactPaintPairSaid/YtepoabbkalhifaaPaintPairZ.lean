/-
  For every input that can be read, 'laws.FnExactPaintPair' returns true, and its arguments read afterwards as they read before. Conditions: none.
-/
import Derived.Test.YtepoabbkalhifaaPaintPairP1
import Derived.Test.YtepoabbkalhifaaPaintPairP5
namespace Go.Proofs.Ytepoabbkalhifaa
open Go.ChangeShapes Go.WideShapes Go.ChangeAt Go.RowKit

set_option maxRecDepth 100000 in
theorem lawPaintPair_lifted (os : Os) (started : os.Started) (H : Type) (enc : TypeId × Value → H) :
    ReturnsInHanded {} Try.checked os 5 .any (Rows.fnExactPaintPairSpec.pre6 enc Try.prog Try.f5 Rows.fnExactPaintPairRow.domain false) (Rows.fnExactPaintPairSpec.post enc Try.prog Try.f5 false true false false) := by
  refine returnsInHanded_of_change (C := Try.checked) Try.own started (by kernel_rfl) Try.func5
    (ChangeSpec.witness6 (enc := enc) (C := Try.checked) false ⟨#[], #[.agg #[.int .i64 0, .int .i64 0, .slice none 0 0], .int .i64 0, .int .i64 0, .int .i64 0], []⟩ 8 (by kernel_rfl) (by kernel_rfl) (by kernel_rfl) (by kernel_rfl)) ?_
  intro W base args ds gs before hval0 hW _ _
  have hval : ∀ (j : Nat) t v, Try.f5.params[j]? = some t → args[j]? = some v → Value.okWide Try.prog W .any base t v := hval0
  have hW' := hW
  obtain ⟨p, q, hA0, hV, rfl, _, _⟩ := hW
  have hA : DataW.TrodAll enc Try.prog W 0 (fun _ => true) true Try.f5.params.toList args.toList ds p := hA0
  rw [Try.params5] at hA hval
  obtain ⟨v0, v1, v2, v3, d0, d1, d2, d3, p0, p1, p2, p3, rfl, rfl, rfl, h0, h1, h2, h3⟩ := trodAll_four hA
  obtain ⟨rfl, rfl⟩ := trodVars_none hV
  obtain ⟨x0, k0, l0, A0, c0, rfl, hl0, hr0⟩ := open_painting (hval 0 _ v0 rfl rfl) h0
  obtain ⟨x1, rfl, _, _, wf1⟩ := open_int Try.underlying3 (hval 1 _ v1 rfl rfl) h1
  obtain ⟨x2, rfl, _, _, wf2⟩ := open_int Try.underlying3 (hval 2 _ v2 rfl rfl) h2
  obtain ⟨x3, rfl, _, _, wf3⟩ := open_int Try.underlying3 (hval 3 _ v3 rfl rfl) h3
  refine (lawPaintPair_any x0 k0 l0 A0 c0 x1 x2 x3 W hl0 hr0).mono fun e W' ⟨he, hb⟩ => ?_
  subst he
  exact ⟨_, rfl, law_post Try.laidOut (by kernel_rfl) (by kernel_rfl) Try.underlying4 rfl rfl hW' hb⟩

theorem lawPaintPair_types : typeFacts Try.prog Try.f5 Rows.fnExactPaintPairSpec Rows.fnExactPaintPairRow = true := by kernel_rfl
theorem lawPaintPair_wf : Rows.fnExactPaintPairRow.wf (OpenSpec.ofChange Rows.fnExactPaintPairSpec) = true := by kernel_rfl
theorem lawPaintPair_inPlace : (Rows.fnExactPaintPairRow.inPlace == Try.prog.inPlace 5) = true := by kernel_rfl
theorem lawPaintPair_unfollowed : (Rows.fnExactPaintPairRow.unfollowed == Try.prog.unfollowed 5) = true := by kernel_rfl
theorem lawPaintPair_recurses : (Rows.fnExactPaintPairRow.recurses == Try.prog.recurses 5) = true := by kernel_rfl
theorem lawPaintPair_named : (Rows.fnExactPaintPairRow.named == Try.prog.varsNamed 5) = true := by kernel_rfl
theorem lawPaintPair_name : Try.prog.funcNamed Rows.fnExactPaintPairRow.func = some 5 := by kernel_rfl
theorem lawPaintPair_wrap : (Try.f5).isWrapper Try.prog Rows.fnExactPaintPairRow.wrapper Rows.fnExactPaintPairRow.mainSum := by
  unfold Func.isWrapper
  first | (rw [if_pos (by decide +kernel)]; kernel_rfl) | (rw [if_neg (by decide +kernel)]; exact ⟨rfl, rfl⟩)
theorem lawPaintPair_joined : joinedFacts Try.prog 5 Try.f5 Rows.fnExactPaintPairSpec Rows.fnExactPaintPairRow = true :=
  joined_of lawPaintPair_wf lawPaintPair_types lawPaintPair_inPlace lawPaintPair_unfollowed lawPaintPair_recurses lawPaintPair_named rfl rfl rfl

theorem exactPaintPair_holds : Rows.FnExactPaintPairSaid :=
  OpenClaim.holds_of_wide 5 Try.f5 rfl rfl rfl rfl rfl rfl rfl ⟨rfl, rfl, rfl, rfl, rfl⟩ rfl rfl rfl rfl rfl lawPaintPair_name Try.func5 lawPaintPair_joined
    (of_decide_eq_true (by kernel_rfl)) lawPaintPair_wrap
    (fun os started H enc _ => lawPaintPair_lifted os started H enc)
end Go.Proofs.Ytepoabbkalhifaa
