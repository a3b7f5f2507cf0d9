/-
  For every input that can be read, 'laws.FnExactDropPair' returns true, and its arguments read afterwards as they read before. Conditions: none.
-/
import Derived.Test.YtgkfnckgpbjbdaaLawDropPair
import Derived.Test.YtgkfnckgpbjbdaaFacts
namespace Go.Proofs.Ytgkfnckgpbjbdaa
open Go.ChangeShapes Go.WideShapes Go.ChangeAt Go.RowKit

set_option maxRecDepth 100000 in
theorem lawDropPair_lifted (os : Os) (started : os.Started) (H : Type) (enc : TypeId × Value → H) :
    ReturnsInHanded {} Try.checked os 10 .any (Rows.fnExactDropPairSpec.pre6 enc Try.prog Try.f10 Rows.fnExactDropPairRow.domain false) (Rows.fnExactDropPairSpec.post enc Try.prog Try.f10 false true false false) := by
  refine returnsInHanded_of_change (C := Try.checked) Try.own started (by kernel_rfl) Try.func10
    (ChangeSpec.witness6 (enc := enc) (C := Try.checked) false ⟨#[], #[.agg #[.int .i64 0, .slice none 0 0], .int .i64 0, .int .i64 0], []⟩ 8 (by kernel_rfl) (by kernel_rfl) (by kernel_rfl) (by kernel_rfl)) ?_
  intro W base args ds gs before hval0 hW _ _
  have hval : ∀ (j : Nat) t v, Try.f10.params[j]? = some t → args[j]? = some v → Value.okWide Try.prog W .any base t v := hval0
  have hW' := hW
  obtain ⟨p, q, hA0, hV, rfl, _, _⟩ := hW
  have hA : DataW.TrodAll enc Try.prog W 0 (fun _ => true) true Try.f10.params.toList args.toList ds p := hA0
  rw [Try.params10] at hA hval
  obtain ⟨v0, v1, v2, d0, d1, d2, p0, p1, p2, rfl, rfl, rfl, h0, h1, h2⟩ := trodAll_three hA
  obtain ⟨rfl, rfl⟩ := trodVars_none hV
  obtain ⟨x0, l0, A0, c0, rfl, hl0, hr0⟩ := open_party (hval 0 _ v0 rfl rfl) h0
  obtain ⟨x1, rfl, _, _, wf1⟩ := open_int Try.underlying3 (hval 1 _ v1 rfl rfl) h1
  obtain ⟨x2, rfl, _, _, wf2⟩ := open_int Try.underlying3 (hval 2 _ v2 rfl rfl) h2
  refine (lawDropPair_any x0 l0 A0 c0 x1 x2 W hl0 hr0).mono fun e W' ⟨he, hb⟩ => ?_
  subst he
  exact ⟨_, rfl, law_post Try.laidOut (by kernel_rfl) (by kernel_rfl) Try.underlying4 rfl rfl hW' hb⟩

theorem lawDropPair_types : typeFacts Try.prog Try.f10 Rows.fnExactDropPairSpec Rows.fnExactDropPairRow = true := by kernel_rfl
theorem lawDropPair_wf : Rows.fnExactDropPairRow.wf (OpenSpec.ofChange Rows.fnExactDropPairSpec) = true := by kernel_rfl
theorem lawDropPair_inPlace : (Rows.fnExactDropPairRow.inPlace == Try.prog.inPlace 10) = true := by kernel_rfl
theorem lawDropPair_unfollowed : (Rows.fnExactDropPairRow.unfollowed == Try.prog.unfollowed 10) = true := by kernel_rfl
theorem lawDropPair_recurses : (Rows.fnExactDropPairRow.recurses == Try.prog.recurses 10) = true := by kernel_rfl
theorem lawDropPair_named : (Rows.fnExactDropPairRow.named == Try.prog.varsNamed 10) = true := by kernel_rfl
theorem lawDropPair_name : Try.prog.funcNamed Rows.fnExactDropPairRow.func = some 10 := by kernel_rfl
theorem lawDropPair_wrap : (Try.f10).isWrapper Try.prog Rows.fnExactDropPairRow.wrapper Rows.fnExactDropPairRow.mainSum := by
  unfold Func.isWrapper
  first | (rw [if_pos (by decide +kernel)]; kernel_rfl) | (rw [if_neg (by decide +kernel)]; exact ⟨rfl, rfl⟩)
theorem lawDropPair_joined : joinedFacts Try.prog 10 Try.f10 Rows.fnExactDropPairSpec Rows.fnExactDropPairRow = true :=
  joined_of lawDropPair_wf lawDropPair_types lawDropPair_inPlace lawDropPair_unfollowed lawDropPair_recurses lawDropPair_named rfl rfl rfl

theorem exactDropPair_holds : Rows.FnExactDropPairSaid :=
  OpenClaim.holds_of_wide 10 Try.f10 rfl rfl rfl rfl rfl rfl rfl ⟨rfl, rfl, rfl, rfl, rfl⟩ rfl rfl rfl rfl rfl lawDropPair_name Try.func10 lawDropPair_joined
    (of_decide_eq_true (by kernel_rfl)) lawDropPair_wrap
    (fun os started H enc _ => lawDropPair_lifted os started H enc)
end Go.Proofs.Ytgkfnckgpbjbdaa
