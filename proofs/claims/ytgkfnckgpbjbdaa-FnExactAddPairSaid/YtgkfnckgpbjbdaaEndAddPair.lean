/-
  For every input that can be read, 'laws.FnExactAddPair' returns true, and its arguments read afterwards as they read before. Conditions: none.
-/
import Derived.Test.YtgkfnckgpbjbdaaLawAddPair
import Derived.Test.YtgkfnckgpbjbdaaFacts
namespace Go.Proofs.Ytgkfnckgpbjbdaa
open Go.ChangeShapes Go.WideShapes Go.ChangeAt Go.RowKit

set_option maxRecDepth 100000 in
theorem lawAddPair_lifted (os : Os) (started : os.Started) (H : Type) (enc : TypeId × Value → H) :
    ReturnsInHanded {} Try.checked os 9 .any (Rows.fnExactAddPairSpec.pre6 enc Try.prog Try.f9 Rows.fnExactAddPairRow.domain false) (Rows.fnExactAddPairSpec.post enc Try.prog Try.f9 false true false false) := by
  refine returnsInHanded_of_change (C := Try.checked) Try.own started (by kernel_rfl) Try.func9
    (ChangeSpec.witness6 (enc := enc) (C := Try.checked) false ⟨#[], #[.agg #[.int .i64 0, .slice none 0 0], .int .i64 0, .int .i64 0], []⟩ 8 (by kernel_rfl) (by kernel_rfl) (by kernel_rfl) (by kernel_rfl)) ?_
  intro W base args ds gs before hval0 hW _ _
  have hval : ∀ (j : Nat) t v, Try.f9.params[j]? = some t → args[j]? = some v → Value.okWide Try.prog W .any base t v := hval0
  have hW' := hW
  obtain ⟨p, q, hA0, hV, rfl, _, _⟩ := hW
  have hA : DataW.TrodAll enc Try.prog W 0 (fun _ => true) true Try.f9.params.toList args.toList ds p := hA0
  rw [Try.params9] at hA hval
  obtain ⟨v0, v1, v2, d0, d1, d2, p0, p1, p2, rfl, rfl, rfl, h0, h1, h2⟩ := trodAll_three hA
  obtain ⟨rfl, rfl⟩ := trodVars_none hV
  obtain ⟨x0, l0, A0, c0, rfl, hl0, hr0⟩ := open_party (hval 0 _ v0 rfl rfl) h0
  obtain ⟨x1, rfl, _, _, wf1⟩ := open_int Try.underlying3 (hval 1 _ v1 rfl rfl) h1
  obtain ⟨x2, rfl, _, _, wf2⟩ := open_int Try.underlying3 (hval 2 _ v2 rfl rfl) h2
  refine (lawAddPair_any x0 l0 A0 c0 x1 x2 W hl0 hr0).mono fun e W' ⟨he, hb⟩ => ?_
  subst he
  exact ⟨_, rfl, law_post Try.laidOut (by kernel_rfl) (by kernel_rfl) Try.underlying4 rfl rfl hW' hb⟩

theorem lawAddPair_types : typeFacts Try.prog Try.f9 Rows.fnExactAddPairSpec Rows.fnExactAddPairRow = true := by kernel_rfl
theorem lawAddPair_wf : Rows.fnExactAddPairRow.wf (OpenSpec.ofChange Rows.fnExactAddPairSpec) = true := by kernel_rfl
theorem lawAddPair_inPlace : (Rows.fnExactAddPairRow.inPlace == Try.prog.inPlace 9) = true := by kernel_rfl
theorem lawAddPair_unfollowed : (Rows.fnExactAddPairRow.unfollowed == Try.prog.unfollowed 9) = true := by kernel_rfl
theorem lawAddPair_recurses : (Rows.fnExactAddPairRow.recurses == Try.prog.recurses 9) = true := by kernel_rfl
theorem lawAddPair_named : (Rows.fnExactAddPairRow.named == Try.prog.varsNamed 9) = true := by kernel_rfl
theorem lawAddPair_name : Try.prog.funcNamed Rows.fnExactAddPairRow.func = some 9 := by kernel_rfl
theorem lawAddPair_wrap : (Try.f9).isWrapper Try.prog Rows.fnExactAddPairRow.wrapper Rows.fnExactAddPairRow.mainSum := by
  unfold Func.isWrapper
  first | (rw [if_pos (by decide +kernel)]; kernel_rfl) | (rw [if_neg (by decide +kernel)]; exact ⟨rfl, rfl⟩)
theorem lawAddPair_joined : joinedFacts Try.prog 9 Try.f9 Rows.fnExactAddPairSpec Rows.fnExactAddPairRow = true :=
  joined_of lawAddPair_wf lawAddPair_types lawAddPair_inPlace lawAddPair_unfollowed lawAddPair_recurses lawAddPair_named rfl rfl rfl

theorem exactAddPair_holds : Rows.FnExactAddPairSaid :=
  OpenClaim.holds_of_wide 9 Try.f9 rfl rfl rfl rfl rfl rfl rfl ⟨rfl, rfl, rfl, rfl, rfl⟩ rfl rfl rfl rfl rfl lawAddPair_name Try.func9 lawAddPair_joined
    (of_decide_eq_true (by kernel_rfl)) lawAddPair_wrap
    (fun os started H enc _ => lawAddPair_lifted os started H enc)
end Go.Proofs.Ytgkfnckgpbjbdaa
