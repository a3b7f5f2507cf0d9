/-
  For every input that can be read, 'laws.FnExactIsGroup' returns true, and its arguments read afterwards as they read before. Conditions: none.
-/
import Derived.Test.YtaemodpolopcfaaSaid
import Derived.Test.YtaemodpolopcfaaOpenL
import Derived.Test.YtaemodpolopcfaaLawIsGroup
import Derived.Test.YtaemodpolopcfaaFacts
namespace Go.Proofs.Ytaemodpolopcfaa
open Go.ChangeShapes Go.WideShapes Go.ChangeAt Go.RowKit

set_option maxRecDepth 100000 in
theorem lawIsGroup_lifted (os : Os) (started : os.Started) (H : Type) (enc : TypeId × Value → H) :
    ReturnsInHanded {} Try.checked os 11 .any (Rows.fnExactIsGroupSpec.pre6 enc Try.prog Try.f11 Rows.fnExactIsGroupRow.domain false) (Rows.fnExactIsGroupSpec.post enc Try.prog Try.f11 false true false false) := by
  refine returnsInHanded_of_change (C := Try.checked) Try.own started (by kernel_rfl) Try.func11
    (ChangeSpec.witness6 (enc := enc) (C := Try.checked) false ⟨#[], #[.agg #[.int .i64 0, .slice none 0 0], .slice none 0 0], []⟩ 8 (by kernel_rfl) (by kernel_rfl) (by kernel_rfl) (by kernel_rfl)) ?_
  intro W base args ds gs before hval0 hW _ _
  have hval : ∀ (j : Nat) t v, Try.f11.params[j]? = some t → args[j]? = some v → Value.okWide Try.prog W .any base t v := hval0
  have hW' := hW
  obtain ⟨p, q, hA0, hV, rfl, _, _⟩ := hW
  have hA : DataW.TrodAll enc Try.prog W 0 (fun _ => true) true Try.f11.params.toList args.toList ds p := hA0
  rw [Try.params11] at hA hval
  obtain ⟨v0, v1, d0, d1, p0, p1, rfl, rfl, rfl, h0, h1⟩ := trodAll_two hA
  obtain ⟨rfl, rfl⟩ := trodVars_none hV
  obtain ⟨x0, l0, A0, c0, rfl, hl0, hr0⟩ := open_party (hval 0 _ v0 rfl rfl) h0
  obtain ⟨l1, A1, c1, rfl, hl1, hr1⟩ := open_list (hval 1 _ v1 rfl rfl) h1
  refine (lawIsGroup_any x0 l0 A0 c0 l1 A1 c1 W hl0 hr0 hl1 hr1).mono fun e W' ⟨he, hb⟩ => ?_
  subst he
  exact ⟨_, rfl, law_post Try.laidOut (by kernel_rfl) (by kernel_rfl) Try.underlying4 rfl rfl hW' hb⟩

theorem lawIsGroup_types : typeFacts Try.prog Try.f11 Rows.fnExactIsGroupSpec Rows.fnExactIsGroupRow = true := by kernel_rfl
theorem lawIsGroup_wf : Rows.fnExactIsGroupRow.wf (OpenSpec.ofChange Rows.fnExactIsGroupSpec) = true := by kernel_rfl
theorem lawIsGroup_inPlace : (Rows.fnExactIsGroupRow.inPlace == Try.prog.inPlace 11) = true := by kernel_rfl
theorem lawIsGroup_unfollowed : (Rows.fnExactIsGroupRow.unfollowed == Try.prog.unfollowed 11) = true := by kernel_rfl
theorem lawIsGroup_recurses : (Rows.fnExactIsGroupRow.recurses == Try.prog.recurses 11) = true := by kernel_rfl
theorem lawIsGroup_named : (Rows.fnExactIsGroupRow.named == Try.prog.varsNamed 11) = true := by kernel_rfl
theorem lawIsGroup_name : Try.prog.funcNamed Rows.fnExactIsGroupRow.func = some 11 := by kernel_rfl
theorem lawIsGroup_wrap : (Try.f11).isWrapper Try.prog Rows.fnExactIsGroupRow.wrapper Rows.fnExactIsGroupRow.mainSum := by
  unfold Func.isWrapper
  first | (rw [if_pos (by decide +kernel)]; kernel_rfl) | (rw [if_neg (by decide +kernel)]; exact ⟨rfl, rfl⟩)
theorem lawIsGroup_joined : joinedFacts Try.prog 11 Try.f11 Rows.fnExactIsGroupSpec Rows.fnExactIsGroupRow = true :=
  joined_of lawIsGroup_wf lawIsGroup_types lawIsGroup_inPlace lawIsGroup_unfollowed lawIsGroup_recurses lawIsGroup_named rfl rfl rfl

theorem exactIsGroup_holds : Rows.FnExactIsGroupSaid :=
  OpenClaim.holds_of_wide 11 Try.f11 rfl rfl rfl rfl rfl rfl rfl ⟨rfl, rfl, rfl, rfl, rfl⟩ rfl rfl rfl rfl rfl lawIsGroup_name Try.func11 lawIsGroup_joined
    (of_decide_eq_true (by kernel_rfl)) lawIsGroup_wrap
    (fun os started H enc _ => lawIsGroup_lifted os started H enc)
end Go.Proofs.Ytaemodpolopcfaa
