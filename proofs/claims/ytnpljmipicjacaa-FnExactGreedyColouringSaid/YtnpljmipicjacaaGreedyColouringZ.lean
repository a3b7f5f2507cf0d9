/-
  For every input that can be read, 'laws.FnExactGreedyColouring' returns true, and its arguments read afterwards as they read before. Conditions: none.
-/
import Derived.Test.YtnpljmipicjacaaGreedyColouringP1
import Derived.Test.YtnpljmipicjacaaGreedyColouringP5
namespace Go.Proofs.Ytnpljmipicjacaa
open Go.ChangeShapes Go.WideShapes Go.ChangeAt Go.RowKit

set_option maxRecDepth 100000 in
theorem lawGreedyColouring_lifted (os : Os) (started : os.Started) (H : Type) (enc : TypeId × Value → H) :
    ReturnsInHanded {} Try.checked os 4 .any (Rows.fnExactGreedyColouringSpec.pre6 enc Try.prog Try.f4 Rows.fnExactGreedyColouringRow.domain false) (Rows.fnExactGreedyColouringSpec.post enc Try.prog Try.f4 false true false false) := by
  refine returnsInHanded_of_change (C := Try.checked) Try.own started (by kernel_rfl) Try.func4
    (ChangeSpec.witness6 (enc := enc) (C := Try.checked) false ⟨#[], #[.agg #[.int .i64 0, .slice none 0 0], .slice none 0 0], []⟩ 8 (by kernel_rfl) (by kernel_rfl) (by kernel_rfl) (by kernel_rfl)) ?_
  intro W base args ds gs before hval0 hW _ _
  have hval : ∀ (j : Nat) t v, Try.f4.params[j]? = some t → args[j]? = some v → Value.okWide Try.prog W .any base t v := hval0
  have hW' := hW
  obtain ⟨p, q, hA0, hV, rfl, _, _⟩ := hW
  have hA : DataW.TrodAll enc Try.prog W 0 (fun _ => true) true Try.f4.params.toList args.toList ds p := hA0
  rw [Try.params4] at hA hval
  obtain ⟨v0, v1, d0, d1, p0, p1, rfl, rfl, rfl, h0, h1⟩ := trodAll_two hA
  obtain ⟨rfl, rfl⟩ := trodVars_none hV
  obtain ⟨x0, l0, A0, c0, rfl, hl0, hr0⟩ := open_party (hval 0 _ v0 rfl rfl) h0
  obtain ⟨l1, A1, c1, rfl, hl1, hr1⟩ := open_list (hval 1 _ v1 rfl rfl) h1
  refine (lawGreedyColouring_any x0 l0 A0 c0 l1 A1 c1 W hl0 hr0 hl1 hr1).mono fun e W' ⟨he, hb⟩ => ?_
  subst he
  exact ⟨_, rfl, law_post Try.laidOut (by kernel_rfl) (by kernel_rfl) Try.underlying4 rfl rfl hW' hb⟩

theorem lawGreedyColouring_types : typeFacts Try.prog Try.f4 Rows.fnExactGreedyColouringSpec Rows.fnExactGreedyColouringRow = true := by kernel_rfl
theorem lawGreedyColouring_wf : Rows.fnExactGreedyColouringRow.wf (OpenSpec.ofChange Rows.fnExactGreedyColouringSpec) = true := by kernel_rfl
theorem lawGreedyColouring_inPlace : (Rows.fnExactGreedyColouringRow.inPlace == Try.prog.inPlace 4) = true := by kernel_rfl
theorem lawGreedyColouring_unfollowed : (Rows.fnExactGreedyColouringRow.unfollowed == Try.prog.unfollowed 4) = true := by kernel_rfl
theorem lawGreedyColouring_recurses : (Rows.fnExactGreedyColouringRow.recurses == Try.prog.recurses 4) = true := by kernel_rfl
theorem lawGreedyColouring_named : (Rows.fnExactGreedyColouringRow.named == Try.prog.varsNamed 4) = true := by kernel_rfl
theorem lawGreedyColouring_name : Try.prog.funcNamed Rows.fnExactGreedyColouringRow.func = some 4 := by kernel_rfl
theorem lawGreedyColouring_wrap : (Try.f4).isWrapper Try.prog Rows.fnExactGreedyColouringRow.wrapper Rows.fnExactGreedyColouringRow.mainSum := by
  unfold Func.isWrapper
  first | (rw [if_pos (by decide +kernel)]; kernel_rfl) | (rw [if_neg (by decide +kernel)]; exact ⟨rfl, rfl⟩)
theorem lawGreedyColouring_joined : joinedFacts Try.prog 4 Try.f4 Rows.fnExactGreedyColouringSpec Rows.fnExactGreedyColouringRow = true :=
  joined_of lawGreedyColouring_wf lawGreedyColouring_types lawGreedyColouring_inPlace lawGreedyColouring_unfollowed lawGreedyColouring_recurses lawGreedyColouring_named rfl rfl rfl

theorem exactGreedyColouring_holds : Rows.FnExactGreedyColouringSaid :=
  OpenClaim.holds_of_wide 4 Try.f4 rfl rfl rfl rfl rfl rfl rfl ⟨rfl, rfl, rfl, rfl, rfl⟩ rfl rfl rfl rfl rfl lawGreedyColouring_name Try.func4 lawGreedyColouring_joined
    (of_decide_eq_true (by kernel_rfl)) lawGreedyColouring_wrap
    (fun os started H enc _ => lawGreedyColouring_lifted os started H enc)
end Go.Proofs.Ytnpljmipicjacaa
