/-
  For every input that can be read, 'laws.FnExactIsColouring' returns true, and its arguments read afterwards as they read before. Conditions: none.
-/
import Derived.Test.YtnpljmipicjacaaIsColouringP1
import Derived.Test.YtnpljmipicjacaaIsColouringP3
namespace Go.Proofs.Ytnpljmipicjacaa
open Go.ChangeShapes Go.WideShapes Go.ChangeAt Go.RowKit

set_option maxRecDepth 100000 in
theorem lawIsColouring_lifted (os : Os) (started : os.Started) (H : Type) (enc : TypeId × Value → H) :
    ReturnsInHanded {} Try.checked os 3 .any (Rows.fnExactIsColouringSpec.pre6 enc Try.prog Try.f3 Rows.fnExactIsColouringRow.domain false) (Rows.fnExactIsColouringSpec.post enc Try.prog Try.f3 false true false false) := by
  refine returnsInHanded_of_change (C := Try.checked) Try.own started (by kernel_rfl) Try.func3
    (ChangeSpec.witness6 (enc := enc) (C := Try.checked) false ⟨#[], #[.agg #[.int .i64 0, .slice none 0 0], .slice none 0 0], []⟩ 8 (by kernel_rfl) (by kernel_rfl) (by kernel_rfl) (by kernel_rfl)) ?_
  intro W base args ds gs before hval0 hW _ _
  have hval : ∀ (j : Nat) t v, Try.f3.params[j]? = some t → args[j]? = some v → Value.okWide Try.prog W .any base t v := hval0
  have hW' := hW
  obtain ⟨p, q, hA0, hV, rfl, _, _⟩ := hW
  have hA : DataW.TrodAll enc Try.prog W 0 (fun _ => true) true Try.f3.params.toList args.toList ds p := hA0
  rw [Try.params3] at hA hval
  obtain ⟨v0, v1, d0, d1, p0, p1, rfl, rfl, rfl, h0, h1⟩ := trodAll_two hA
  obtain ⟨rfl, rfl⟩ := trodVars_none hV
  obtain ⟨x0, l0, A0, c0, rfl, hl0, hr0⟩ := open_party (hval 0 _ v0 rfl rfl) h0
  obtain ⟨l1, A1, c1, rfl, hl1, hr1⟩ := open_list (hval 1 _ v1 rfl rfl) h1
  refine (lawIsColouring_any x0 l0 A0 c0 l1 A1 c1 W hl0 hr0 hl1 hr1).mono fun e W' ⟨he, hb⟩ => ?_
  subst he
  exact ⟨_, rfl, law_post Try.laidOut (by kernel_rfl) (by kernel_rfl) Try.underlying4 rfl rfl hW' hb⟩

theorem lawIsColouring_types : typeFacts Try.prog Try.f3 Rows.fnExactIsColouringSpec Rows.fnExactIsColouringRow = true := by kernel_rfl
theorem lawIsColouring_wf : Rows.fnExactIsColouringRow.wf (OpenSpec.ofChange Rows.fnExactIsColouringSpec) = true := by kernel_rfl
theorem lawIsColouring_inPlace : (Rows.fnExactIsColouringRow.inPlace == Try.prog.inPlace 3) = true := by kernel_rfl
theorem lawIsColouring_unfollowed : (Rows.fnExactIsColouringRow.unfollowed == Try.prog.unfollowed 3) = true := by kernel_rfl
theorem lawIsColouring_recurses : (Rows.fnExactIsColouringRow.recurses == Try.prog.recurses 3) = true := by kernel_rfl
theorem lawIsColouring_named : (Rows.fnExactIsColouringRow.named == Try.prog.varsNamed 3) = true := by kernel_rfl
theorem lawIsColouring_name : Try.prog.funcNamed Rows.fnExactIsColouringRow.func = some 3 := by kernel_rfl
theorem lawIsColouring_wrap : (Try.f3).isWrapper Try.prog Rows.fnExactIsColouringRow.wrapper Rows.fnExactIsColouringRow.mainSum := by
  unfold Func.isWrapper
  first | (rw [if_pos (by decide +kernel)]; kernel_rfl) | (rw [if_neg (by decide +kernel)]; exact ⟨rfl, rfl⟩)
theorem lawIsColouring_joined : joinedFacts Try.prog 3 Try.f3 Rows.fnExactIsColouringSpec Rows.fnExactIsColouringRow = true :=
  joined_of lawIsColouring_wf lawIsColouring_types lawIsColouring_inPlace lawIsColouring_unfollowed lawIsColouring_recurses lawIsColouring_named rfl rfl rfl

theorem exactIsColouring_holds : Rows.FnExactIsColouringSaid :=
  OpenClaim.holds_of_wide 3 Try.f3 rfl rfl rfl rfl rfl rfl rfl ⟨rfl, rfl, rfl, rfl, rfl⟩ rfl rfl rfl rfl rfl lawIsColouring_name Try.func3 lawIsColouring_joined
    (of_decide_eq_true (by kernel_rfl)) lawIsColouring_wrap
    (fun os started H enc _ => lawIsColouring_lifted os started H enc)
end Go.Proofs.Ytnpljmipicjacaa
