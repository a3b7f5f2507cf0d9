/-
  For every input that can be read, 'laws.FnExactFriendsOf' returns true, and its arguments read afterwards as they read before. Conditions: none.
-/
import Derived.Test.YtgkfnckgpbjbdaaLawFriendsOf
import Derived.Test.YtgkfnckgpbjbdaaFacts
namespace Go.Proofs.Ytgkfnckgpbjbdaa
open Go.ChangeShapes Go.WideShapes Go.ChangeAt Go.RowKit

set_option maxRecDepth 100000 in
theorem lawFriendsOf_lifted (os : Os) (started : os.Started) (H : Type) (enc : TypeId × Value → H) :
    ReturnsInHanded {} Try.checked os 7 .any (Rows.fnExactFriendsOfSpec.pre6 enc Try.prog Try.f7 Rows.fnExactFriendsOfRow.domain false) (Rows.fnExactFriendsOfSpec.post enc Try.prog Try.f7 false true false false) := by
  refine returnsInHanded_of_change (C := Try.checked) Try.own started (by kernel_rfl) Try.func7
    (ChangeSpec.witness6 (enc := enc) (C := Try.checked) false ⟨#[], #[.agg #[.int .i64 0, .slice none 0 0], .int .i64 0], []⟩ 8 (by kernel_rfl) (by kernel_rfl) (by kernel_rfl) (by kernel_rfl)) ?_
  intro W base args ds gs before hval0 hW _ _
  have hval : ∀ (j : Nat) t v, Try.f7.params[j]? = some t → args[j]? = some v → Value.okWide Try.prog W .any base t v := hval0
  have hW' := hW
  obtain ⟨p, q, hA0, hV, rfl, _, _⟩ := hW
  have hA : DataW.TrodAll enc Try.prog W 0 (fun _ => true) true Try.f7.params.toList args.toList ds p := hA0
  rw [Try.params7] at hA hval
  obtain ⟨v0, v1, d0, d1, p0, p1, rfl, rfl, rfl, h0, h1⟩ := trodAll_two hA
  obtain ⟨rfl, rfl⟩ := trodVars_none hV
  obtain ⟨x0, l0, A0, c0, rfl, hl0, hr0⟩ := open_party (hval 0 _ v0 rfl rfl) h0
  obtain ⟨x1, rfl, _, _, wf1⟩ := open_int Try.underlying3 (hval 1 _ v1 rfl rfl) h1
  refine (lawFriendsOf_any x0 l0 A0 c0 x1 W hl0 hr0).mono fun e W' ⟨he, hb⟩ => ?_
  subst he
  exact ⟨_, rfl, law_post Try.laidOut (by kernel_rfl) (by kernel_rfl) Try.underlying4 rfl rfl hW' hb⟩

theorem lawFriendsOf_types : typeFacts Try.prog Try.f7 Rows.fnExactFriendsOfSpec Rows.fnExactFriendsOfRow = true := by kernel_rfl
theorem lawFriendsOf_wf : Rows.fnExactFriendsOfRow.wf (OpenSpec.ofChange Rows.fnExactFriendsOfSpec) = true := by kernel_rfl
theorem lawFriendsOf_inPlace : (Rows.fnExactFriendsOfRow.inPlace == Try.prog.inPlace 7) = true := by kernel_rfl
theorem lawFriendsOf_unfollowed : (Rows.fnExactFriendsOfRow.unfollowed == Try.prog.unfollowed 7) = true := by kernel_rfl
theorem lawFriendsOf_recurses : (Rows.fnExactFriendsOfRow.recurses == Try.prog.recurses 7) = true := by kernel_rfl
theorem lawFriendsOf_named : (Rows.fnExactFriendsOfRow.named == Try.prog.varsNamed 7) = true := by kernel_rfl
theorem lawFriendsOf_name : Try.prog.funcNamed Rows.fnExactFriendsOfRow.func = some 7 := by kernel_rfl
theorem lawFriendsOf_wrap : (Try.f7).isWrapper Try.prog Rows.fnExactFriendsOfRow.wrapper Rows.fnExactFriendsOfRow.mainSum := by
  unfold Func.isWrapper
  first | (rw [if_pos (by decide +kernel)]; kernel_rfl) | (rw [if_neg (by decide +kernel)]; exact ⟨rfl, rfl⟩)
theorem lawFriendsOf_joined : joinedFacts Try.prog 7 Try.f7 Rows.fnExactFriendsOfSpec Rows.fnExactFriendsOfRow = true :=
  joined_of lawFriendsOf_wf lawFriendsOf_types lawFriendsOf_inPlace lawFriendsOf_unfollowed lawFriendsOf_recurses lawFriendsOf_named rfl rfl rfl

theorem exactFriendsOf_holds : Rows.FnExactFriendsOfSaid :=
  OpenClaim.holds_of_wide 7 Try.f7 rfl rfl rfl rfl rfl rfl rfl ⟨rfl, rfl, rfl, rfl, rfl⟩ rfl rfl rfl rfl rfl lawFriendsOf_name Try.func7 lawFriendsOf_joined
    (of_decide_eq_true (by kernel_rfl)) lawFriendsOf_wrap
    (fun os started H enc _ => lawFriendsOf_lifted os started H enc)
end Go.Proofs.Ytgkfnckgpbjbdaa
