/-
  For every input that can be read, 'laws.FnExactCommonFriends' returns true, and its arguments read afterwards as they read before. Conditions: none.
-/
import Derived.Test.YthpapkfpcijpoaaDoorCommonFriendsP4
namespace Go.Proofs.YthpapkfpcijpoaaDoor
open Go.ChangeShapes Go.WideShapes Go.ChangeAt Go.RowKit

set_option maxRecDepth 100000 in
theorem lawCommonFriends_lifted (os : Os) (started : os.Started) (H : Type) (enc : TypeId × Value → H) :
    ReturnsInHanded {} Tryd.checked os 3 .any (fun w args => ((Rows.fnExactCommonFriendsSpec).pre enc Tryd.prog Tryd.f3 Rows.fnExactCommonFriendsRow.domain false w args ∧ laidMetH Tryd.prog Rows.fnExactCommonFriendsRow.laid w) ∧ sizedMet enc Tryd.prog Tryd.f3 (OpenSpec.ofChange Rows.fnExactCommonFriendsSpec) false w args) (Rows.fnExactCommonFriendsSpec.post enc Tryd.prog Tryd.f3 false true false false) := by
  refine returnsInHanded_of_change_and (C := Tryd.checked) (X := fun w _ => laidMetH Tryd.prog Rows.fnExactCommonFriendsRow.laid w) (fun _ _ _ hh h => h.of_heap hh) Tryd.own started (by kernel_rfl) Tryd.func3
    (ChangeSpec.witness_at (enc := enc) (C := Tryd.checked) (os := os) (X := fun w _ => laidMetH Tryd.prog Rows.fnExactCommonFriendsRow.laid w) false (laidWorld os) #[.agg #[.int .i64 0, .slice none 0 0], .int .i64 0, .int .i64 0] 8 rfl (by kernel_rfl) (by kernel_rfl) (by kernel_rfl) (by kernel_rfl) (by kernel_rfl) (laidWorld_met os _)) ?_
  intro W base args ds gs before hval0 hW _ _ hL _
  have hval : ∀ (j : Nat) t v, Tryd.f3.params[j]? = some t → args[j]? = some v → Value.okWide Tryd.prog W .any base t v := hval0
  have hW' := hW
  obtain ⟨p, q, hA0, hV, rfl, _, _⟩ := hW
  have hA : DataW.TrodAll enc Tryd.prog W 0 (fun _ => true) true Tryd.f3.params.toList args.toList ds p := hA0
  rw [Tryd.params3] at hA hval
  obtain ⟨v0, v1, v2, d0, d1, d2, p0, p1, p2, rfl, rfl, rfl, h0, h1, h2⟩ := trodAll_three hA
  obtain ⟨rfl, rfl⟩ := trodVars_none hV
  obtain ⟨x0, l0, A0, c0, rfl, hl0, hr0⟩ := open_party (hval 0 _ v0 rfl rfl) h0
  obtain ⟨x1, rfl, _, _, wf1⟩ := open_int Tryd.underlying3 (hval 1 _ v1 rfl rfl) h1
  obtain ⟨x2, rfl, _, _, wf2⟩ := open_int Tryd.underlying3 (hval 2 _ v2 rfl rfl) h2
  refine (lawCommonFriends_any x0 l0 A0 c0 x1 x2 W hl0 hr0 (tab_of_laid hL)).mono fun e W' ⟨he, hb⟩ => ?_
  subst he
  exact ⟨_, rfl, law_post Tryd.laidOut (by kernel_rfl) (by kernel_rfl) Tryd.underlying4 rfl rfl hW' hb⟩

theorem lawCommonFriends_types : typeFacts Tryd.prog Tryd.f3 Rows.fnExactCommonFriendsSpec Rows.fnExactCommonFriendsRow = true := by kernel_rfl
theorem lawCommonFriends_wf : Rows.fnExactCommonFriendsRow.wf (OpenSpec.ofChange Rows.fnExactCommonFriendsSpec) = true := by kernel_rfl
theorem lawCommonFriends_inPlace : (Rows.fnExactCommonFriendsRow.inPlace == Tryd.prog.inPlace 3) = true := by kernel_rfl
theorem lawCommonFriends_unfollowed : (Rows.fnExactCommonFriendsRow.unfollowed == Tryd.prog.unfollowed 3) = true := by kernel_rfl
theorem lawCommonFriends_recurses : (Rows.fnExactCommonFriendsRow.recurses == Tryd.prog.recurses 3) = true := by kernel_rfl
theorem lawCommonFriends_named : (Rows.fnExactCommonFriendsRow.named == Tryd.prog.varsNamed 3) = true := by kernel_rfl
theorem lawCommonFriends_name : Tryd.prog.funcNamed Rows.fnExactCommonFriendsRow.func = some 3 := by kernel_rfl
theorem lawCommonFriends_wrap : (Tryd.f3).isWrapper Tryd.prog Rows.fnExactCommonFriendsRow.wrapper Rows.fnExactCommonFriendsRow.mainSum := by
  unfold Func.isWrapper
  first | (rw [if_pos (by decide +kernel)]; kernel_rfl) | (rw [if_neg (by decide +kernel)]; exact ⟨rfl, rfl⟩)
theorem lawCommonFriends_joined : joinedFacts Tryd.prog 3 Tryd.f3 Rows.fnExactCommonFriendsSpec Rows.fnExactCommonFriendsRow = true :=
  joined_of lawCommonFriends_wf lawCommonFriends_types lawCommonFriends_inPlace lawCommonFriends_unfollowed lawCommonFriends_recurses lawCommonFriends_named rfl rfl rfl

theorem rowCommonFriends_holds : Rows.FnExactCommonFriendsSaid :=
  OpenClaim.holds_of_wide 3 Tryd.f3 rfl rfl rfl rfl rfl rfl rfl ⟨rfl, rfl, rfl, rfl, rfl⟩ rfl rfl rfl rfl rfl lawCommonFriends_name Tryd.func3 lawCommonFriends_joined
    (of_decide_eq_true (by kernel_rfl)) lawCommonFriends_wrap
    (fun os started H enc _ => lawCommonFriends_lifted os started H enc)
/-- The tied card. -/
theorem exactCommonFriends_holds : Rows.FnExactCommonFriendsCardSaid :=
  Claim7.holds_tied_plain_at .later [] [.data] true (true, _) true
    rowCommonFriends_holds (fun _ h => by cases h) (by kernel_rfl) (fun _ h => by cases h) fnExactCommonFriends_row_tie rfl ⟨rfl, rfl⟩ (by kernel_rfl) (by kernel_rfl)
    (fun f fn hf hfn => by
      obtain rfl : f = 3 := Option.some.inj (lawCommonFriends_name.symm.trans hf) |>.symm
      obtain rfl : fn = Tryd.f3 := (Option.some.inj (Tryd.func3.symm.trans hfn)).symm
      exact ⟨by kernel_rfl, fun j t ht => by
        have hall : (Tryd.f3.params.toList.all fun t => Tryd.prog.wantsStandIn t == false) = true := by kernel_rfl
        have hm : t ∈ Tryd.f3.params.toList := by rw [← Array.getElem?_toList] at ht; exact List.mem_of_getElem? ht
        exact (show Tryd.prog.wantsStandIn t = false by simpa using List.all_eq_true.1 hall t hm)⟩)
    (by kernel_rfl)
end Go.Proofs.YthpapkfpcijpoaaDoor
