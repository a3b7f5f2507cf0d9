/-
  For every input that can be read, 'laws.FnExactCountGroups' returns true, and its arguments read afterwards as they read before. Conditions: none.
-/
import Derived.Test.YtgccapdjhnejcaaDoorLawCountGroups
import Derived.Test.YtgccapdjhnejcaaDoorSaid
import Derived.Test.YtgccapdjhnejcaaDoorDoor
import Derived.Test.YtgccapdjhnejcaaDoorFacts
namespace Go.Proofs.YtgccapdjhnejcaaDoor
open Go.ChangeShapes Go.WideShapes Go.ChangeAt Go.RowKit

set_option maxRecDepth 100000 in
theorem lawCountGroups_lifted (os : Os) (started : os.Started) (H : Type) (enc : TypeId × Value → H) :
    ReturnsInHanded {} Tryd.checked os 12 .any (fun w args => ((Rows.fnExactCountGroupsSpec).pre enc Tryd.prog Tryd.f12 Rows.fnExactCountGroupsRow.domain false w args ∧ laidMetH Tryd.prog Rows.fnExactCountGroupsRow.laid w) ∧ sizedMet enc Tryd.prog Tryd.f12 (OpenSpec.ofChange Rows.fnExactCountGroupsSpec) false w args) (Rows.fnExactCountGroupsSpec.post enc Tryd.prog Tryd.f12 false true false false) := by
  refine returnsInHanded_of_change_and (C := Tryd.checked) (X := fun w _ => laidMetH Tryd.prog Rows.fnExactCountGroupsRow.laid w) (fun _ _ _ hh h => h.of_heap hh) Tryd.own started (by kernel_rfl) Tryd.func12
    (ChangeSpec.witness_at (enc := enc) (C := Tryd.checked) (os := os) (X := fun w _ => laidMetH Tryd.prog Rows.fnExactCountGroupsRow.laid w) false (laidWorld os) #[.agg #[.int .i64 0, .slice none 0 0], .int .i64 0] 8 rfl (by kernel_rfl) (by kernel_rfl) (by kernel_rfl) (by kernel_rfl) (by kernel_rfl) (laidWorld_met os _)) ?_
  intro W base args ds gs before hval0 hW _ _ hL _
  have hval : ∀ (j : Nat) t v, Tryd.f12.params[j]? = some t → args[j]? = some v → Value.okWide Tryd.prog W .any base t v := hval0
  have hW' := hW
  obtain ⟨p, q, hA0, hV, rfl, _, _⟩ := hW
  have hA : DataW.TrodAll enc Tryd.prog W 0 (fun _ => true) true Tryd.f12.params.toList args.toList ds p := hA0
  rw [Tryd.params12] at hA hval
  obtain ⟨v0, v1, d0, d1, p0, p1, rfl, rfl, rfl, h0, h1⟩ := trodAll_two hA
  obtain ⟨rfl, rfl⟩ := trodVars_none hV
  obtain ⟨x0, l0, A0, c0, rfl, hl0, hr0⟩ := open_party (hval 0 _ v0 rfl rfl) h0
  obtain ⟨x1, rfl, _, _, wf1⟩ := open_int Tryd.underlying3 (hval 1 _ v1 rfl rfl) h1
  refine (lawCountGroups_any x0 l0 A0 c0 x1 W hl0 hr0 (tab_of_laid hL)).mono fun e W' ⟨he, hb⟩ => ?_
  subst he
  exact ⟨_, rfl, law_post Tryd.laidOut (by kernel_rfl) (by kernel_rfl) Tryd.underlying4 rfl rfl hW' hb⟩

theorem lawCountGroups_types : typeFacts Tryd.prog Tryd.f12 Rows.fnExactCountGroupsSpec Rows.fnExactCountGroupsRow = true := by kernel_rfl
theorem lawCountGroups_wf : Rows.fnExactCountGroupsRow.wf (OpenSpec.ofChange Rows.fnExactCountGroupsSpec) = true := by kernel_rfl
theorem lawCountGroups_inPlace : (Rows.fnExactCountGroupsRow.inPlace == Tryd.prog.inPlace 12) = true := by kernel_rfl
theorem lawCountGroups_unfollowed : (Rows.fnExactCountGroupsRow.unfollowed == Tryd.prog.unfollowed 12) = true := by kernel_rfl
theorem lawCountGroups_recurses : (Rows.fnExactCountGroupsRow.recurses == Tryd.prog.recurses 12) = true := by kernel_rfl
theorem lawCountGroups_named : (Rows.fnExactCountGroupsRow.named == Tryd.prog.varsNamed 12) = true := by kernel_rfl
theorem lawCountGroups_name : Tryd.prog.funcNamed Rows.fnExactCountGroupsRow.func = some 12 := by kernel_rfl
theorem lawCountGroups_wrap : (Tryd.f12).isWrapper Tryd.prog Rows.fnExactCountGroupsRow.wrapper Rows.fnExactCountGroupsRow.mainSum := by
  unfold Func.isWrapper
  first | (rw [if_pos (by decide +kernel)]; kernel_rfl) | (rw [if_neg (by decide +kernel)]; exact ⟨rfl, rfl⟩)
theorem lawCountGroups_joined : joinedFacts Tryd.prog 12 Tryd.f12 Rows.fnExactCountGroupsSpec Rows.fnExactCountGroupsRow = true :=
  joined_of lawCountGroups_wf lawCountGroups_types lawCountGroups_inPlace lawCountGroups_unfollowed lawCountGroups_recurses lawCountGroups_named rfl rfl rfl

theorem rowCountGroups_holds : Rows.FnExactCountGroupsSaid :=
  OpenClaim.holds_of_wide 12 Tryd.f12 rfl rfl rfl rfl rfl rfl rfl ⟨rfl, rfl, rfl, rfl, rfl⟩ rfl rfl rfl rfl rfl lawCountGroups_name Tryd.func12 lawCountGroups_joined
    (of_decide_eq_true (by kernel_rfl)) lawCountGroups_wrap
    (fun os started H enc _ => lawCountGroups_lifted os started H enc)
/-- The tied card. -/
theorem exactCountGroups_holds : Rows.FnExactCountGroupsCardSaid :=
  Claim7.holds_tied_plain_at .later [] [.data] true (true, _) false
    rowCountGroups_holds (fun _ h => by cases h) (by kernel_rfl) (fun _ h => by cases h) fnExactCountGroups_row_tie rfl ⟨rfl, rfl⟩ (by kernel_rfl) (by kernel_rfl)
    (fun f fn hf hfn => by
      obtain rfl : f = 12 := Option.some.inj (lawCountGroups_name.symm.trans hf) |>.symm
      obtain rfl : fn = Tryd.f12 := (Option.some.inj (Tryd.func12.symm.trans hfn)).symm
      exact ⟨by kernel_rfl, fun j t ht => by
        have hall : (Tryd.f12.params.toList.all fun t => Tryd.prog.wantsStandIn t == false) = true := by kernel_rfl
        have hm : t ∈ Tryd.f12.params.toList := by rw [← Array.getElem?_toList] at ht; exact List.mem_of_getElem? ht
        exact (show Tryd.prog.wantsStandIn t = false by simpa using List.all_eq_true.1 hall t hm)⟩)
    (by kernel_rfl)
end Go.Proofs.YtgccapdjhnejcaaDoor

