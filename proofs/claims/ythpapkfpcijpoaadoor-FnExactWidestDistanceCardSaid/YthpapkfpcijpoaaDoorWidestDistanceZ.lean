/-
  For every input that can be read, 'laws.FnExactWidestDistance' returns true, and its arguments read afterwards as they read before. Conditions: none.
-/
import Derived.Test.YthpapkfpcijpoaaDoorWidestDistanceP5
namespace Go.Proofs.YthpapkfpcijpoaaDoor
open Go.ChangeShapes Go.WideShapes Go.ChangeAt Go.RowKit

set_option maxRecDepth 100000 in
theorem lawWidestDistance_lifted (os : Os) (started : os.Started) (H : Type) (enc : TypeId × Value → H) :
    ReturnsInHanded {} Tryd.checked os 7 .any (fun w args => ((Rows.fnExactWidestDistanceSpec).pre enc Tryd.prog Tryd.f7 Rows.fnExactWidestDistanceRow.domain false w args ∧ laidMetH Tryd.prog Rows.fnExactWidestDistanceRow.laid w) ∧ sizedMet enc Tryd.prog Tryd.f7 (OpenSpec.ofChange Rows.fnExactWidestDistanceSpec) false w args) (Rows.fnExactWidestDistanceSpec.post enc Tryd.prog Tryd.f7 false true false false) := by
  refine returnsInHanded_of_change_and (C := Tryd.checked) (X := fun w _ => laidMetH Tryd.prog Rows.fnExactWidestDistanceRow.laid w) (fun _ _ _ hh h => h.of_heap hh) Tryd.own started (by kernel_rfl) Tryd.func7
    (ChangeSpec.witness_at (enc := enc) (C := Tryd.checked) (os := os) (X := fun w _ => laidMetH Tryd.prog Rows.fnExactWidestDistanceRow.laid w) false (laidWorld os) #[.agg #[.int .i64 0, .slice none 0 0]] 8 rfl (by kernel_rfl) (by kernel_rfl) (by kernel_rfl) (by kernel_rfl) (by kernel_rfl) (laidWorld_met os _)) ?_
  intro W base args ds gs before hval0 hW _ _ hL _
  have hval : ∀ (j : Nat) t v, Tryd.f7.params[j]? = some t → args[j]? = some v → Value.okWide Tryd.prog W .any base t v := hval0
  have hW' := hW
  obtain ⟨p, q, hA0, hV, rfl, _, _⟩ := hW
  have hA : DataW.TrodAll enc Tryd.prog W 0 (fun _ => true) true Tryd.f7.params.toList args.toList ds p := hA0
  rw [Tryd.params7] at hA hval
  obtain ⟨v0, d0, rfl, rfl, h0⟩ := trodAll_one hA
  obtain ⟨rfl, rfl⟩ := trodVars_none hV
  obtain ⟨x0, l0, A0, c0, rfl, hl0, hr0⟩ := open_party (hval 0 _ v0 rfl rfl) h0
  refine (lawWidestDistance_any x0 l0 A0 c0 W hl0 hr0 (tab_of_laid hL)).mono fun e W' ⟨he, hb⟩ => ?_
  subst he
  exact ⟨_, rfl, law_post Tryd.laidOut (by kernel_rfl) (by kernel_rfl) Tryd.underlying4 rfl rfl hW' hb⟩

theorem lawWidestDistance_types : typeFacts Tryd.prog Tryd.f7 Rows.fnExactWidestDistanceSpec Rows.fnExactWidestDistanceRow = true := by kernel_rfl
theorem lawWidestDistance_wf : Rows.fnExactWidestDistanceRow.wf (OpenSpec.ofChange Rows.fnExactWidestDistanceSpec) = true := by kernel_rfl
theorem lawWidestDistance_inPlace : (Rows.fnExactWidestDistanceRow.inPlace == Tryd.prog.inPlace 7) = true := by kernel_rfl
theorem lawWidestDistance_unfollowed : (Rows.fnExactWidestDistanceRow.unfollowed == Tryd.prog.unfollowed 7) = true := by kernel_rfl
theorem lawWidestDistance_recurses : (Rows.fnExactWidestDistanceRow.recurses == Tryd.prog.recurses 7) = true := by kernel_rfl
theorem lawWidestDistance_named : (Rows.fnExactWidestDistanceRow.named == Tryd.prog.varsNamed 7) = true := by kernel_rfl
theorem lawWidestDistance_name : Tryd.prog.funcNamed Rows.fnExactWidestDistanceRow.func = some 7 := by kernel_rfl
theorem lawWidestDistance_wrap : (Tryd.f7).isWrapper Tryd.prog Rows.fnExactWidestDistanceRow.wrapper Rows.fnExactWidestDistanceRow.mainSum := by
  unfold Func.isWrapper
  first | (rw [if_pos (by decide +kernel)]; kernel_rfl) | (rw [if_neg (by decide +kernel)]; exact ⟨rfl, rfl⟩)
theorem lawWidestDistance_joined : joinedFacts Tryd.prog 7 Tryd.f7 Rows.fnExactWidestDistanceSpec Rows.fnExactWidestDistanceRow = true :=
  joined_of lawWidestDistance_wf lawWidestDistance_types lawWidestDistance_inPlace lawWidestDistance_unfollowed lawWidestDistance_recurses lawWidestDistance_named rfl rfl rfl

theorem rowWidestDistance_holds : Rows.FnExactWidestDistanceSaid :=
  OpenClaim.holds_of_wide 7 Tryd.f7 rfl rfl rfl rfl rfl rfl rfl ⟨rfl, rfl, rfl, rfl, rfl⟩ rfl rfl rfl rfl rfl lawWidestDistance_name Tryd.func7 lawWidestDistance_joined
    (of_decide_eq_true (by kernel_rfl)) lawWidestDistance_wrap
    (fun os started H enc _ => lawWidestDistance_lifted os started H enc)
/-- The tied card. -/
theorem exactWidestDistance_holds : Rows.FnExactWidestDistanceCardSaid :=
  Claim7.holds_tied_plain_at .later [] [.data] true (true, _) true
    rowWidestDistance_holds (fun _ h => by cases h) (by kernel_rfl) (fun _ h => by cases h) fnExactWidestDistance_row_tie rfl ⟨rfl, rfl⟩ (by kernel_rfl) (by kernel_rfl)
    (fun f fn hf hfn => by
      obtain rfl : f = 7 := Option.some.inj (lawWidestDistance_name.symm.trans hf) |>.symm
      obtain rfl : fn = Tryd.f7 := (Option.some.inj (Tryd.func7.symm.trans hfn)).symm
      exact ⟨by kernel_rfl, fun j t ht => by
        have hall : (Tryd.f7.params.toList.all fun t => Tryd.prog.wantsStandIn t == false) = true := by kernel_rfl
        have hm : t ∈ Tryd.f7.params.toList := by rw [← Array.getElem?_toList] at ht; exact List.mem_of_getElem? ht
        exact (show Tryd.prog.wantsStandIn t = false by simpa using List.all_eq_true.1 hall t hm)⟩)
    (by kernel_rfl)
end Go.Proofs.YthpapkfpcijpoaaDoor
