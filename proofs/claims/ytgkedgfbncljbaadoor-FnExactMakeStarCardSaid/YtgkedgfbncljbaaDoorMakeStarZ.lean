/-
  For every input that can be read, 'laws.FnExactMakeStar' returns true, and its arguments read afterwards as they read before. Conditions: none.
-/
import Derived.Test.YtgkedgfbncljbaaDoorMakeStarP3
namespace Go.Proofs.YtgkedgfbncljbaaDoor
open Go.ChangeShapes Go.WideShapes Go.ChangeAt Go.RowKit

set_option maxRecDepth 100000 in
theorem lawMakeStar_lifted (os : Os) (started : os.Started) (H : Type) (enc : TypeId × Value → H) :
    ReturnsInHanded {} Tryd.checked os 3 .any (fun w args => ((Rows.fnExactMakeStarSpec).pre enc Tryd.prog Tryd.f3 Rows.fnExactMakeStarRow.domain false w args ∧ laidMetH Tryd.prog Rows.fnExactMakeStarRow.laid w) ∧ sizedMet enc Tryd.prog Tryd.f3 (OpenSpec.ofChange Rows.fnExactMakeStarSpec) false w args) (Rows.fnExactMakeStarSpec.post enc Tryd.prog Tryd.f3 false true false false) := by
  refine returnsInHanded_of_change_and (C := Tryd.checked) (X := fun w _ => laidMetH Tryd.prog Rows.fnExactMakeStarRow.laid w) (fun _ _ _ hh h => h.of_heap hh) Tryd.own started (by kernel_rfl) Tryd.func3
    (ChangeSpec.witness_at (enc := enc) (C := Tryd.checked) (os := os) (X := fun w _ => laidMetH Tryd.prog Rows.fnExactMakeStarRow.laid w) false (laidWorld os) #[.int .i64 0, .int .i64 0] 8 rfl (by kernel_rfl) (by kernel_rfl) (by kernel_rfl) (by kernel_rfl) (by kernel_rfl) (laidWorld_met os _)) ?_
  intro W base args ds gs before hval0 hW _ _ hL _
  have hval : ∀ (j : Nat) t v, Tryd.f3.params[j]? = some t → args[j]? = some v → Value.okWide Tryd.prog W .any base t v := hval0
  have hW' := hW
  obtain ⟨p, q, hA0, hV, rfl, _, _⟩ := hW
  have hA : DataW.TrodAll enc Tryd.prog W 0 (fun _ => true) true Tryd.f3.params.toList args.toList ds p := hA0
  rw [Tryd.params3] at hA hval
  obtain ⟨v0, v1, d0, d1, p0, p1, rfl, rfl, rfl, h0, h1⟩ := trodAll_two hA
  obtain ⟨rfl, rfl⟩ := trodVars_none hV
  obtain ⟨x0, rfl, _, _, wf0⟩ := open_int Tryd.underlying3 (hval 0 _ v0 rfl rfl) h0
  obtain ⟨x1, rfl, _, _, wf1⟩ := open_int Tryd.underlying3 (hval 1 _ v1 rfl rfl) h1
  refine (lawMakeStar_any x0 x1 W (tab_of_laid hL)).mono fun e W' ⟨he, hb⟩ => ?_
  subst he
  exact ⟨_, rfl, law_post Tryd.laidOut (by kernel_rfl) (by kernel_rfl) Tryd.underlying4 rfl rfl hW' hb⟩

theorem lawMakeStar_types : typeFacts Tryd.prog Tryd.f3 Rows.fnExactMakeStarSpec Rows.fnExactMakeStarRow = true := by kernel_rfl
theorem lawMakeStar_wf : Rows.fnExactMakeStarRow.wf (OpenSpec.ofChange Rows.fnExactMakeStarSpec) = true := by kernel_rfl
theorem lawMakeStar_inPlace : (Rows.fnExactMakeStarRow.inPlace == Tryd.prog.inPlace 3) = true := by kernel_rfl
theorem lawMakeStar_unfollowed : (Rows.fnExactMakeStarRow.unfollowed == Tryd.prog.unfollowed 3) = true := by kernel_rfl
theorem lawMakeStar_recurses : (Rows.fnExactMakeStarRow.recurses == Tryd.prog.recurses 3) = true := by kernel_rfl
theorem lawMakeStar_named : (Rows.fnExactMakeStarRow.named == Tryd.prog.varsNamed 3) = true := by kernel_rfl
theorem lawMakeStar_name : Tryd.prog.funcNamed Rows.fnExactMakeStarRow.func = some 3 := by kernel_rfl
theorem lawMakeStar_wrap : (Tryd.f3).isWrapper Tryd.prog Rows.fnExactMakeStarRow.wrapper Rows.fnExactMakeStarRow.mainSum := by
  unfold Func.isWrapper
  first | (rw [if_pos (by decide +kernel)]; kernel_rfl) | (rw [if_neg (by decide +kernel)]; exact ⟨rfl, rfl⟩)
theorem lawMakeStar_joined : joinedFacts Tryd.prog 3 Tryd.f3 Rows.fnExactMakeStarSpec Rows.fnExactMakeStarRow = true :=
  joined_of lawMakeStar_wf lawMakeStar_types lawMakeStar_inPlace lawMakeStar_unfollowed lawMakeStar_recurses lawMakeStar_named rfl rfl rfl

theorem rowMakeStar_holds : Rows.FnExactMakeStarSaid :=
  OpenClaim.holds_of_wide 3 Tryd.f3 rfl rfl rfl rfl rfl rfl rfl ⟨rfl, rfl, rfl, rfl, rfl⟩ rfl rfl rfl rfl rfl lawMakeStar_name Tryd.func3 lawMakeStar_joined
    (of_decide_eq_true (by kernel_rfl)) lawMakeStar_wrap
    (fun os started H enc _ => lawMakeStar_lifted os started H enc)
/-- The tied card. -/
theorem exactMakeStar_holds : Rows.FnExactMakeStarCardSaid :=
  Claim7.holds_tied_plain_at .later [] [.data] true (true, _) false
    rowMakeStar_holds (fun _ h => by cases h) (by kernel_rfl) (fun _ h => by cases h) fnExactMakeStar_row_tie rfl ⟨rfl, rfl⟩ (by kernel_rfl) (by kernel_rfl)
    (fun f fn hf hfn => by
      obtain rfl : f = 3 := Option.some.inj (lawMakeStar_name.symm.trans hf) |>.symm
      obtain rfl : fn = Tryd.f3 := (Option.some.inj (Tryd.func3.symm.trans hfn)).symm
      exact ⟨by kernel_rfl, fun j t ht => by
        have hall : (Tryd.f3.params.toList.all fun t => Tryd.prog.wantsStandIn t == false) = true := by kernel_rfl
        have hm : t ∈ Tryd.f3.params.toList := by rw [← Array.getElem?_toList] at ht; exact List.mem_of_getElem? ht
        exact (show Tryd.prog.wantsStandIn t = false by simpa using List.all_eq_true.1 hall t hm)⟩)
    (by kernel_rfl)
end Go.Proofs.YtgkedgfbncljbaaDoor
