/-
  For every input that can be read, 'laws.FnExactShortestRound' returns true, and its arguments read afterwards as they read before. Conditions: none.
-/
import Derived.Test.YtmiecebdkadhbaaDoorShortestRoundP5
namespace Go.Proofs.YtmiecebdkadhbaaDoor
open Go.ChangeShapes Go.WideShapes Go.ChangeAt Go.RowKit

set_option maxRecDepth 100000 in
theorem lawShortestRound_lifted (os : Os) (started : os.Started) (H : Type) (enc : TypeId × Value → H) :
    ReturnsInHanded {} Tryd.checked os 11 .any (fun w args => ((Rows.fnExactShortestRoundSpec).pre enc Tryd.prog Tryd.f11 Rows.fnExactShortestRoundRow.domain false w args ∧ laidMetH Tryd.prog Rows.fnExactShortestRoundRow.laid w) ∧ sizedMet enc Tryd.prog Tryd.f11 (OpenSpec.ofChange Rows.fnExactShortestRoundSpec) false w args) (Rows.fnExactShortestRoundSpec.post enc Tryd.prog Tryd.f11 false true false false) := by
  refine returnsInHanded_of_change_and (C := Tryd.checked) (X := fun w _ => laidMetH Tryd.prog Rows.fnExactShortestRoundRow.laid w) (fun _ _ _ hh h => h.of_heap hh) Tryd.own started (by kernel_rfl) Tryd.func11
    (ChangeSpec.witness_at (enc := enc) (C := Tryd.checked) (os := os) (X := fun w _ => laidMetH Tryd.prog Rows.fnExactShortestRoundRow.laid w) false (laidWorld os) #[.agg #[.int .i64 0, .slice none 0 0]] 8 rfl (by kernel_rfl) (by kernel_rfl) (by kernel_rfl) (by kernel_rfl) (by kernel_rfl) (laidWorld_met os _)) ?_
  intro W base args ds gs before hval0 hW _ _ hL _
  have hval : ∀ (j : Nat) t v, Tryd.f11.params[j]? = some t → args[j]? = some v → Value.okWide Tryd.prog W .any base t v := hval0
  have hW' := hW
  obtain ⟨p, q, hA0, hV, rfl, _, _⟩ := hW
  have hA : DataW.TrodAll enc Tryd.prog W 0 (fun _ => true) true Tryd.f11.params.toList args.toList ds p := hA0
  rw [Tryd.params11] at hA hval
  obtain ⟨v0, d0, rfl, rfl, h0⟩ := trodAll_one hA
  obtain ⟨rfl, rfl⟩ := trodVars_none hV
  obtain ⟨x0, l0, A0, c0, rfl, hl0, hr0⟩ := open_party (hval 0 _ v0 rfl rfl) h0
  refine (lawShortestRound_any x0 l0 A0 c0 W hl0 hr0 (tab_of_laid hL)).mono fun e W' ⟨he, hb⟩ => ?_
  subst he
  exact ⟨_, rfl, law_post Tryd.laidOut (by kernel_rfl) (by kernel_rfl) Tryd.underlying4 rfl rfl hW' hb⟩

theorem lawShortestRound_types : typeFacts Tryd.prog Tryd.f11 Rows.fnExactShortestRoundSpec Rows.fnExactShortestRoundRow = true := by kernel_rfl
theorem lawShortestRound_wf : Rows.fnExactShortestRoundRow.wf (OpenSpec.ofChange Rows.fnExactShortestRoundSpec) = true := by kernel_rfl
theorem lawShortestRound_inPlace : (Rows.fnExactShortestRoundRow.inPlace == Tryd.prog.inPlace 11) = true := by kernel_rfl
theorem lawShortestRound_unfollowed : (Rows.fnExactShortestRoundRow.unfollowed == Tryd.prog.unfollowed 11) = true := by kernel_rfl
theorem lawShortestRound_recurses : (Rows.fnExactShortestRoundRow.recurses == Tryd.prog.recurses 11) = true := by kernel_rfl
theorem lawShortestRound_named : (Rows.fnExactShortestRoundRow.named == Tryd.prog.varsNamed 11) = true := by kernel_rfl
theorem lawShortestRound_name : Tryd.prog.funcNamed Rows.fnExactShortestRoundRow.func = some 11 := by kernel_rfl
theorem lawShortestRound_wrap : (Tryd.f11).isWrapper Tryd.prog Rows.fnExactShortestRoundRow.wrapper Rows.fnExactShortestRoundRow.mainSum := by
  unfold Func.isWrapper
  first | (rw [if_pos (by decide +kernel)]; kernel_rfl) | (rw [if_neg (by decide +kernel)]; exact ⟨rfl, rfl⟩)
theorem lawShortestRound_joined : joinedFacts Tryd.prog 11 Tryd.f11 Rows.fnExactShortestRoundSpec Rows.fnExactShortestRoundRow = true :=
  joined_of lawShortestRound_wf lawShortestRound_types lawShortestRound_inPlace lawShortestRound_unfollowed lawShortestRound_recurses lawShortestRound_named rfl rfl rfl

theorem rowShortestRound_holds : Rows.FnExactShortestRoundSaid :=
  OpenClaim.holds_of_wide_leaving 11 Tryd.f11 rfl rfl rfl rfl rfl rfl rfl ⟨rfl, rfl, rfl, rfl, rfl⟩ rfl rfl rfl rfl rfl lawShortestRound_name Tryd.func11 lawShortestRound_joined
    (of_decide_eq_true (by kernel_rfl)) lawShortestRound_wrap
    (fun os started H enc _ => leaving_of_handed (lawShortestRound_lifted os started H enc))
/-- The tied card. -/
theorem exactShortestRound_holds : Rows.FnExactShortestRoundCardSaid :=
  tied_goes .later [.data] true (true, _) false
    rowShortestRound_holds (by kernel_rfl) fnExactShortestRound_row_tie rfl ⟨rfl, rfl⟩ (by kernel_rfl) (by kernel_rfl)
    (fun f fn hf hfn => by
      obtain rfl : f = 11 := Option.some.inj (lawShortestRound_name.symm.trans hf) |>.symm
      obtain rfl : fn = Tryd.f11 := (Option.some.inj (Tryd.func11.symm.trans hfn)).symm
      exact ⟨by kernel_rfl, fun j t ht => by
        have hall : (Tryd.f11.params.toList.all fun t => Tryd.prog.wantsStandIn t == false) = true := by kernel_rfl
        have hm : t ∈ Tryd.f11.params.toList := by rw [← Array.getElem?_toList] at ht; exact List.mem_of_getElem? ht
        exact (show Tryd.prog.wantsStandIn t = false by simpa using List.all_eq_true.1 hall t hm)⟩)
    (by kernel_rfl)
end Go.Proofs.YtmiecebdkadhbaaDoor
