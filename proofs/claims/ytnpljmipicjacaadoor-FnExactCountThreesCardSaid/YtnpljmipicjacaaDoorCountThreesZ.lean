/-
  For every input that can be read, 'laws.FnExactCountThrees' returns true, and its arguments read afterwards as they read before. Conditions: none.
-/
import Derived.Test.YtnpljmipicjacaaDoorCountThreesP5
namespace Go.Proofs.YtnpljmipicjacaaDoor
open Go.ChangeShapes Go.WideShapes Go.ChangeAt Go.RowKit

set_option maxRecDepth 100000 in
theorem lawCountThrees_lifted (os : Os) (started : os.Started) (H : Type) (enc : TypeId × Value → H) :
    ReturnsInHanded {} Tryd.checked os 4 .any (fun w args => ((Rows.fnExactCountThreesSpec).pre enc Tryd.prog Tryd.f4 Rows.fnExactCountThreesRow.domain false w args ∧ laidMetH Tryd.prog Rows.fnExactCountThreesRow.laid w) ∧ sizedMet enc Tryd.prog Tryd.f4 (OpenSpec.ofChange Rows.fnExactCountThreesSpec) false w args) (Rows.fnExactCountThreesSpec.post enc Tryd.prog Tryd.f4 false true false false) := by
  refine returnsInHanded_of_change_and (C := Tryd.checked) (X := fun w _ => laidMetH Tryd.prog Rows.fnExactCountThreesRow.laid w) (fun _ _ _ hh h => h.of_heap hh) Tryd.own started (by kernel_rfl) Tryd.func4
    (ChangeSpec.witness_at (enc := enc) (C := Tryd.checked) (os := os) (X := fun w _ => laidMetH Tryd.prog Rows.fnExactCountThreesRow.laid w) false (laidWorld os) #[.agg #[.int .i64 0, .slice none 0 0]] 8 rfl (by kernel_rfl) (by kernel_rfl) (by kernel_rfl) (by kernel_rfl) (by kernel_rfl) (laidWorld_met os _)) ?_
  intro W base args ds gs before hval0 hW _ _ hL _
  have hval : ∀ (j : Nat) t v, Tryd.f4.params[j]? = some t → args[j]? = some v → Value.okWide Tryd.prog W .any base t v := hval0
  have hW' := hW
  obtain ⟨p, q, hA0, hV, rfl, _, _⟩ := hW
  have hA : DataW.TrodAll enc Tryd.prog W 0 (fun _ => true) true Tryd.f4.params.toList args.toList ds p := hA0
  rw [Tryd.params4] at hA hval
  obtain ⟨v0, d0, rfl, rfl, h0⟩ := trodAll_one hA
  obtain ⟨rfl, rfl⟩ := trodVars_none hV
  obtain ⟨x0, l0, A0, c0, rfl, hl0, hr0⟩ := open_party (hval 0 _ v0 rfl rfl) h0
  refine (lawCountThrees_any x0 l0 A0 c0 W hl0 hr0 (tab_of_laid hL)).mono fun e W' ⟨he, hb⟩ => ?_
  subst he
  exact ⟨_, rfl, law_post Tryd.laidOut (by kernel_rfl) (by kernel_rfl) Tryd.underlying4 rfl rfl hW' hb⟩

theorem lawCountThrees_types : typeFacts Tryd.prog Tryd.f4 Rows.fnExactCountThreesSpec Rows.fnExactCountThreesRow = true := by kernel_rfl
theorem lawCountThrees_wf : Rows.fnExactCountThreesRow.wf (OpenSpec.ofChange Rows.fnExactCountThreesSpec) = true := by kernel_rfl
theorem lawCountThrees_inPlace : (Rows.fnExactCountThreesRow.inPlace == Tryd.prog.inPlace 4) = true := by kernel_rfl
theorem lawCountThrees_unfollowed : (Rows.fnExactCountThreesRow.unfollowed == Tryd.prog.unfollowed 4) = true := by kernel_rfl
theorem lawCountThrees_recurses : (Rows.fnExactCountThreesRow.recurses == Tryd.prog.recurses 4) = true := by kernel_rfl
theorem lawCountThrees_named : (Rows.fnExactCountThreesRow.named == Tryd.prog.varsNamed 4) = true := by kernel_rfl
theorem lawCountThrees_name : Tryd.prog.funcNamed Rows.fnExactCountThreesRow.func = some 4 := by kernel_rfl
theorem lawCountThrees_wrap : (Tryd.f4).isWrapper Tryd.prog Rows.fnExactCountThreesRow.wrapper Rows.fnExactCountThreesRow.mainSum := by
  unfold Func.isWrapper
  first | (rw [if_pos (by decide +kernel)]; kernel_rfl) | (rw [if_neg (by decide +kernel)]; exact ⟨rfl, rfl⟩)
theorem lawCountThrees_joined : joinedFacts Tryd.prog 4 Tryd.f4 Rows.fnExactCountThreesSpec Rows.fnExactCountThreesRow = true :=
  joined_of lawCountThrees_wf lawCountThrees_types lawCountThrees_inPlace lawCountThrees_unfollowed lawCountThrees_recurses lawCountThrees_named rfl rfl rfl

theorem rowCountThrees_holds : Rows.FnExactCountThreesSaid :=
  OpenClaim.holds_of_wide 4 Tryd.f4 rfl rfl rfl rfl rfl rfl rfl ⟨rfl, rfl, rfl, rfl, rfl⟩ rfl rfl rfl rfl rfl lawCountThrees_name Tryd.func4 lawCountThrees_joined
    (of_decide_eq_true (by kernel_rfl)) lawCountThrees_wrap
    (fun os started H enc _ => lawCountThrees_lifted os started H enc)
/-- The tied card. -/
theorem exactCountThrees_holds : Rows.FnExactCountThreesCardSaid :=
  Claim7.holds_tied_plain_at .later [] [.data] true (true, _) false
    rowCountThrees_holds (fun _ h => by cases h) (by kernel_rfl) (fun _ h => by cases h) fnExactCountThrees_row_tie rfl ⟨rfl, rfl⟩ (by kernel_rfl) (by kernel_rfl)
    (fun f fn hf hfn => by
      obtain rfl : f = 4 := Option.some.inj (lawCountThrees_name.symm.trans hf) |>.symm
      obtain rfl : fn = Tryd.f4 := (Option.some.inj (Tryd.func4.symm.trans hfn)).symm
      exact ⟨by kernel_rfl, fun j t ht => by
        have hall : (Tryd.f4.params.toList.all fun t => Tryd.prog.wantsStandIn t == false) = true := by kernel_rfl
        have hm : t ∈ Tryd.f4.params.toList := by rw [← Array.getElem?_toList] at ht; exact List.mem_of_getElem? ht
        exact (show Tryd.prog.wantsStandIn t = false by simpa using List.all_eq_true.1 hall t hm)⟩)
    (by kernel_rfl)
end Go.Proofs.YtnpljmipicjacaaDoor
