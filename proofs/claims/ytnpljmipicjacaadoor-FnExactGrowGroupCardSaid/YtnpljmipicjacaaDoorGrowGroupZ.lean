/-
  For every input that can be read, 'laws.FnExactGrowGroup' returns true, and its arguments read afterwards as they read before. Conditions: none.
-/
import Derived.Test.YtnpljmipicjacaaDoorGrowGroupP6
namespace Go.Proofs.YtnpljmipicjacaaDoor
open Go.ChangeShapes Go.WideShapes Go.ChangeAt Go.RowKit

set_option maxRecDepth 100000 in
theorem lawGrowGroup_lifted (os : Os) (started : os.Started) (H : Type) (enc : TypeId × Value → H) :
    ReturnsInHanded {} Tryd.checked os 3 .any (fun w args => ((Rows.fnExactGrowGroupSpec).pre enc Tryd.prog Tryd.f3 Rows.fnExactGrowGroupRow.domain false w args ∧ laidMetH Tryd.prog Rows.fnExactGrowGroupRow.laid w) ∧ sizedMet enc Tryd.prog Tryd.f3 (OpenSpec.ofChange Rows.fnExactGrowGroupSpec) false w args) (Rows.fnExactGrowGroupSpec.post enc Tryd.prog Tryd.f3 false true false false) := by
  refine returnsInHanded_of_change_and (C := Tryd.checked) (X := fun w _ => laidMetH Tryd.prog Rows.fnExactGrowGroupRow.laid w) (fun _ _ _ hh h => h.of_heap hh) Tryd.own started (by kernel_rfl) Tryd.func3
    (ChangeSpec.witness_at (enc := enc) (C := Tryd.checked) (os := os) (X := fun w _ => laidMetH Tryd.prog Rows.fnExactGrowGroupRow.laid w) false (laidWorld os) #[.agg #[.int .i64 0, .slice none 0 0], .slice none 0 0] 8 rfl (by kernel_rfl) (by kernel_rfl) (by kernel_rfl) (by kernel_rfl) (by kernel_rfl) (laidWorld_met os _)) ?_
  intro W base args ds gs before hval0 hW _ _ hL _
  have hval : ∀ (j : Nat) t v, Tryd.f3.params[j]? = some t → args[j]? = some v → Value.okWide Tryd.prog W .any base t v := hval0
  have hW' := hW
  obtain ⟨p, q, hA0, hV, rfl, _, _⟩ := hW
  have hA : DataW.TrodAll enc Tryd.prog W 0 (fun _ => true) true Tryd.f3.params.toList args.toList ds p := hA0
  rw [Tryd.params3] at hA hval
  obtain ⟨v0, v1, d0, d1, p0, p1, rfl, rfl, rfl, h0, h1⟩ := trodAll_two hA
  obtain ⟨rfl, rfl⟩ := trodVars_none hV
  obtain ⟨x0, l0, A0, c0, rfl, hl0, hr0⟩ := open_party (hval 0 _ v0 rfl rfl) h0
  obtain ⟨l1, A1, c1, rfl, hl1, hr1⟩ := open_list (hval 1 _ v1 rfl rfl) h1
  refine (lawGrowGroup_any x0 l0 A0 c0 l1 A1 c1 W hl0 hr0 hl1 hr1 (tab_of_laid hL)).mono fun e W' ⟨he, hb⟩ => ?_
  subst he
  exact ⟨_, rfl, law_post Tryd.laidOut (by kernel_rfl) (by kernel_rfl) Tryd.underlying4 rfl rfl hW' hb⟩

theorem lawGrowGroup_types : typeFacts Tryd.prog Tryd.f3 Rows.fnExactGrowGroupSpec Rows.fnExactGrowGroupRow = true := by kernel_rfl
theorem lawGrowGroup_wf : Rows.fnExactGrowGroupRow.wf (OpenSpec.ofChange Rows.fnExactGrowGroupSpec) = true := by kernel_rfl
theorem lawGrowGroup_inPlace : (Rows.fnExactGrowGroupRow.inPlace == Tryd.prog.inPlace 3) = true := by kernel_rfl
theorem lawGrowGroup_unfollowed : (Rows.fnExactGrowGroupRow.unfollowed == Tryd.prog.unfollowed 3) = true := by kernel_rfl
theorem lawGrowGroup_recurses : (Rows.fnExactGrowGroupRow.recurses == Tryd.prog.recurses 3) = true := by kernel_rfl
theorem lawGrowGroup_named : (Rows.fnExactGrowGroupRow.named == Tryd.prog.varsNamed 3) = true := by kernel_rfl
theorem lawGrowGroup_name : Tryd.prog.funcNamed Rows.fnExactGrowGroupRow.func = some 3 := by kernel_rfl
theorem lawGrowGroup_wrap : (Tryd.f3).isWrapper Tryd.prog Rows.fnExactGrowGroupRow.wrapper Rows.fnExactGrowGroupRow.mainSum := by
  unfold Func.isWrapper
  first | (rw [if_pos (by decide +kernel)]; kernel_rfl) | (rw [if_neg (by decide +kernel)]; exact ⟨rfl, rfl⟩)
theorem lawGrowGroup_joined : joinedFacts Tryd.prog 3 Tryd.f3 Rows.fnExactGrowGroupSpec Rows.fnExactGrowGroupRow = true :=
  joined_of lawGrowGroup_wf lawGrowGroup_types lawGrowGroup_inPlace lawGrowGroup_unfollowed lawGrowGroup_recurses lawGrowGroup_named rfl rfl rfl

theorem rowGrowGroup_holds : Rows.FnExactGrowGroupSaid :=
  OpenClaim.holds_of_wide 3 Tryd.f3 rfl rfl rfl rfl rfl rfl rfl ⟨rfl, rfl, rfl, rfl, rfl⟩ rfl rfl rfl rfl rfl lawGrowGroup_name Tryd.func3 lawGrowGroup_joined
    (of_decide_eq_true (by kernel_rfl)) lawGrowGroup_wrap
    (fun os started H enc _ => lawGrowGroup_lifted os started H enc)
/-- The tied card. -/
theorem exactGrowGroup_holds : Rows.FnExactGrowGroupCardSaid :=
  Claim7.holds_tied_plain_at .later [] [.data] true (true, _) false
    rowGrowGroup_holds (fun _ h => by cases h) (by kernel_rfl) (fun _ h => by cases h) fnExactGrowGroup_row_tie rfl ⟨rfl, rfl⟩ (by kernel_rfl) (by kernel_rfl)
    (fun f fn hf hfn => by
      obtain rfl : f = 3 := Option.some.inj (lawGrowGroup_name.symm.trans hf) |>.symm
      obtain rfl : fn = Tryd.f3 := (Option.some.inj (Tryd.func3.symm.trans hfn)).symm
      exact ⟨by kernel_rfl, fun j t ht => by
        have hall : (Tryd.f3.params.toList.all fun t => Tryd.prog.wantsStandIn t == false) = true := by kernel_rfl
        have hm : t ∈ Tryd.f3.params.toList := by rw [← Array.getElem?_toList] at ht; exact List.mem_of_getElem? ht
        exact (show Tryd.prog.wantsStandIn t = false by simpa using List.all_eq_true.1 hall t hm)⟩)
    (by kernel_rfl)
end Go.Proofs.YtnpljmipicjacaaDoor
