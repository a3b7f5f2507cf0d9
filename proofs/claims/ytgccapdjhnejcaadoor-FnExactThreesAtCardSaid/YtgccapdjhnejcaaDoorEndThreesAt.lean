/-
  For every input that can be read, 'laws.FnExactThreesAt' returns true, and its arguments read afterwards as they read before. Conditions: none.
-/
import Derived.Test.YtgccapdjhnejcaaDoorLawThreesAt
import Derived.Test.YtgccapdjhnejcaaDoorSaid
import Derived.Test.YtgccapdjhnejcaaDoorDoor
import Derived.Test.YtgccapdjhnejcaaDoorFacts
namespace Go.Proofs.YtgccapdjhnejcaaDoor
open Go.ChangeShapes Go.WideShapes Go.ChangeAt Go.RowKit

set_option maxRecDepth 100000 in
theorem lawThreesAt_lifted (os : Os) (started : os.Started) (H : Type) (enc : TypeId × Value → H) :
    ReturnsInHanded {} Tryd.checked os 9 .any (fun w args => ((Rows.fnExactThreesAtSpec).pre enc Tryd.prog Tryd.f9 Rows.fnExactThreesAtRow.domain false w args ∧ laidMetH Tryd.prog Rows.fnExactThreesAtRow.laid w) ∧ sizedMet enc Tryd.prog Tryd.f9 (OpenSpec.ofChange Rows.fnExactThreesAtSpec) false w args) (Rows.fnExactThreesAtSpec.post enc Tryd.prog Tryd.f9 false true false false) := by
  refine returnsInHanded_of_change_and (C := Tryd.checked) (X := fun w _ => laidMetH Tryd.prog Rows.fnExactThreesAtRow.laid w) (fun _ _ _ hh h => h.of_heap hh) Tryd.own started (by kernel_rfl) Tryd.func9
    (ChangeSpec.witness_at (enc := enc) (C := Tryd.checked) (os := os) (X := fun w _ => laidMetH Tryd.prog Rows.fnExactThreesAtRow.laid w) false (laidWorld os) #[.agg #[.int .i64 0, .slice none 0 0], .int .i64 0] 8 rfl (by kernel_rfl) (by kernel_rfl) (by kernel_rfl) (by kernel_rfl) (by kernel_rfl) (laidWorld_met os _)) ?_
  intro W base args ds gs before hval0 hW _ _ hL _
  have hval : ∀ (j : Nat) t v, Tryd.f9.params[j]? = some t → args[j]? = some v → Value.okWide Tryd.prog W .any base t v := hval0
  have hW' := hW
  obtain ⟨p, q, hA0, hV, rfl, _, _⟩ := hW
  have hA : DataW.TrodAll enc Tryd.prog W 0 (fun _ => true) true Tryd.f9.params.toList args.toList ds p := hA0
  rw [Tryd.params9] at hA hval
  obtain ⟨v0, v1, d0, d1, p0, p1, rfl, rfl, rfl, h0, h1⟩ := trodAll_two hA
  obtain ⟨rfl, rfl⟩ := trodVars_none hV
  obtain ⟨x0, l0, A0, c0, rfl, hl0, hr0⟩ := open_party (hval 0 _ v0 rfl rfl) h0
  obtain ⟨x1, rfl, _, _, wf1⟩ := open_int Tryd.underlying3 (hval 1 _ v1 rfl rfl) h1
  refine (lawThreesAt_any x0 l0 A0 c0 x1 W hl0 hr0 (tab_of_laid hL)).mono fun e W' ⟨he, hb⟩ => ?_
  subst he
  exact ⟨_, rfl, law_post Tryd.laidOut (by kernel_rfl) (by kernel_rfl) Tryd.underlying4 rfl rfl hW' hb⟩

theorem lawThreesAt_types : typeFacts Tryd.prog Tryd.f9 Rows.fnExactThreesAtSpec Rows.fnExactThreesAtRow = true := by kernel_rfl
theorem lawThreesAt_wf : Rows.fnExactThreesAtRow.wf (OpenSpec.ofChange Rows.fnExactThreesAtSpec) = true := by kernel_rfl
theorem lawThreesAt_inPlace : (Rows.fnExactThreesAtRow.inPlace == Tryd.prog.inPlace 9) = true := by kernel_rfl
theorem lawThreesAt_unfollowed : (Rows.fnExactThreesAtRow.unfollowed == Tryd.prog.unfollowed 9) = true := by kernel_rfl
theorem lawThreesAt_recurses : (Rows.fnExactThreesAtRow.recurses == Tryd.prog.recurses 9) = true := by kernel_rfl
theorem lawThreesAt_named : (Rows.fnExactThreesAtRow.named == Tryd.prog.varsNamed 9) = true := by kernel_rfl
theorem lawThreesAt_name : Tryd.prog.funcNamed Rows.fnExactThreesAtRow.func = some 9 := by kernel_rfl
theorem lawThreesAt_wrap : (Tryd.f9).isWrapper Tryd.prog Rows.fnExactThreesAtRow.wrapper Rows.fnExactThreesAtRow.mainSum := by
  unfold Func.isWrapper
  first | (rw [if_pos (by decide +kernel)]; kernel_rfl) | (rw [if_neg (by decide +kernel)]; exact ⟨rfl, rfl⟩)
theorem lawThreesAt_joined : joinedFacts Tryd.prog 9 Tryd.f9 Rows.fnExactThreesAtSpec Rows.fnExactThreesAtRow = true :=
  joined_of lawThreesAt_wf lawThreesAt_types lawThreesAt_inPlace lawThreesAt_unfollowed lawThreesAt_recurses lawThreesAt_named rfl rfl rfl

theorem rowThreesAt_holds : Rows.FnExactThreesAtSaid :=
  OpenClaim.holds_of_wide 9 Tryd.f9 rfl rfl rfl rfl rfl rfl rfl ⟨rfl, rfl, rfl, rfl, rfl⟩ rfl rfl rfl rfl rfl lawThreesAt_name Tryd.func9 lawThreesAt_joined
    (of_decide_eq_true (by kernel_rfl)) lawThreesAt_wrap
    (fun os started H enc _ => lawThreesAt_lifted os started H enc)
/-- The tied card. -/
theorem exactThreesAt_holds : Rows.FnExactThreesAtCardSaid :=
  Claim7.holds_tied_plain_at .later [] [.data] true (true, _) false
    rowThreesAt_holds (fun _ h => by cases h) (by kernel_rfl) (fun _ h => by cases h) fnExactThreesAt_row_tie rfl ⟨rfl, rfl⟩ (by kernel_rfl) (by kernel_rfl)
    (fun f fn hf hfn => by
      obtain rfl : f = 9 := Option.some.inj (lawThreesAt_name.symm.trans hf) |>.symm
      obtain rfl : fn = Tryd.f9 := (Option.some.inj (Tryd.func9.symm.trans hfn)).symm
      exact ⟨by kernel_rfl, fun j t ht => by
        have hall : (Tryd.f9.params.toList.all fun t => Tryd.prog.wantsStandIn t == false) = true := by kernel_rfl
        have hm : t ∈ Tryd.f9.params.toList := by rw [← Array.getElem?_toList] at ht; exact List.mem_of_getElem? ht
        exact (show Tryd.prog.wantsStandIn t = false by simpa using List.all_eq_true.1 hall t hm)⟩)
    (by kernel_rfl)
end Go.Proofs.YtgccapdjhnejcaaDoor

