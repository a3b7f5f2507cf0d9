/-
  For every input that can be read, 'laws.FnExactGroupsAt' returns true, and its arguments read afterwards as they read before. Conditions: none.
-/
import Derived.Test.YtgccapdjhnejcaaDoorLawGroupsAt
import Derived.Test.YtgccapdjhnejcaaDoorSaid
import Derived.Test.YtgccapdjhnejcaaDoorDoor
import Derived.Test.YtgccapdjhnejcaaDoorFacts
namespace Go.Proofs.YtgccapdjhnejcaaDoor
open Go.ChangeShapes Go.WideShapes Go.ChangeAt Go.RowKit

set_option maxRecDepth 100000 in
theorem lawGroupsAt_lifted (os : Os) (started : os.Started) (H : Type) (enc : TypeId × Value → H) :
    ReturnsInHanded {} Tryd.checked os 6 .any (fun w args => ((Rows.fnExactGroupsAtSpec).pre enc Tryd.prog Tryd.f6 Rows.fnExactGroupsAtRow.domain false w args ∧ laidMetH Tryd.prog Rows.fnExactGroupsAtRow.laid w) ∧ sizedMet enc Tryd.prog Tryd.f6 (OpenSpec.ofChange Rows.fnExactGroupsAtSpec) false w args) (Rows.fnExactGroupsAtSpec.post enc Tryd.prog Tryd.f6 false true false false) := by
  refine returnsInHanded_of_change_and (C := Tryd.checked) (X := fun w _ => laidMetH Tryd.prog Rows.fnExactGroupsAtRow.laid w) (fun _ _ _ hh h => h.of_heap hh) Tryd.own started (by kernel_rfl) Tryd.func6
    (ChangeSpec.witness_at (enc := enc) (C := Tryd.checked) (os := os) (X := fun w _ => laidMetH Tryd.prog Rows.fnExactGroupsAtRow.laid w) false (laidWorld os) #[.agg #[.int .i64 0, .slice none 0 0], .int .i64 0] 8 rfl (by kernel_rfl) (by kernel_rfl) (by kernel_rfl) (by kernel_rfl) (by kernel_rfl) (laidWorld_met os _)) ?_
  intro W base args ds gs before hval0 hW _ _ hL _
  have hval : ∀ (j : Nat) t v, Tryd.f6.params[j]? = some t → args[j]? = some v → Value.okWide Tryd.prog W .any base t v := hval0
  have hW' := hW
  obtain ⟨p, q, hA0, hV, rfl, _, _⟩ := hW
  have hA : DataW.TrodAll enc Tryd.prog W 0 (fun _ => true) true Tryd.f6.params.toList args.toList ds p := hA0
  rw [Tryd.params6] at hA hval
  obtain ⟨v0, v1, d0, d1, p0, p1, rfl, rfl, rfl, h0, h1⟩ := trodAll_two hA
  obtain ⟨rfl, rfl⟩ := trodVars_none hV
  obtain ⟨x0, l0, A0, c0, rfl, hl0, hr0⟩ := open_party (hval 0 _ v0 rfl rfl) h0
  obtain ⟨x1, rfl, _, _, wf1⟩ := open_int Tryd.underlying3 (hval 1 _ v1 rfl rfl) h1
  refine (lawGroupsAt_any x0 l0 A0 c0 x1 W hl0 hr0 (tab_of_laid hL)).mono fun e W' ⟨he, hb⟩ => ?_
  subst he
  exact ⟨_, rfl, law_post Tryd.laidOut (by kernel_rfl) (by kernel_rfl) Tryd.underlying4 rfl rfl hW' hb⟩

theorem lawGroupsAt_types : typeFacts Tryd.prog Tryd.f6 Rows.fnExactGroupsAtSpec Rows.fnExactGroupsAtRow = true := by kernel_rfl
theorem lawGroupsAt_wf : Rows.fnExactGroupsAtRow.wf (OpenSpec.ofChange Rows.fnExactGroupsAtSpec) = true := by kernel_rfl
theorem lawGroupsAt_inPlace : (Rows.fnExactGroupsAtRow.inPlace == Tryd.prog.inPlace 6) = true := by kernel_rfl
theorem lawGroupsAt_unfollowed : (Rows.fnExactGroupsAtRow.unfollowed == Tryd.prog.unfollowed 6) = true := by kernel_rfl
theorem lawGroupsAt_recurses : (Rows.fnExactGroupsAtRow.recurses == Tryd.prog.recurses 6) = true := by kernel_rfl
theorem lawGroupsAt_named : (Rows.fnExactGroupsAtRow.named == Tryd.prog.varsNamed 6) = true := by kernel_rfl
theorem lawGroupsAt_name : Tryd.prog.funcNamed Rows.fnExactGroupsAtRow.func = some 6 := by kernel_rfl
theorem lawGroupsAt_wrap : (Tryd.f6).isWrapper Tryd.prog Rows.fnExactGroupsAtRow.wrapper Rows.fnExactGroupsAtRow.mainSum := by
  unfold Func.isWrapper
  first | (rw [if_pos (by decide +kernel)]; kernel_rfl) | (rw [if_neg (by decide +kernel)]; exact ⟨rfl, rfl⟩)
theorem lawGroupsAt_joined : joinedFacts Tryd.prog 6 Tryd.f6 Rows.fnExactGroupsAtSpec Rows.fnExactGroupsAtRow = true :=
  joined_of lawGroupsAt_wf lawGroupsAt_types lawGroupsAt_inPlace lawGroupsAt_unfollowed lawGroupsAt_recurses lawGroupsAt_named rfl rfl rfl

theorem rowGroupsAt_holds : Rows.FnExactGroupsAtSaid :=
  OpenClaim.holds_of_wide 6 Tryd.f6 rfl rfl rfl rfl rfl rfl rfl ⟨rfl, rfl, rfl, rfl, rfl⟩ rfl rfl rfl rfl rfl lawGroupsAt_name Tryd.func6 lawGroupsAt_joined
    (of_decide_eq_true (by kernel_rfl)) lawGroupsAt_wrap
    (fun os started H enc _ => lawGroupsAt_lifted os started H enc)
/-- The tied card. -/
theorem exactGroupsAt_holds : Rows.FnExactGroupsAtCardSaid :=
  Claim7.holds_tied_plain_at .later [] [.data] true (true, _) false
    rowGroupsAt_holds (fun _ h => by cases h) (by kernel_rfl) (fun _ h => by cases h) fnExactGroupsAt_row_tie rfl ⟨rfl, rfl⟩ (by kernel_rfl) (by kernel_rfl)
    (fun f fn hf hfn => by
      obtain rfl : f = 6 := Option.some.inj (lawGroupsAt_name.symm.trans hf) |>.symm
      obtain rfl : fn = Tryd.f6 := (Option.some.inj (Tryd.func6.symm.trans hfn)).symm
      exact ⟨by kernel_rfl, fun j t ht => by
        have hall : (Tryd.f6.params.toList.all fun t => Tryd.prog.wantsStandIn t == false) = true := by kernel_rfl
        have hm : t ∈ Tryd.f6.params.toList := by rw [← Array.getElem?_toList] at ht; exact List.mem_of_getElem? ht
        exact (show Tryd.prog.wantsStandIn t = false by simpa using List.all_eq_true.1 hall t hm)⟩)
    (by kernel_rfl)
end Go.Proofs.YtgccapdjhnejcaaDoor

