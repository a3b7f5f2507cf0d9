/-
  For every input that can be read, 'laws.FnExactDistanceOf' returns true, and its arguments read afterwards as they read before. Conditions: none.
-/
import Derived.Test.YthpapkfpcijpoaaDoorDistanceOfP5
namespace Go.Proofs.YthpapkfpcijpoaaDoor
open Go.ChangeShapes Go.WideShapes Go.ChangeAt Go.RowKit

set_option maxRecDepth 100000 in
theorem lawDistanceOf_lifted (os : Os) (started : os.Started) (H : Type) (enc : TypeId × Value → H) :
    ReturnsInHanded {} Tryd.checked os 6 .any (fun w args => ((Rows.fnExactDistanceOfSpec).pre enc Tryd.prog Tryd.f6 Rows.fnExactDistanceOfRow.domain false w args ∧ laidMetH Tryd.prog Rows.fnExactDistanceOfRow.laid w) ∧ sizedMet enc Tryd.prog Tryd.f6 (OpenSpec.ofChange Rows.fnExactDistanceOfSpec) false w args) (Rows.fnExactDistanceOfSpec.post enc Tryd.prog Tryd.f6 false true false false) := by
  refine returnsInHanded_of_change_and (C := Tryd.checked) (X := fun w _ => laidMetH Tryd.prog Rows.fnExactDistanceOfRow.laid w) (fun _ _ _ hh h => h.of_heap hh) Tryd.own started (by kernel_rfl) Tryd.func6
    (ChangeSpec.witness_at (enc := enc) (C := Tryd.checked) (os := os) (X := fun w _ => laidMetH Tryd.prog Rows.fnExactDistanceOfRow.laid w) false (laidWorld os) #[.agg #[.int .i64 0, .slice none 0 0], .int .i64 0, .int .i64 0] 8 rfl (by kernel_rfl) (by kernel_rfl) (by kernel_rfl) (by kernel_rfl) (by kernel_rfl) (laidWorld_met os _)) ?_
  intro W base args ds gs before hval0 hW _ _ hL _
  have hval : ∀ (j : Nat) t v, Tryd.f6.params[j]? = some t → args[j]? = some v → Value.okWide Tryd.prog W .any base t v := hval0
  have hW' := hW
  obtain ⟨p, q, hA0, hV, rfl, _, _⟩ := hW
  have hA : DataW.TrodAll enc Tryd.prog W 0 (fun _ => true) true Tryd.f6.params.toList args.toList ds p := hA0
  rw [Tryd.params6] at hA hval
  obtain ⟨v0, v1, v2, d0, d1, d2, p0, p1, p2, rfl, rfl, rfl, h0, h1, h2⟩ := trodAll_three hA
  obtain ⟨rfl, rfl⟩ := trodVars_none hV
  obtain ⟨x0, l0, A0, c0, rfl, hl0, hr0⟩ := open_party (hval 0 _ v0 rfl rfl) h0
  obtain ⟨x1, rfl, _, _, wf1⟩ := open_int Tryd.underlying3 (hval 1 _ v1 rfl rfl) h1
  obtain ⟨x2, rfl, _, _, wf2⟩ := open_int Tryd.underlying3 (hval 2 _ v2 rfl rfl) h2
  refine (lawDistanceOf_any x0 l0 A0 c0 x1 x2 W hl0 hr0 (tab_of_laid hL)).mono fun e W' ⟨he, hb⟩ => ?_
  subst he
  exact ⟨_, rfl, law_post Tryd.laidOut (by kernel_rfl) (by kernel_rfl) Tryd.underlying4 rfl rfl hW' hb⟩

theorem lawDistanceOf_types : typeFacts Tryd.prog Tryd.f6 Rows.fnExactDistanceOfSpec Rows.fnExactDistanceOfRow = true := by kernel_rfl
theorem lawDistanceOf_wf : Rows.fnExactDistanceOfRow.wf (OpenSpec.ofChange Rows.fnExactDistanceOfSpec) = true := by kernel_rfl
theorem lawDistanceOf_inPlace : (Rows.fnExactDistanceOfRow.inPlace == Tryd.prog.inPlace 6) = true := by kernel_rfl
theorem lawDistanceOf_unfollowed : (Rows.fnExactDistanceOfRow.unfollowed == Tryd.prog.unfollowed 6) = true := by kernel_rfl
theorem lawDistanceOf_recurses : (Rows.fnExactDistanceOfRow.recurses == Tryd.prog.recurses 6) = true := by kernel_rfl
theorem lawDistanceOf_named : (Rows.fnExactDistanceOfRow.named == Tryd.prog.varsNamed 6) = true := by kernel_rfl
theorem lawDistanceOf_name : Tryd.prog.funcNamed Rows.fnExactDistanceOfRow.func = some 6 := by kernel_rfl
theorem lawDistanceOf_wrap : (Tryd.f6).isWrapper Tryd.prog Rows.fnExactDistanceOfRow.wrapper Rows.fnExactDistanceOfRow.mainSum := by
  unfold Func.isWrapper
  first | (rw [if_pos (by decide +kernel)]; kernel_rfl) | (rw [if_neg (by decide +kernel)]; exact ⟨rfl, rfl⟩)
theorem lawDistanceOf_joined : joinedFacts Tryd.prog 6 Tryd.f6 Rows.fnExactDistanceOfSpec Rows.fnExactDistanceOfRow = true :=
  joined_of lawDistanceOf_wf lawDistanceOf_types lawDistanceOf_inPlace lawDistanceOf_unfollowed lawDistanceOf_recurses lawDistanceOf_named rfl rfl rfl

theorem rowDistanceOf_holds : Rows.FnExactDistanceOfSaid :=
  OpenClaim.holds_of_wide 6 Tryd.f6 rfl rfl rfl rfl rfl rfl rfl ⟨rfl, rfl, rfl, rfl, rfl⟩ rfl rfl rfl rfl rfl lawDistanceOf_name Tryd.func6 lawDistanceOf_joined
    (of_decide_eq_true (by kernel_rfl)) lawDistanceOf_wrap
    (fun os started H enc _ => lawDistanceOf_lifted os started H enc)
/-- The tied card. -/
theorem exactDistanceOf_holds : Rows.FnExactDistanceOfCardSaid :=
  Claim7.holds_tied_plain_at .later [] [.data] true (true, _) true
    rowDistanceOf_holds (fun _ h => by cases h) (by kernel_rfl) (fun _ h => by cases h) fnExactDistanceOf_row_tie rfl ⟨rfl, rfl⟩ (by kernel_rfl) (by kernel_rfl)
    (fun f fn hf hfn => by
      obtain rfl : f = 6 := Option.some.inj (lawDistanceOf_name.symm.trans hf) |>.symm
      obtain rfl : fn = Tryd.f6 := (Option.some.inj (Tryd.func6.symm.trans hfn)).symm
      exact ⟨by kernel_rfl, fun j t ht => by
        have hall : (Tryd.f6.params.toList.all fun t => Tryd.prog.wantsStandIn t == false) = true := by kernel_rfl
        have hm : t ∈ Tryd.f6.params.toList := by rw [← Array.getElem?_toList] at ht; exact List.mem_of_getElem? ht
        exact (show Tryd.prog.wantsStandIn t = false by simpa using List.all_eq_true.1 hall t hm)⟩)
    (by kernel_rfl)
end Go.Proofs.YthpapkfpcijpoaaDoor
