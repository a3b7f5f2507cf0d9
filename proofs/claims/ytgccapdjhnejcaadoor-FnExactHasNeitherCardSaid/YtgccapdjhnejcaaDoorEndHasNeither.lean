/-
  For every input that can be read, 'laws.FnExactHasNeither' returns true, and its arguments read afterwards as they read before. Conditions: none.
-/
import Derived.Test.YtgccapdjhnejcaaDoorLawHasNeither
import Derived.Test.YtgccapdjhnejcaaDoorSaid
import Derived.Test.YtgccapdjhnejcaaDoorDoor
import Derived.Test.YtgccapdjhnejcaaDoorFacts
namespace Go.Proofs.YtgccapdjhnejcaaDoor
open Go.ChangeShapes Go.WideShapes Go.ChangeAt Go.RowKit

set_option maxRecDepth 100000 in
theorem lawHasNeither_lifted (os : Os) (started : os.Started) (H : Type) (enc : TypeId × Value → H) :
    ReturnsInHanded {} Tryd.checked os 13 .any (fun w args => ((Rows.fnExactHasNeitherSpec).pre enc Tryd.prog Tryd.f13 Rows.fnExactHasNeitherRow.domain false w args ∧ laidMetH Tryd.prog Rows.fnExactHasNeitherRow.laid w) ∧ sizedMet enc Tryd.prog Tryd.f13 (OpenSpec.ofChange Rows.fnExactHasNeitherSpec) false w args) (Rows.fnExactHasNeitherSpec.post enc Tryd.prog Tryd.f13 false true false false) := by
  refine returnsInHanded_of_change_and (C := Tryd.checked) (X := fun w _ => laidMetH Tryd.prog Rows.fnExactHasNeitherRow.laid w) (fun _ _ _ hh h => h.of_heap hh) Tryd.own started (by kernel_rfl) Tryd.func13
    (ChangeSpec.witness_at (enc := enc) (C := Tryd.checked) (os := os) (X := fun w _ => laidMetH Tryd.prog Rows.fnExactHasNeitherRow.laid w) false (laidWorld os) #[.agg #[.int .i64 0, .slice none 0 0], .int .i64 0, .int .i64 0] 8 rfl (by kernel_rfl) (by kernel_rfl) (by kernel_rfl) (by kernel_rfl) (by kernel_rfl) (laidWorld_met os _)) ?_
  intro W base args ds gs before hval0 hW _ _ hL _
  have hval : ∀ (j : Nat) t v, Tryd.f13.params[j]? = some t → args[j]? = some v → Value.okWide Tryd.prog W .any base t v := hval0
  have hW' := hW
  obtain ⟨p, q, hA0, hV, rfl, _, _⟩ := hW
  have hA : DataW.TrodAll enc Tryd.prog W 0 (fun _ => true) true Tryd.f13.params.toList args.toList ds p := hA0
  rw [Tryd.params13] at hA hval
  obtain ⟨v0, v1, v2, d0, d1, d2, p0, p1, p2, rfl, rfl, rfl, h0, h1, h2⟩ := trodAll_three hA
  obtain ⟨rfl, rfl⟩ := trodVars_none hV
  obtain ⟨x0, l0, A0, c0, rfl, hl0, hr0⟩ := open_party (hval 0 _ v0 rfl rfl) h0
  obtain ⟨x1, rfl, _, _, wf1⟩ := open_int Tryd.underlying3 (hval 1 _ v1 rfl rfl) h1
  obtain ⟨x2, rfl, _, _, wf2⟩ := open_int Tryd.underlying3 (hval 2 _ v2 rfl rfl) h2
  refine (lawHasNeither_any x0 l0 A0 c0 x1 x2 W hl0 hr0 (tab_of_laid hL)).mono fun e W' ⟨he, hb⟩ => ?_
  subst he
  exact ⟨_, rfl, law_post Tryd.laidOut (by kernel_rfl) (by kernel_rfl) Tryd.underlying4 rfl rfl hW' hb⟩

theorem lawHasNeither_types : typeFacts Tryd.prog Tryd.f13 Rows.fnExactHasNeitherSpec Rows.fnExactHasNeitherRow = true := by kernel_rfl
theorem lawHasNeither_wf : Rows.fnExactHasNeitherRow.wf (OpenSpec.ofChange Rows.fnExactHasNeitherSpec) = true := by kernel_rfl
theorem lawHasNeither_inPlace : (Rows.fnExactHasNeitherRow.inPlace == Tryd.prog.inPlace 13) = true := by kernel_rfl
theorem lawHasNeither_unfollowed : (Rows.fnExactHasNeitherRow.unfollowed == Tryd.prog.unfollowed 13) = true := by kernel_rfl
theorem lawHasNeither_recurses : (Rows.fnExactHasNeitherRow.recurses == Tryd.prog.recurses 13) = true := by kernel_rfl
theorem lawHasNeither_named : (Rows.fnExactHasNeitherRow.named == Tryd.prog.varsNamed 13) = true := by kernel_rfl
theorem lawHasNeither_name : Tryd.prog.funcNamed Rows.fnExactHasNeitherRow.func = some 13 := by kernel_rfl
theorem lawHasNeither_wrap : (Tryd.f13).isWrapper Tryd.prog Rows.fnExactHasNeitherRow.wrapper Rows.fnExactHasNeitherRow.mainSum := by
  unfold Func.isWrapper
  first | (rw [if_pos (by decide +kernel)]; kernel_rfl) | (rw [if_neg (by decide +kernel)]; exact ⟨rfl, rfl⟩)
theorem lawHasNeither_joined : joinedFacts Tryd.prog 13 Tryd.f13 Rows.fnExactHasNeitherSpec Rows.fnExactHasNeitherRow = true :=
  joined_of lawHasNeither_wf lawHasNeither_types lawHasNeither_inPlace lawHasNeither_unfollowed lawHasNeither_recurses lawHasNeither_named rfl rfl rfl

theorem rowHasNeither_holds : Rows.FnExactHasNeitherSaid :=
  OpenClaim.holds_of_wide 13 Tryd.f13 rfl rfl rfl rfl rfl rfl rfl ⟨rfl, rfl, rfl, rfl, rfl⟩ rfl rfl rfl rfl rfl lawHasNeither_name Tryd.func13 lawHasNeither_joined
    (of_decide_eq_true (by kernel_rfl)) lawHasNeither_wrap
    (fun os started H enc _ => lawHasNeither_lifted os started H enc)
/-- The tied card. -/
theorem exactHasNeither_holds : Rows.FnExactHasNeitherCardSaid :=
  Claim7.holds_tied_plain_at .later [] [.data] true (true, _) false
    rowHasNeither_holds (fun _ h => by cases h) (by kernel_rfl) (fun _ h => by cases h) fnExactHasNeither_row_tie rfl ⟨rfl, rfl⟩ (by kernel_rfl) (by kernel_rfl)
    (fun f fn hf hfn => by
      obtain rfl : f = 13 := Option.some.inj (lawHasNeither_name.symm.trans hf) |>.symm
      obtain rfl : fn = Tryd.f13 := (Option.some.inj (Tryd.func13.symm.trans hfn)).symm
      exact ⟨by kernel_rfl, fun j t ht => by
        have hall : (Tryd.f13.params.toList.all fun t => Tryd.prog.wantsStandIn t == false) = true := by kernel_rfl
        have hm : t ∈ Tryd.f13.params.toList := by rw [← Array.getElem?_toList] at ht; exact List.mem_of_getElem? ht
        exact (show Tryd.prog.wantsStandIn t = false by simpa using List.all_eq_true.1 hall t hm)⟩)
    (by kernel_rfl)
end Go.Proofs.YtgccapdjhnejcaaDoor

