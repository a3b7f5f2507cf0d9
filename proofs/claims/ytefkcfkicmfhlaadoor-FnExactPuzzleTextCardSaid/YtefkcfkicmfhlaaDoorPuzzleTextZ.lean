/-
  For every input that can be read, 'laws.FnExactPuzzleText' returns true, and its arguments read afterwards as they read before. Conditions: none.
-/
import Derived.Test.YtefkcfkicmfhlaaDoorPuzzleTextP3
import Derived.Test.YtefkcfkicmfhlaaDoorPuzzleTextP4
namespace Go.Proofs.YtefkcfkicmfhlaaDoor
open Go.ChangeShapes Go.WideShapes Go.ChangeAt Go.RowKit

set_option maxRecDepth 100000 in
theorem lawPuzzleText_lifted (os : Os) (started : os.Started) (H : Type) (enc : TypeId × Value → H) :
    ReturnsInHanded {} Tryd.checked os 14 .any (fun w args => ((Rows.fnExactPuzzleTextSpec).pre enc Tryd.prog Tryd.f14 Rows.fnExactPuzzleTextRow.domain false w args ∧ laidMetH Tryd.prog Rows.fnExactPuzzleTextRow.laid w) ∧ sizedMet enc Tryd.prog Tryd.f14 (OpenSpec.ofChange Rows.fnExactPuzzleTextSpec) false w args) (Rows.fnExactPuzzleTextSpec.post enc Tryd.prog Tryd.f14 false true false false) := by
  refine returnsInHanded_of_change_and (C := Tryd.checked) (X := fun w _ => laidMetH Tryd.prog Rows.fnExactPuzzleTextRow.laid w) (fun _ _ _ hh h => h.of_heap hh) Tryd.own started (by kernel_rfl) Tryd.func14
    (ChangeSpec.witness_at (enc := enc) (C := Tryd.checked) (os := os) (X := fun w _ => laidMetH Tryd.prog Rows.fnExactPuzzleTextRow.laid w) false (laidWorldV os) #[.agg #[.int .i64 0, .slice none 0 0]] 8 rfl (by kernel_rfl) (by kernel_rfl) (by kernel_rfl) (by kernel_rfl) (by kernel_rfl) (laidWorldV_met os _)) ?_
  intro W base args ds gs before hval0 hW _ _ hL _
  have hval : ∀ (j : Nat) t v, Tryd.f14.params[j]? = some t → args[j]? = some v → Value.okWide Tryd.prog W .any base t v := hval0
  have hW' := hW
  obtain ⟨p, q, hA0, hV, rfl, _, _⟩ := hW
  have hA : DataW.TrodAll enc Tryd.prog W 0 (fun _ => true) true Tryd.f14.params.toList args.toList ds p := hA0
  rw [Tryd.params14] at hA hval
  obtain ⟨v0, d0, rfl, rfl, h0⟩ := trodAll_one hA
  obtain ⟨rfl, rfl⟩ := trodVars_none hV
  obtain ⟨x0, l0, A0, c0, rfl, hl0, hr0⟩ := open_puzzle (hval 0 _ v0 rfl rfl) h0
  refine (lawPuzzleText_any x0 l0 A0 c0 W hl0 hr0).mono fun e W' ⟨he, hb⟩ => ?_
  subst he
  exact ⟨_, rfl, law_post Tryd.laidOut (by kernel_rfl) (by kernel_rfl) Tryd.underlying4 rfl rfl hW' hb⟩

theorem lawPuzzleText_types : typeFacts Tryd.prog Tryd.f14 Rows.fnExactPuzzleTextSpec Rows.fnExactPuzzleTextRow = true := by kernel_rfl
theorem lawPuzzleText_wf : Rows.fnExactPuzzleTextRow.wf (OpenSpec.ofChange Rows.fnExactPuzzleTextSpec) = true := by kernel_rfl
theorem lawPuzzleText_inPlace : (Rows.fnExactPuzzleTextRow.inPlace == Tryd.prog.inPlace 14) = true := by kernel_rfl
theorem lawPuzzleText_unfollowed : (Rows.fnExactPuzzleTextRow.unfollowed == Tryd.prog.unfollowed 14) = true := by kernel_rfl
theorem lawPuzzleText_recurses : (Rows.fnExactPuzzleTextRow.recurses == Tryd.prog.recurses 14) = true := by kernel_rfl
theorem lawPuzzleText_named : (Rows.fnExactPuzzleTextRow.named == Tryd.prog.varsNamed 14) = true := by kernel_rfl
theorem lawPuzzleText_name : Tryd.prog.funcNamed Rows.fnExactPuzzleTextRow.func = some 14 := by kernel_rfl
theorem lawPuzzleText_wrap : (Tryd.f14).isWrapper Tryd.prog Rows.fnExactPuzzleTextRow.wrapper Rows.fnExactPuzzleTextRow.mainSum := by
  unfold Func.isWrapper
  first | (rw [if_pos (by decide +kernel)]; kernel_rfl) | (rw [if_neg (by decide +kernel)]; exact ⟨rfl, rfl⟩)
theorem lawPuzzleText_joined : joinedFacts Tryd.prog 14 Tryd.f14 Rows.fnExactPuzzleTextSpec Rows.fnExactPuzzleTextRow = true :=
  joined_of lawPuzzleText_wf lawPuzzleText_types lawPuzzleText_inPlace lawPuzzleText_unfollowed lawPuzzleText_recurses lawPuzzleText_named rfl rfl rfl

theorem rowPuzzleText_holds : Rows.FnExactPuzzleTextSaid :=
  OpenClaim.holds_of_wide 14 Tryd.f14 rfl rfl rfl rfl rfl rfl rfl ⟨rfl, rfl, rfl, rfl, rfl⟩ rfl rfl rfl rfl rfl lawPuzzleText_name Tryd.func14 lawPuzzleText_joined
    (of_decide_eq_true (by kernel_rfl)) lawPuzzleText_wrap
    (fun os started H enc _ => lawPuzzleText_lifted os started H enc)
/-- The tied card. -/
theorem exactPuzzleText_holds : Rows.FnExactPuzzleTextCardSaid :=
  Claim7.holds_tied_plain_at .later [] [.data, .data, .data] true (true, _) true
    rowPuzzleText_holds (fun _ h => by cases h) (by kernel_rfl) (fun _ h => by cases h) fnExactPuzzleText_row_tie rfl ⟨rfl, rfl⟩ lawPuzzleText_main (by kernel_rfl)
    (fun f fn hf hfn => by
      obtain rfl : f = 14 := Option.some.inj (lawPuzzleText_name.symm.trans hf) |>.symm
      obtain rfl : fn = Tryd.f14 := (Option.some.inj (Tryd.func14.symm.trans hfn)).symm
      exact ⟨by kernel_rfl, fun j t ht => by
        have hall : (Tryd.f14.params.toList.all fun t => Tryd.prog.wantsStandIn t == false) = true := by kernel_rfl
        have hm : t ∈ Tryd.f14.params.toList := by rw [← Array.getElem?_toList] at ht; exact List.mem_of_getElem? ht
        exact (show Tryd.prog.wantsStandIn t = false by simpa using List.all_eq_true.1 hall t hm)⟩)
    lawPuzzleText_goes
end Go.Proofs.YtefkcfkicmfhlaaDoor
