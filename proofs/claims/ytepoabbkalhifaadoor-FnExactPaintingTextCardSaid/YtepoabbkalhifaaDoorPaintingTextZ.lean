/-
  For every input that can be read, 'laws.FnExactPaintingText' returns true, and its arguments read afterwards as they read before. Conditions: none.
-/
import Derived.Test.YtepoabbkalhifaaDoorPaintingTextP3
namespace Go.Proofs.YtepoabbkalhifaaDoor
open Go.ChangeShapes Go.WideShapes Go.ChangeAt Go.RowKit

set_option maxRecDepth 100000 in
theorem lawPaintingText_lifted (os : Os) (started : os.Started) (H : Type) (enc : TypeId × Value → H) :
    ReturnsInHanded {} Tryd.checked os 5 .any (fun w args => ((Rows.fnExactPaintingTextSpec).pre enc Tryd.prog Tryd.f5 Rows.fnExactPaintingTextRow.domain false w args ∧ laidMetH Tryd.prog Rows.fnExactPaintingTextRow.laid w) ∧ sizedMet enc Tryd.prog Tryd.f5 (OpenSpec.ofChange Rows.fnExactPaintingTextSpec) false w args) (Rows.fnExactPaintingTextSpec.post enc Tryd.prog Tryd.f5 false true false false) := by
  refine returnsInHanded_of_change_and (C := Tryd.checked) (X := fun w _ => laidMetH Tryd.prog Rows.fnExactPaintingTextRow.laid w) (fun _ _ _ hh h => h.of_heap hh) Tryd.own started (by kernel_rfl) Tryd.func5
    (ChangeSpec.witness_at (enc := enc) (C := Tryd.checked) (os := os) (X := fun w _ => laidMetH Tryd.prog Rows.fnExactPaintingTextRow.laid w) false (laidWorldT os) #[.agg #[.int .i64 0, .int .i64 0, .slice none 0 0]] 8 rfl (by kernel_rfl) (by kernel_rfl) (by kernel_rfl) (by kernel_rfl) (by kernel_rfl) (laidWorldT_met os _)) ?_
  intro W base args ds gs before hval0 hW _ _ hL _
  have hval : ∀ (j : Nat) t v, Tryd.f5.params[j]? = some t → args[j]? = some v → Value.okWide Tryd.prog W .any base t v := hval0
  have hW' := hW
  obtain ⟨p, q, hA0, hV, rfl, _, _⟩ := hW
  have hA : DataW.TrodAll enc Tryd.prog W 0 (fun _ => true) true Tryd.f5.params.toList args.toList ds p := hA0
  rw [Tryd.params5] at hA hval
  obtain ⟨v0, d0, rfl, rfl, h0⟩ := trodAll_one hA
  obtain ⟨rfl, rfl⟩ := trodVars_none hV
  obtain ⟨x0, k0, l0, A0, c0, rfl, hl0, hr0⟩ := open_painting (hval 0 _ v0 rfl rfl) h0
  refine (lawPaintingText_any x0 k0 l0 A0 c0 W hl0 hr0).mono fun e W' ⟨he, hb⟩ => ?_
  subst he
  exact ⟨_, rfl, law_post Tryd.laidOut (by kernel_rfl) (by kernel_rfl) Tryd.underlying4 rfl rfl hW' hb⟩

theorem lawPaintingText_types : typeFacts Tryd.prog Tryd.f5 Rows.fnExactPaintingTextSpec Rows.fnExactPaintingTextRow = true := by kernel_rfl
theorem lawPaintingText_wf : Rows.fnExactPaintingTextRow.wf (OpenSpec.ofChange Rows.fnExactPaintingTextSpec) = true := by kernel_rfl
theorem lawPaintingText_inPlace : (Rows.fnExactPaintingTextRow.inPlace == Tryd.prog.inPlace 5) = true := by kernel_rfl
theorem lawPaintingText_unfollowed : (Rows.fnExactPaintingTextRow.unfollowed == Tryd.prog.unfollowed 5) = true := by kernel_rfl
theorem lawPaintingText_recurses : (Rows.fnExactPaintingTextRow.recurses == Tryd.prog.recurses 5) = true := by kernel_rfl
theorem lawPaintingText_named : (Rows.fnExactPaintingTextRow.named == Tryd.prog.varsNamed 5) = true := by kernel_rfl
theorem lawPaintingText_name : Tryd.prog.funcNamed Rows.fnExactPaintingTextRow.func = some 5 := by kernel_rfl
theorem lawPaintingText_wrap : (Tryd.f5).isWrapper Tryd.prog Rows.fnExactPaintingTextRow.wrapper Rows.fnExactPaintingTextRow.mainSum := by
  unfold Func.isWrapper
  first | (rw [if_pos (by decide +kernel)]; kernel_rfl) | (rw [if_neg (by decide +kernel)]; exact ⟨rfl, rfl⟩)
theorem lawPaintingText_joined : joinedFacts Tryd.prog 5 Tryd.f5 Rows.fnExactPaintingTextSpec Rows.fnExactPaintingTextRow = true :=
  joined_of lawPaintingText_wf lawPaintingText_types lawPaintingText_inPlace lawPaintingText_unfollowed lawPaintingText_recurses lawPaintingText_named rfl rfl rfl

theorem rowPaintingText_holds : Rows.FnExactPaintingTextSaid :=
  OpenClaim.holds_of_wide 5 Tryd.f5 rfl rfl rfl rfl rfl rfl rfl ⟨rfl, rfl, rfl, rfl, rfl⟩ rfl rfl rfl rfl rfl lawPaintingText_name Tryd.func5 lawPaintingText_joined
    (of_decide_eq_true (by kernel_rfl)) lawPaintingText_wrap
    (fun os started H enc _ => lawPaintingText_lifted os started H enc)
/-- The tied card. -/
theorem exactPaintingText_holds : Rows.FnExactPaintingTextCardSaid :=
  Claim7.holds_tied_plain_at .later [] [.data, .data, .data] true (true, _) true
    rowPaintingText_holds (fun _ h => by cases h) (by kernel_rfl) (fun _ h => by cases h) fnExactPaintingText_row_tie rfl ⟨rfl, rfl⟩ (by kernel_rfl) (by kernel_rfl)
    (fun f fn hf hfn => by
      obtain rfl : f = 5 := Option.some.inj (lawPaintingText_name.symm.trans hf) |>.symm
      obtain rfl : fn = Tryd.f5 := (Option.some.inj (Tryd.func5.symm.trans hfn)).symm
      exact ⟨by kernel_rfl, fun j t ht => by
        have hall : (Tryd.f5.params.toList.all fun t => Tryd.prog.wantsStandIn t == false) = true := by kernel_rfl
        have hm : t ∈ Tryd.f5.params.toList := by rw [← Array.getElem?_toList] at ht; exact List.mem_of_getElem? ht
        exact (show Tryd.prog.wantsStandIn t = false by simpa using List.all_eq_true.1 hall t hm)⟩)
    (by kernel_rfl)
end Go.Proofs.YtepoabbkalhifaaDoor
