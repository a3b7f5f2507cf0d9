/-
  For every input that can be read, 'laws.FnExactPartyText' returns true, and its arguments read afterwards as they read before. Conditions: none.
-/
import Derived.Test.YtmiecebdkadhbaaDoorPartyTextP2
namespace Go.Proofs.YtmiecebdkadhbaaDoor
open Go.ChangeShapes Go.WideShapes Go.ChangeAt Go.RowKit

set_option maxRecDepth 100000 in
theorem lawPartyText_lifted (os : Os) (started : os.Started) (H : Type) (enc : TypeId × Value → H) :
    ReturnsInHanded {} Tryd.checked os 12 .any (fun w args => ((Rows.fnExactPartyTextSpec).pre enc Tryd.prog Tryd.f12 Rows.fnExactPartyTextRow.domain false w args ∧ laidMetH Tryd.prog Rows.fnExactPartyTextRow.laid w) ∧ sizedMet enc Tryd.prog Tryd.f12 (OpenSpec.ofChange Rows.fnExactPartyTextSpec) false w args) (Rows.fnExactPartyTextSpec.post enc Tryd.prog Tryd.f12 false true false false) := by
  refine returnsInHanded_of_change_and (C := Tryd.checked) (X := fun w _ => laidMetH Tryd.prog Rows.fnExactPartyTextRow.laid w) (fun _ _ _ hh h => h.of_heap hh) Tryd.own started (by kernel_rfl) Tryd.func12
    (ChangeSpec.witness_at (enc := enc) (C := Tryd.checked) (os := os) (X := fun w _ => laidMetH Tryd.prog Rows.fnExactPartyTextRow.laid w) false (laidWorldU os) #[.agg #[.int .i64 0, .slice none 0 0]] 8 rfl (by kernel_rfl) (by kernel_rfl) (by kernel_rfl) (by kernel_rfl) (by kernel_rfl) (laidWorldU_met os _)) ?_
  intro W base args ds gs before hval0 hW _ _ hL _
  have hval : ∀ (j : Nat) t v, Tryd.f12.params[j]? = some t → args[j]? = some v → Value.okWide Tryd.prog W .any base t v := hval0
  have hW' := hW
  obtain ⟨p, q, hA0, hV, rfl, _, _⟩ := hW
  have hA : DataW.TrodAll enc Tryd.prog W 0 (fun _ => true) true Tryd.f12.params.toList args.toList ds p := hA0
  rw [Tryd.params12] at hA hval
  obtain ⟨v0, d0, rfl, rfl, h0⟩ := trodAll_one hA
  obtain ⟨rfl, rfl⟩ := trodVars_none hV
  obtain ⟨x0, l0, A0, c0, rfl, hl0, hr0⟩ := open_party (hval 0 _ v0 rfl rfl) h0
  refine (lawPartyText_any x0 l0 A0 c0 W hl0 hr0).mono fun e W' ⟨he, hb⟩ => ?_
  subst he
  exact ⟨_, rfl, law_post Tryd.laidOut (by kernel_rfl) (by kernel_rfl) Tryd.underlying4 rfl rfl hW' hb⟩

theorem lawPartyText_types : typeFacts Tryd.prog Tryd.f12 Rows.fnExactPartyTextSpec Rows.fnExactPartyTextRow = true := by kernel_rfl
theorem lawPartyText_wf : Rows.fnExactPartyTextRow.wf (OpenSpec.ofChange Rows.fnExactPartyTextSpec) = true := by kernel_rfl
theorem lawPartyText_inPlace : (Rows.fnExactPartyTextRow.inPlace == Tryd.prog.inPlace 12) = true := by kernel_rfl
theorem lawPartyText_unfollowed : (Rows.fnExactPartyTextRow.unfollowed == Tryd.prog.unfollowed 12) = true := by kernel_rfl
theorem lawPartyText_recurses : (Rows.fnExactPartyTextRow.recurses == Tryd.prog.recurses 12) = true := by kernel_rfl
theorem lawPartyText_named : (Rows.fnExactPartyTextRow.named == Tryd.prog.varsNamed 12) = true := by kernel_rfl
theorem lawPartyText_name : Tryd.prog.funcNamed Rows.fnExactPartyTextRow.func = some 12 := by kernel_rfl
theorem lawPartyText_wrap : (Tryd.f12).isWrapper Tryd.prog Rows.fnExactPartyTextRow.wrapper Rows.fnExactPartyTextRow.mainSum := by
  unfold Func.isWrapper
  first | (rw [if_pos (by decide +kernel)]; kernel_rfl) | (rw [if_neg (by decide +kernel)]; exact ⟨rfl, rfl⟩)
theorem lawPartyText_joined : joinedFacts Tryd.prog 12 Tryd.f12 Rows.fnExactPartyTextSpec Rows.fnExactPartyTextRow = true :=
  joined_of lawPartyText_wf lawPartyText_types lawPartyText_inPlace lawPartyText_unfollowed lawPartyText_recurses lawPartyText_named rfl rfl rfl

theorem rowPartyText_holds : Rows.FnExactPartyTextSaid :=
  OpenClaim.holds_of_wide 12 Tryd.f12 rfl rfl rfl rfl rfl rfl rfl ⟨rfl, rfl, rfl, rfl, rfl⟩ rfl rfl rfl rfl rfl lawPartyText_name Tryd.func12 lawPartyText_joined
    (of_decide_eq_true (by kernel_rfl)) lawPartyText_wrap
    (fun os started H enc _ => lawPartyText_lifted os started H enc)
/-- The tied card. -/
theorem exactPartyText_holds : Rows.FnExactPartyTextCardSaid :=
  Claim7.holds_tied_plain_at .later [] [.data, .data, .data] true (true, _) false
    rowPartyText_holds (fun _ h => by cases h) (by kernel_rfl) (fun _ h => by cases h) fnExactPartyText_row_tie rfl ⟨rfl, rfl⟩ (by kernel_rfl) (by kernel_rfl)
    (fun f fn hf hfn => by
      obtain rfl : f = 12 := Option.some.inj (lawPartyText_name.symm.trans hf) |>.symm
      obtain rfl : fn = Tryd.f12 := (Option.some.inj (Tryd.func12.symm.trans hfn)).symm
      exact ⟨by kernel_rfl, fun j t ht => by
        have hall : (Tryd.f12.params.toList.all fun t => Tryd.prog.wantsStandIn t == false) = true := by kernel_rfl
        have hm : t ∈ Tryd.f12.params.toList := by rw [← Array.getElem?_toList] at ht; exact List.mem_of_getElem? ht
        exact (show Tryd.prog.wantsStandIn t = false by simpa using List.all_eq_true.1 hall t hm)⟩)
    (by kernel_rfl)
end Go.Proofs.YtmiecebdkadhbaaDoor
