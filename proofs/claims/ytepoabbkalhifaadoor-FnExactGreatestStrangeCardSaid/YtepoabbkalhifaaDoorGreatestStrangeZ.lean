/-
  For every input that can be read, 'laws.FnExactGreatestStrange' returns true, and its arguments read afterwards as they read before. Conditions: none.
-/
import Derived.Test.YtepoabbkalhifaaDoorGreatestStrangeP6
namespace Go.Proofs.YtepoabbkalhifaaDoor
open Go.ChangeShapes Go.WideShapes Go.ChangeAt Go.RowKit

set_option maxRecDepth 100000 in
theorem lawGreatestStrange_lifted (os : Os) (started : os.Started) (H : Type) (enc : TypeId × Value → H) :
    ReturnsInHanded {} Tryd.checked os 8 .any (fun w args => ((Rows.fnExactGreatestStrangeSpec).pre enc Tryd.prog Tryd.f8 Rows.fnExactGreatestStrangeRow.domain false w args ∧ laidMetH Tryd.prog Rows.fnExactGreatestStrangeRow.laid w) ∧ sizedMet enc Tryd.prog Tryd.f8 (OpenSpec.ofChange Rows.fnExactGreatestStrangeSpec) false w args) (Rows.fnExactGreatestStrangeSpec.post enc Tryd.prog Tryd.f8 false true false false) := by
  refine returnsInHanded_of_change_and (C := Tryd.checked) (X := fun w _ => laidMetH Tryd.prog Rows.fnExactGreatestStrangeRow.laid w) (fun _ _ _ hh h => h.of_heap hh) Tryd.own started (by kernel_rfl) Tryd.func8
    (ChangeSpec.witness_at (enc := enc) (C := Tryd.checked) (os := os) (X := fun w _ => laidMetH Tryd.prog Rows.fnExactGreatestStrangeRow.laid w) false (laidWorld os) #[.agg #[.int .i64 0, .slice none 0 0]] 8 rfl (by kernel_rfl) (by kernel_rfl) (by kernel_rfl) (by kernel_rfl) (by kernel_rfl) (laidWorld_met os _)) ?_
  intro W base args ds gs before hval0 hW _ _ hL _
  have hval : ∀ (j : Nat) t v, Tryd.f8.params[j]? = some t → args[j]? = some v → Value.okWide Tryd.prog W .any base t v := hval0
  have hW' := hW
  obtain ⟨p, q, hA0, hV, rfl, _, _⟩ := hW
  have hA : DataW.TrodAll enc Tryd.prog W 0 (fun _ => true) true Tryd.f8.params.toList args.toList ds p := hA0
  rw [Tryd.params8] at hA hval
  obtain ⟨v0, d0, rfl, rfl, h0⟩ := trodAll_one hA
  obtain ⟨rfl, rfl⟩ := trodVars_none hV
  obtain ⟨x0, l0, A0, c0, rfl, hl0, hr0⟩ := open_party (hval 0 _ v0 rfl rfl) h0
  refine (lawGreatestStrange_any x0 l0 A0 c0 W hl0 hr0 (tab_of_laid hL)).mono fun e W' ⟨he, hb⟩ => ?_
  subst he
  exact ⟨_, rfl, law_post Tryd.laidOut (by kernel_rfl) (by kernel_rfl) Tryd.underlying4 rfl rfl hW' hb⟩

theorem lawGreatestStrange_types : typeFacts Tryd.prog Tryd.f8 Rows.fnExactGreatestStrangeSpec Rows.fnExactGreatestStrangeRow = true := by kernel_rfl
theorem lawGreatestStrange_wf : Rows.fnExactGreatestStrangeRow.wf (OpenSpec.ofChange Rows.fnExactGreatestStrangeSpec) = true := by kernel_rfl
theorem lawGreatestStrange_inPlace : (Rows.fnExactGreatestStrangeRow.inPlace == Tryd.prog.inPlace 8) = true := by kernel_rfl
theorem lawGreatestStrange_unfollowed : (Rows.fnExactGreatestStrangeRow.unfollowed == Tryd.prog.unfollowed 8) = true := by kernel_rfl
theorem lawGreatestStrange_recurses : (Rows.fnExactGreatestStrangeRow.recurses == Tryd.prog.recurses 8) = true := by kernel_rfl
theorem lawGreatestStrange_named : (Rows.fnExactGreatestStrangeRow.named == Tryd.prog.varsNamed 8) = true := by kernel_rfl
theorem lawGreatestStrange_name : Tryd.prog.funcNamed Rows.fnExactGreatestStrangeRow.func = some 8 := by kernel_rfl
theorem lawGreatestStrange_wrap : (Tryd.f8).isWrapper Tryd.prog Rows.fnExactGreatestStrangeRow.wrapper Rows.fnExactGreatestStrangeRow.mainSum := by
  unfold Func.isWrapper
  first | (rw [if_pos (by decide +kernel)]; kernel_rfl) | (rw [if_neg (by decide +kernel)]; exact ⟨rfl, rfl⟩)
theorem lawGreatestStrange_joined : joinedFacts Tryd.prog 8 Tryd.f8 Rows.fnExactGreatestStrangeSpec Rows.fnExactGreatestStrangeRow = true :=
  joined_of lawGreatestStrange_wf lawGreatestStrange_types lawGreatestStrange_inPlace lawGreatestStrange_unfollowed lawGreatestStrange_recurses lawGreatestStrange_named rfl rfl rfl

theorem rowGreatestStrange_holds : Rows.FnExactGreatestStrangeSaid :=
  OpenClaim.holds_of_wide 8 Tryd.f8 rfl rfl rfl rfl rfl rfl rfl ⟨rfl, rfl, rfl, rfl, rfl⟩ rfl rfl rfl rfl rfl lawGreatestStrange_name Tryd.func8 lawGreatestStrange_joined
    (of_decide_eq_true (by kernel_rfl)) lawGreatestStrange_wrap
    (fun os started H enc _ => lawGreatestStrange_lifted os started H enc)
/-- The tied card. -/
theorem exactGreatestStrange_holds : Rows.FnExactGreatestStrangeCardSaid :=
  Claim7.holds_tied_plain_at .later [] [.data] true (true, _) true
    rowGreatestStrange_holds (fun _ h => by cases h) (by kernel_rfl) (fun _ h => by cases h) fnExactGreatestStrange_row_tie rfl ⟨rfl, rfl⟩ (by kernel_rfl) (by kernel_rfl)
    (fun f fn hf hfn => by
      obtain rfl : f = 8 := Option.some.inj (lawGreatestStrange_name.symm.trans hf) |>.symm
      obtain rfl : fn = Tryd.f8 := (Option.some.inj (Tryd.func8.symm.trans hfn)).symm
      exact ⟨by kernel_rfl, fun j t ht => by
        have hall : (Tryd.f8.params.toList.all fun t => Tryd.prog.wantsStandIn t == false) = true := by kernel_rfl
        have hm : t ∈ Tryd.f8.params.toList := by rw [← Array.getElem?_toList] at ht; exact List.mem_of_getElem? ht
        exact (show Tryd.prog.wantsStandIn t = false by simpa using List.all_eq_true.1 hall t hm)⟩)
    (by kernel_rfl)
end Go.Proofs.YtepoabbkalhifaaDoor
