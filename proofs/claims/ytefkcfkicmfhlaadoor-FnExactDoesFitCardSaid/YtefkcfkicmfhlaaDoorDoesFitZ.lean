/-
  For every input that can be read, 'laws.FnExactDoesFit' returns true, and its arguments read afterwards as they read before. Conditions: none.
-/
import Derived.Test.YtefkcfkicmfhlaaDoorDoesFitP9
namespace Go.Proofs.YtefkcfkicmfhlaaDoor
open Go.ChangeShapes Go.WideShapes Go.ChangeAt Go.RowKit

set_option maxRecDepth 100000 in
theorem lawDoesFit_lifted (os : Os) (started : os.Started) (H : Type) (enc : TypeId × Value → H) :
    ReturnsInHanded {} Tryd.checked os 3 .any (fun w args => ((Rows.fnExactDoesFitSpec).pre enc Tryd.prog Tryd.f3 Rows.fnExactDoesFitRow.domain false w args ∧ laidMetH Tryd.prog Rows.fnExactDoesFitRow.laid w) ∧ sizedMet enc Tryd.prog Tryd.f3 (OpenSpec.ofChange Rows.fnExactDoesFitSpec) false w args) (Rows.fnExactDoesFitSpec.post enc Tryd.prog Tryd.f3 false true false false) := by
  refine returnsInHanded_of_change_and (C := Tryd.checked) (X := fun w _ => laidMetH Tryd.prog Rows.fnExactDoesFitRow.laid w) (fun _ _ _ hh h => h.of_heap hh) Tryd.own started (by kernel_rfl) Tryd.func3
    (ChangeSpec.witness_at (enc := enc) (C := Tryd.checked) (os := os) (X := fun w _ => laidMetH Tryd.prog Rows.fnExactDoesFitRow.laid w) false (laidWorld os) #[.agg #[.int .i64 0, .int .i64 0, .int .i64 0], .agg #[.int .i64 0, .slice none 0 0]] 8 rfl (by kernel_rfl) (by kernel_rfl) (by kernel_rfl) (by kernel_rfl) (by kernel_rfl) (laidWorld_met os _)) ?_
  intro W base args ds gs before hval0 hW _ _ hL _
  have hval : ∀ (j : Nat) t v, Tryd.f3.params[j]? = some t → args[j]? = some v → Value.okWide Tryd.prog W .any base t v := hval0
  have hW' := hW
  obtain ⟨p, q, hA0, hV, rfl, _, _⟩ := hW
  have hA : DataW.TrodAll enc Tryd.prog W 0 (fun _ => true) true Tryd.f3.params.toList args.toList ds p := hA0
  rw [Tryd.params3] at hA hval
  obtain ⟨v0, v1, d0, d1, p0, p1, rfl, rfl, rfl, h0, h1⟩ := trodAll_two hA
  obtain ⟨rfl, rfl⟩ := trodVars_none hV
  obtain ⟨ka0, kb0, kc0, rfl⟩ := open_clue (hval 0 _ v0 rfl rfl) h0
  obtain ⟨x1, l1, A1, c1, rfl, hl1, hr1⟩ := open_party (hval 1 _ v1 rfl rfl) h1
  refine (lawDoesFit_any ka0 kb0 kc0 x1 l1 A1 c1 W hl1 hr1 (tab_of_laid hL)).mono fun e W' ⟨he, hb⟩ => ?_
  subst he
  exact ⟨_, rfl, law_post Tryd.laidOut (by kernel_rfl) (by kernel_rfl) Tryd.underlying4 rfl rfl hW' hb⟩

theorem lawDoesFit_types : typeFacts Tryd.prog Tryd.f3 Rows.fnExactDoesFitSpec Rows.fnExactDoesFitRow = true := by kernel_rfl
theorem lawDoesFit_wf : Rows.fnExactDoesFitRow.wf (OpenSpec.ofChange Rows.fnExactDoesFitSpec) = true := by kernel_rfl
theorem lawDoesFit_inPlace : (Rows.fnExactDoesFitRow.inPlace == Tryd.prog.inPlace 3) = true := by kernel_rfl
theorem lawDoesFit_unfollowed : (Rows.fnExactDoesFitRow.unfollowed == Tryd.prog.unfollowed 3) = true := by kernel_rfl
theorem lawDoesFit_recurses : (Rows.fnExactDoesFitRow.recurses == Tryd.prog.recurses 3) = true := by kernel_rfl
theorem lawDoesFit_named : (Rows.fnExactDoesFitRow.named == Tryd.prog.varsNamed 3) = true := by kernel_rfl
theorem lawDoesFit_name : Tryd.prog.funcNamed Rows.fnExactDoesFitRow.func = some 3 := by kernel_rfl
theorem lawDoesFit_wrap : (Tryd.f3).isWrapper Tryd.prog Rows.fnExactDoesFitRow.wrapper Rows.fnExactDoesFitRow.mainSum := by
  unfold Func.isWrapper
  first | (rw [if_pos (by decide +kernel)]; kernel_rfl) | (rw [if_neg (by decide +kernel)]; exact ⟨rfl, rfl⟩)
theorem lawDoesFit_joined : joinedFacts Tryd.prog 3 Tryd.f3 Rows.fnExactDoesFitSpec Rows.fnExactDoesFitRow = true :=
  joined_of lawDoesFit_wf lawDoesFit_types lawDoesFit_inPlace lawDoesFit_unfollowed lawDoesFit_recurses lawDoesFit_named rfl rfl rfl

theorem rowDoesFit_holds : Rows.FnExactDoesFitSaid :=
  OpenClaim.holds_of_wide 3 Tryd.f3 rfl rfl rfl rfl rfl rfl rfl ⟨rfl, rfl, rfl, rfl, rfl⟩ rfl rfl rfl rfl rfl lawDoesFit_name Tryd.func3 lawDoesFit_joined
    (of_decide_eq_true (by kernel_rfl)) lawDoesFit_wrap
    (fun os started H enc _ => lawDoesFit_lifted os started H enc)
/-- The tied card. -/
theorem exactDoesFit_holds : Rows.FnExactDoesFitCardSaid :=
  Claim7.holds_tied_plain_at .later [] [.data] true (true, _) true
    rowDoesFit_holds (fun _ h => by cases h) (by kernel_rfl) (fun _ h => by cases h) fnExactDoesFit_row_tie rfl ⟨rfl, rfl⟩ lawDoesFit_main (by kernel_rfl)
    (fun f fn hf hfn => by
      obtain rfl : f = 3 := Option.some.inj (lawDoesFit_name.symm.trans hf) |>.symm
      obtain rfl : fn = Tryd.f3 := (Option.some.inj (Tryd.func3.symm.trans hfn)).symm
      exact ⟨by kernel_rfl, fun j t ht => by
        have hall : (Tryd.f3.params.toList.all fun t => Tryd.prog.wantsStandIn t == false) = true := by kernel_rfl
        have hm : t ∈ Tryd.f3.params.toList := by rw [← Array.getElem?_toList] at ht; exact List.mem_of_getElem? ht
        exact (show Tryd.prog.wantsStandIn t = false by simpa using List.all_eq_true.1 hall t hm)⟩)
    lawDoesFit_goes
end Go.Proofs.YtefkcfkicmfhlaaDoor
