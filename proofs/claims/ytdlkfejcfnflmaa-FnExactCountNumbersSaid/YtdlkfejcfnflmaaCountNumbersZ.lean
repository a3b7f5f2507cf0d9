/-
  For every input that can be read, 'laws.FnExactCountNumbers' returns true, and its arguments read afterwards as they read before. Conditions: none.
-/
import Derived.Test.YtdlkfejcfnflmaaFallP1
import Derived.Test.YtdlkfejcfnflmaaFallP3
import Derived.Deep.RegionHeld3
namespace Go.Proofs.Ytdlkfejcfnflmaa
open Go.RowKit

set_option maxHeartbeats 4000000 in
set_option maxRecDepth 100000 in
theorem lawCountNumbers_any (i0 : Int) (W : World)  :
    Calls Try.prog 4 #[.int .i64 i0] W fun e w' => e = .returned (.bool true) ∧ Below W.heap.size W w' := by
  have hone : (0 : Int) ≤ 1 ∧ (1 : Int) ≤ 16777216 := by omega
  obtain ⟨⟨rb, rok⟩, hres⟩ : ∃ r, resCountNumbers i0 = r := ⟨_, rfl⟩
  have Hres := Lib.hid hres
  clear hres
  go_enter Try.func4, Try.ntmps4
  go_wp2_with fail
  refine (specCountNumbers_any i0 _ ).mono ?_
  rw [Hres.out]
  rintro e w1 ⟨rfl, hb1⟩
  have g1 : Below W.heap.size W w1 := hb1
  have s1 := hb1.size
  have k1 : Below W.heap.size W w1 := g1
  go_wp2_with fail
  refine (implCountNumbers_any i0 _ ).mono ?_
  rw [Hres.out]
  rintro e w2 ⟨rfl, hb2⟩
  have g2 : Below w1.heap.size w1 w2 := hb2
  have s2 := hb2.size
  have k2 := k1.trans (g2.mono k1.size)
  go_wp2
  go_ret
  exact ⟨rfl, k2⟩
end Go.Proofs.Ytdlkfejcfnflmaa
namespace Go.Proofs.Ytdlkfejcfnflmaa
open Go.ChangeShapes Go.WideShapes Go.ChangeAt Go.RowKit

set_option maxRecDepth 100000 in
theorem lawCountNumbers_lifted (os : Os) (started : os.Started) (H : Type) (enc : TypeId × Value → H) :
    ReturnsInHanded {} Try.checked os 4 .any (Rows.fnExactCountNumbersSpec.pre6 enc Try.prog Try.f4 Rows.fnExactCountNumbersRow.domain false) (Rows.fnExactCountNumbersSpec.post enc Try.prog Try.f4 false true false false) := by
  refine returnsInHanded_of_change (C := Try.checked) Try.own started (by kernel_rfl) Try.func4
    (ChangeSpec.witness6 (enc := enc) (C := Try.checked) false ⟨#[], #[.int .i64 0], []⟩ 8 (by kernel_rfl) (by kernel_rfl) (by kernel_rfl) (by kernel_rfl)) ?_
  intro W base args ds gs before hval0 hW _ _
  have hval : ∀ (j : Nat) t v, Try.f4.params[j]? = some t → args[j]? = some v → Value.okWide Try.prog W .any base t v := hval0
  have hW' := hW
  obtain ⟨p, q, hA0, hV, rfl, _, _⟩ := hW
  have hA : DataW.TrodAll enc Try.prog W 0 (fun _ => true) true Try.f4.params.toList args.toList ds p := hA0
  rw [Try.params4] at hA hval
  obtain ⟨v0, d0, rfl, rfl, h0⟩ := trodAll_one hA
  obtain ⟨rfl, rfl⟩ := trodVars_none hV
  obtain ⟨x0, rfl, _, _, wf0⟩ := open_int Try.underlying3 (hval 0 _ v0 rfl rfl) h0
  refine (lawCountNumbers_any x0 W ).mono fun e W' ⟨he, hb⟩ => ?_
  subst he
  exact ⟨_, rfl, law_post Try.laidOut (by kernel_rfl) (by kernel_rfl) Try.underlying4 rfl rfl hW' hb⟩

theorem lawCountNumbers_types : typeFacts Try.prog Try.f4 Rows.fnExactCountNumbersSpec Rows.fnExactCountNumbersRow = true := by kernel_rfl
theorem lawCountNumbers_wf : Rows.fnExactCountNumbersRow.wf (OpenSpec.ofChange Rows.fnExactCountNumbersSpec) = true := by kernel_rfl
theorem lawCountNumbers_inPlace : (Rows.fnExactCountNumbersRow.inPlace == Try.prog.inPlace 4) = true := by kernel_rfl
theorem lawCountNumbers_unfollowed : (Rows.fnExactCountNumbersRow.unfollowed == Try.prog.unfollowed 4) = true := by kernel_rfl
theorem lawCountNumbers_recurses : (Rows.fnExactCountNumbersRow.recurses == Try.prog.recurses 4) = true := by kernel_rfl
theorem lawCountNumbers_named : (Rows.fnExactCountNumbersRow.named == Try.prog.varsNamed 4) = true := by kernel_rfl
theorem lawCountNumbers_name : Try.prog.funcNamed Rows.fnExactCountNumbersRow.func = some 4 := by kernel_rfl
theorem lawCountNumbers_wrap : (Try.f4).isWrapper Try.prog Rows.fnExactCountNumbersRow.wrapper Rows.fnExactCountNumbersRow.mainSum := by
  unfold Func.isWrapper
  first | (rw [if_pos (by decide +kernel)]; kernel_rfl) | (rw [if_neg (by decide +kernel)]; exact ⟨rfl, rfl⟩)
theorem lawCountNumbers_joined : joinedFacts Try.prog 4 Try.f4 Rows.fnExactCountNumbersSpec Rows.fnExactCountNumbersRow = true :=
  joined_of lawCountNumbers_wf lawCountNumbers_types lawCountNumbers_inPlace lawCountNumbers_unfollowed lawCountNumbers_recurses lawCountNumbers_named rfl rfl rfl

theorem exactCountNumbers_holds : Rows.FnExactCountNumbersSaid :=
  OpenClaim.holds_of_wide 4 Try.f4 rfl rfl rfl rfl rfl rfl rfl ⟨rfl, rfl, rfl, rfl, rfl⟩ rfl rfl rfl rfl rfl lawCountNumbers_name Try.func4 lawCountNumbers_joined
    (of_decide_eq_true (by kernel_rfl)) lawCountNumbers_wrap
    (fun os started H enc _ => lawCountNumbers_lifted os started H enc)
end Go.Proofs.Ytdlkfejcfnflmaa
