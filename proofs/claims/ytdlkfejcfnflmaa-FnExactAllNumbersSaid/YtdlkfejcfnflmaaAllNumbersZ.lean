/-
  For every input that can be read, 'laws.FnExactAllNumbers' returns true, and its arguments read afterwards as they read before. Conditions: none.
-/
import Derived.Test.YtdlkfejcfnflmaaFallP1
import Derived.Test.YtdlkfejcfnflmaaFallP3
import Derived.Deep.RegionHeld3
namespace Go.Proofs.Ytdlkfejcfnflmaa
open Go.RowKit

set_option maxHeartbeats 4000000 in
set_option maxRecDepth 100000 in
theorem lawAllNumbers_any (i0 : Int) (W : World)  :
    Calls Try.prog 3 #[.int .i64 i0] W fun e w' => e = .returned (.bool true) ∧ Below W.heap.size W w' := by
  have hone : (0 : Int) ≤ 1 ∧ (1 : Int) ≤ 16777216 := by omega
  obtain ⟨⟨rm, rok⟩, hres⟩ : ∃ r, resAllNumbers i0 = r := ⟨_, rfl⟩
  have hrn : rm.length ≤ 1048576 := by have h := (resAllNumbers_len i0).1; rw [hres] at h; exact h
  have hrs : sumL rm ≤ 1048576 := by have h := (resAllNumbers_len i0).2; rw [hres] at h; exact h
  have hrl : rm.length ≤ maxLen := by unfold maxLen; omega
  have hrr : ∀ l ∈ rm, l.length ≤ maxLen := fun l h => by have := sumL_row h; unfold maxLen; omega
  have hone2 : (0 : Int) ≤ 1 ∧ (1 : Int) ≤ 8388608 := by omega
  have Hres := Lib.hid hres
  clear hres
  go_enter Try.func3, Try.ntmps3
  go_wp2_with fail
  refine (specAllNumbers_any i0 _ ).mono ?_
  rw [Hres.out]
  rintro e w1 ⟨T1, d1, rfl, n1, hb1⟩
  have g1 : Below W.heap.size W w1 := hb1
  have s1 := hb1.size
  have k1 : Below W.heap.size W w1 := g1
  go_wp2_with fail
  refine (implAllNumbers_any i0 _ ).mono ?_
  rw [Hres.out]
  rintro e w2 ⟨T2, d2, R2, C2, rfl, n2, hb2⟩
  have g2 : Below w1.heap.size w1 w2 := hb2
  have s2 := hb2.size
  have m2_0 := n1.below (g2.mono (by omega)) (Nat.le_refl _)
  have k2 := k1.trans (g2.mono k1.size)
  clear n1
  go_wp2_with fail
  refine (eqIntSS_same rm _ _ _ _ _ hrl hrr (RowsL.read n2) (SRead.more m2_0 (by omega))).mono ?_
  rintro e w3 ⟨rfl, hb3⟩
  have g3 : Below w2.heap.size w2 w3 := hb3
  have s3 := hb3.size
  have m3_0 := m2_0.below (g3.mono (by omega)) (Nat.le_refl _)
  have m3_1 := RowsL.below n2 g3
  have k3 := k2.trans (g3.mono k2.size)
  clear m2_0 n2
  go_wp2_with fail
  refine (markIntSS_rows rm _ _ 1 _ _ _ _ hrn hrs hone2 (by omega) m3_1).mono ?_
  rintro e w4 ⟨rfl, n4, hb4⟩
  have s4 := hb4.size
  have k4 := k3.trans (hb4.mono (by have := k3.size; omega))
  have m4_0 := m3_0.below (hb4.mono (by omega)) (Nat.le_refl _)
  clear m3_0 m3_1
  have hmr : ¬ (1 + (sumL rm : Int) < 0) := by omega
  go_wp2_with fail
  refine (heldIntSS_rows rm _ _ 1 _ _ _ _ hrn hrs hone2 n4).mono ?_
  rintro e w5 ⟨rfl, h5⟩
  subst h5
  go_wp2_with fail
  refine (implAllNumbers_any i0 _ ).mono ?_
  rw [Hres.out]
  rintro e w6 ⟨T6, d6, R6, C6, rfl, n6, hb6⟩
  have g6 : Below w4.heap.size w4 w6 := hb6
  have s6 := hb6.size
  have m6_0 := m4_0.below (g6.mono (by omega)) (Nat.le_refl _)
  have m6_1 := MarkedL.below n4 g6
  have k6 := k4.trans (g6.mono k4.size)
  clear m4_0 n4
  have p6 := RowsL.read n6
  go_wp2_with fail
  refine (eqIntSS_same rm _ _ _ _ _ hrl hrr (SRead.more p6 (by omega)) (SRead.more m6_0 (by omega))).mono ?_
  rintro e w7 ⟨rfl, hb7⟩
  have g7 : Below w6.heap.size w6 w7 := hb7
  have s7 := hb7.size
  have m7_0 := m6_0.below (g7.mono (by omega)) (Nat.le_refl _)
  have m7_1 := MarkedL.below m6_1 g7
  have m7_2 := p6.below (g7.mono (by omega)) (Nat.le_refl _)
  have k7 := k6.trans (g7.mono k6.size)
  clear m6_0 m6_1 p6
  go_wp2_with fail
  refine (heldIntSS_rows rm _ _ 1 _ _ _ _ hrn hrs hone2 m7_1).mono ?_
  rintro e w8 ⟨rfl, h8⟩
  subst h8
  go_wp2
  go_ret
  exact ⟨rfl, k7⟩
end Go.Proofs.Ytdlkfejcfnflmaa
namespace Go.Proofs.Ytdlkfejcfnflmaa
open Go.ChangeShapes Go.WideShapes Go.ChangeAt Go.RowKit

set_option maxRecDepth 100000 in
theorem lawAllNumbers_lifted (os : Os) (started : os.Started) (H : Type) (enc : TypeId × Value → H) :
    ReturnsInHanded {} Try.checked os 3 .any (Rows.fnExactAllNumbersSpec.pre6 enc Try.prog Try.f3 Rows.fnExactAllNumbersRow.domain false) (Rows.fnExactAllNumbersSpec.post enc Try.prog Try.f3 false true false false) := by
  refine returnsInHanded_of_change (C := Try.checked) Try.own started (by kernel_rfl) Try.func3
    (ChangeSpec.witness6 (enc := enc) (C := Try.checked) false ⟨#[], #[.int .i64 0], []⟩ 8 (by kernel_rfl) (by kernel_rfl) (by kernel_rfl) (by kernel_rfl)) ?_
  intro W base args ds gs before hval0 hW _ _
  have hval : ∀ (j : Nat) t v, Try.f3.params[j]? = some t → args[j]? = some v → Value.okWide Try.prog W .any base t v := hval0
  have hW' := hW
  obtain ⟨p, q, hA0, hV, rfl, _, _⟩ := hW
  have hA : DataW.TrodAll enc Try.prog W 0 (fun _ => true) true Try.f3.params.toList args.toList ds p := hA0
  rw [Try.params3] at hA hval
  obtain ⟨v0, d0, rfl, rfl, h0⟩ := trodAll_one hA
  obtain ⟨rfl, rfl⟩ := trodVars_none hV
  obtain ⟨x0, rfl, _, _, wf0⟩ := open_int Try.underlying3 (hval 0 _ v0 rfl rfl) h0
  refine (lawAllNumbers_any x0 W ).mono fun e W' ⟨he, hb⟩ => ?_
  subst he
  exact ⟨_, rfl, law_post Try.laidOut (by kernel_rfl) (by kernel_rfl) Try.underlying4 rfl rfl hW' hb⟩

theorem lawAllNumbers_types : typeFacts Try.prog Try.f3 Rows.fnExactAllNumbersSpec Rows.fnExactAllNumbersRow = true := by kernel_rfl
theorem lawAllNumbers_wf : Rows.fnExactAllNumbersRow.wf (OpenSpec.ofChange Rows.fnExactAllNumbersSpec) = true := by kernel_rfl
theorem lawAllNumbers_inPlace : (Rows.fnExactAllNumbersRow.inPlace == Try.prog.inPlace 3) = true := by kernel_rfl
theorem lawAllNumbers_unfollowed : (Rows.fnExactAllNumbersRow.unfollowed == Try.prog.unfollowed 3) = true := by kernel_rfl
theorem lawAllNumbers_recurses : (Rows.fnExactAllNumbersRow.recurses == Try.prog.recurses 3) = true := by kernel_rfl
theorem lawAllNumbers_named : (Rows.fnExactAllNumbersRow.named == Try.prog.varsNamed 3) = true := by kernel_rfl
theorem lawAllNumbers_name : Try.prog.funcNamed Rows.fnExactAllNumbersRow.func = some 3 := by kernel_rfl
theorem lawAllNumbers_wrap : (Try.f3).isWrapper Try.prog Rows.fnExactAllNumbersRow.wrapper Rows.fnExactAllNumbersRow.mainSum := by
  unfold Func.isWrapper
  first | (rw [if_pos (by decide +kernel)]; kernel_rfl) | (rw [if_neg (by decide +kernel)]; exact ⟨rfl, rfl⟩)
theorem lawAllNumbers_joined : joinedFacts Try.prog 3 Try.f3 Rows.fnExactAllNumbersSpec Rows.fnExactAllNumbersRow = true :=
  joined_of lawAllNumbers_wf lawAllNumbers_types lawAllNumbers_inPlace lawAllNumbers_unfollowed lawAllNumbers_recurses lawAllNumbers_named rfl rfl rfl

theorem exactAllNumbers_holds : Rows.FnExactAllNumbersSaid :=
  OpenClaim.holds_of_wide 3 Try.f3 rfl rfl rfl rfl rfl rfl rfl ⟨rfl, rfl, rfl, rfl, rfl⟩ rfl rfl rfl rfl rfl lawAllNumbers_name Try.func3 lawAllNumbers_joined
    (of_decide_eq_true (by kernel_rfl)) lawAllNumbers_wrap
    (fun os started H enc _ => lawAllNumbers_lifted os started H enc)
end Go.Proofs.Ytdlkfejcfnflmaa
