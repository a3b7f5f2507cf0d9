/-
  TIES THAT ARE MISSING ('missing', 'strangersIn'), by their contracts. Written by wip/tools/gen_ties3.py.
-/
import Derived.Test.YtgccapdjhnejcaaDoorCountG
import Derived.Deep.RegionLaw
namespace Go.Proofs.YtgccapdjhnejcaaDoor
open Go.RowKit

def missT (T : Nat → Nat) (n : Nat) : Nat → Nat := fun i => if i < n then (2 ^ n - 1) &&& (65535 - (T i ||| 2 ^ i)) else 0
def strangeF (n : Nat) (t : Nat → Nat → Bool) : Nat → Nat → Bool := fun a b => decide (a < n) && decide (b < n) && decide (a ≠ b) && !t a b
theorem not_bits (x : Nat) (hx : x < 65536) (b : Nat) (hb : b < 16) : (65535 - x).testBit b = !x.testBit b := by
  have := Nat.testBit_two_pow_sub_succ (n := 16) (x := x) hx b
  rw [show 2 ^ 16 - (x + 1) = 65535 - x from by omega] at this
  rw [this]
  simp [hb]
theorem miss_of {T : Nat → Nat} {t : Nat → Nat → Bool} (h : TiesOf T t) {n : Nat} (hn : n ≤ 12) : TiesOf (missT T n) (strangeF n t) := by
  refine ⟨fun a b ha hb => ?_, fun a ha => ?_⟩
  · unfold missT strangeF
    by_cases hlt : a < n
    · rw [if_pos hlt, Nat.testBit_and, Nat.testBit_two_pow_sub_one, not_bits _ (or_lt (h.lt a ha) (by omega)) b hb, Nat.testBit_or, Nat.testBit_two_pow, h.bit a b ha hb]
      by_cases h1 : a = b
      · simp [h1]
      · simp [hlt, h1]
    · rw [if_neg hlt, Nat.zero_testBit]
      simp [hlt]
  · unfold missT
    split
    · have := Nat.and_le_left (n := 2 ^ n - 1) (m := 65535 - (T a ||| 2 ^ a))
      have h2 := two_lt (a := n) (by omega)
      omega
    · omega

set_option maxHeartbeats 4000000 in
set_option maxRecDepth 100000 in
theorem missing_any (T : Nat → Nat) (hT : ∀ i, i < 12 → T i < 65536) (n : Nat) (hn : n ≤ 12) (w : World) :
    Calls Tryd.prog 98 #[.agg (tcells T), .int .i64 n] w fun e w' => e = .returned (.agg (tcells (missT T n))) ∧ Below w.heap.size w w' := by
  obtain ⟨W, hW⟩ : ∃ W, ((w.alloc (Obj.cells (tcells T) 69)).alloc (Obj.cells #[.int .u16 0, .int .u16 0, .int .u16 0, .int .u16 0, .int .u16 0, .int .u16 0, .int .u16 0, .int .u16 0, .int .u16 0, .int .u16 0, .int .u16 0, .int .u16 0] 69)).alloc (Obj.cells #[.int .u16 0, .int .u16 0, .int .u16 0, .int .u16 0, .int .u16 0, .int .u16 0, .int .u16 0, .int .u16 0, .int .u16 0, .int .u16 0, .int .u16 0, .int .u16 0] 69) = W := ⟨_, rfl⟩
  have kW : Below w.heap.size w W := by rw [← hW]; go_grown
  have zW : W.heap.size = w.heap.size + 3 := by rw [← hW]; simp
  have row0 : W.rowIs w.heap.size 69 12 (fun j => .int .u16 (T j)) := by rw [← hW]; exact ((rowIs_u16 w T _).alloc _).alloc _
  have rowR : W.rowIs (w.heap.size + 1) 69 12 (fun _ => .int .u16 0) := by
    rw [← hW]
    have := rowIs_u16 (w.alloc (Obj.cells (tcells T) 69)) (fun _ => 0) 69
    simp only [World.size_alloc] at this
    exact this.alloc _
  have rowU : W.rowIs (w.heap.size + 2) 69 12 (fun _ => .int .u16 0) := by
    rw [← hW]
    have := rowIs_u16 ((w.alloc (Obj.cells (tcells T) 69)).alloc (Obj.cells #[.int .u16 0, .int .u16 0, .int .u16 0, .int .u16 0, .int .u16 0, .int .u16 0, .int .u16 0, .int .u16 0, .int .u16 0, .int .u16 0, .int .u16 0, .int .u16 0] 69)) (fun _ => 0) 69
    simp only [World.size_alloc] at this
    exact this
  obtain ⟨E, hE⟩ : ∃ E, 2 ^ n - 1 = E := ⟨_, rfl⟩
  have hEl : E < 65536 := by have := two_lt (a := n) (by omega); omega
  have ev := fun (X : World) => everybody_any n hn X
  simp only [hE] at ev
  have EV := Lib.hid ev
  have HE := Lib.hid hE
  have R0 := Lib.hid row0
  have RR := Lib.hid rowR
  have RU := Lib.hid rowU
  have HW := Lib.hid hW
  have KW := Lib.hid kW
  clear ev hE row0 rowR rowU hW kW
  unfold tcells at HW ⊢
  go_enter Tryd.func98, Tryd.ntmps98
  go_upto_region 2 with fail
  rw [HW.out]
  go_wp2_with fail
  go_loopw [8] (fun i wr => ∃ a : Nat, a ≤ n ∧ i = .int .i64 a ∧ wr.rowIs (w.heap.size + 2) 69 12 (fun j => .int .u16 ((if j < a then missT T n j else 0 : Nat) : Int)) ∧ Below (w.heap.size + 2) W wr) (fun i _ => n - (intOf i).toNat)
  case atStart => exact ⟨0, Nat.zero_le _, rfl, RU.out.congr fun j _ => by simp, Below.refl _ _⟩
  case round =>
    obtain ⟨a, ha, rfl, rowU, hb⟩ := hrel
    have s0 := hb.size
    by_cases hlt : a < n
    · have hai : (a : Int) < n := by omega
      have ha12 : a < 12 := by omega
      have hai12 : (a : Int) < 12 := by omega
      have row := R0.out.of_block (hb.block w.heap.size (by omega))
      have q0 := row.cell ha12
      have f0 := rowU.frozen a
      have c0 := rowU.cell ha12
      have o1 := or_bit2 (hT a ha12) (show a < 16 by omega)
      have l1 := or_lt (hT a ha12) (show a < 16 by omega)
      have hm : missT T n a = E &&& (65535 - (T a ||| 2 ^ a)) := by unfold missT; rw [if_pos hlt, HE.out]
      obtain ⟨r, hr⟩ : ∃ r, T a ||| 2 ^ a = r := ⟨_, rfl⟩
      rw [hr] at o1 l1 hm
      have o2 := u16_andNot_nat E r hEl l1
      rw [← hm] at o2
      have rowN := rowU.set a (.int .u16 ((missT T n a : Nat) : Int))
      have rowN' : (wr.setCell ⟨w.heap.size + 2, a, none⟩ (.int .u16 ((missT T n a : Nat) : Int))).rowIs (w.heap.size + 2) 69 12 (fun j => .int .u16 ((if j < a + 1 then missT T n j else 0 : Nat) : Int)) := rowN.congr fun j _ => by
        by_cases h : j = a
        · rw [if_pos h, if_pos (by omega), h]
        · rw [if_neg h]
          have : (j < a) ↔ (j < a + 1) := by omega
          simp only [this]
      have kN := hb.setCell (p := ⟨w.heap.size + 2, a, none⟩) (Nat.le_refl _) (.int .u16 ((missT T n a : Nat) : Int))
      generalize missT T n a = s at *
      have kD := hb.drew.setCell (p := ⟨w.heap.size + 2, a, none⟩) (Nat.le_refl _) (.int .u16 (s : Int))
      have KD := Lib.hid kD
      have ROWN := Lib.hid rowN'
      have KN := Lib.hid kN
      clear rowN rowN' kN kD hm hr row rowU hb
      go_wp2
      go_region_law (first
        | (go_simp; go_at_call 67; refine (EV.out _).mono ?_; rintro e w' ⟨rfl, rfl⟩)
        | fail)
      all_goals (go_wp2_with fail)
      all_goals (go_roundw)
      all_goals first
        | exact ⟨a + 1, by omega, by go_num, ROWN.out, KN.out⟩
        | exact ⟨a + 1, by omega, by go_num, ROWN.out, KD.out⟩
        | exact ⟨a + 1, by omega, by go_num, ROWN.out, KN.out.drew⟩
        | (simp [intOf]; omega)
    · have hal : a = n := by omega
      subst hal
      have hge : ¬ ((a : Int) < a) := by omega
      have rowM : wr.rowIs (w.heap.size + 2) 69 12 (fun j => .int .u16 ((missT T a j : Nat) : Int)) := rowU.congr fun j _ => by unfold missT; by_cases h : j < a <;> simp [h]
      have rowR := RR.out.of_block (hb.block _ (by omega))
      have kr : Below w.heap.size w wr := KW.out.trans (hb.mono (by omega))
      obtain ⟨M, hM⟩ : ∃ M, missT T a = M := ⟨_, rfl⟩
      rw [hM] at rowM
      have HM := Lib.hid hM
      clear hM
      clear hb rowU
      have r0 := rowM.cell (i := 0) (by omega)
      have r1 := rowM.cell (i := 1) (by omega)
      have r2 := rowM.cell (i := 2) (by omega)
      have r3 := rowM.cell (i := 3) (by omega)
      have r4 := rowM.cell (i := 4) (by omega)
      have r5 := rowM.cell (i := 5) (by omega)
      have r6 := rowM.cell (i := 6) (by omega)
      have r7 := rowM.cell (i := 7) (by omega)
      have r8 := rowM.cell (i := 8) (by omega)
      have r9 := rowM.cell (i := 9) (by omega)
      have r10 := rowM.cell (i := 10) (by omega)
      have r11 := rowM.cell (i := 11) (by omega)
      have g0 := rowR.cell (i := 0) (by omega)
      have g1 := rowR.cell (i := 1) (by omega)
      have g2 := rowR.cell (i := 2) (by omega)
      have g3 := rowR.cell (i := 3) (by omega)
      have g4 := rowR.cell (i := 4) (by omega)
      have g5 := rowR.cell (i := 5) (by omega)
      have g6 := rowR.cell (i := 6) (by omega)
      have g7 := rowR.cell (i := 7) (by omega)
      have g8 := rowR.cell (i := 8) (by omega)
      have g9 := rowR.cell (i := 9) (by omega)
      have g10 := rowR.cell (i := 10) (by omega)
      have g11 := rowR.cell (i := 11) (by omega)
      have e0 := rowR.frozen 0
      have e1 := rowR.frozen 1
      have e2 := rowR.frozen 2
      have e3 := rowR.frozen 3
      have e4 := rowR.frozen 4
      have e5 := rowR.frozen 5
      have e6 := rowR.frozen 6
      have e7 := rowR.frozen 7
      have e8 := rowR.frozen 8
      have e9 := rowR.frozen 9
      have e10 := rowR.frozen 10
      have e11 := rowR.frozen 11
      have KR := Lib.hid kr
      clear rowM rowR kr
      go_wp2
      refine bodyPost_ret (v := .agg #[.int .u16 (M 0), .int .u16 (M 1), .int .u16 (M 2), .int .u16 (M 3), .int .u16 (M 4), .int .u16 (M 5), .int .u16 (M 6), .int .u16 (M 7), .int .u16 (M 8), .int .u16 (M 9), .int .u16 (M 10), .int .u16 (M 11)]) (by simp [results, Tryd.results98, go_sem, g0, g1, g2, g3, g4, g5, g6, g7, g8, g9, g10, g11]) rfl ?_
      rw [HM.out]
      exact ⟨rfl, ((((((((((((KR.out.setCell (p := ⟨w.heap.size + 1, 0, none⟩) (by simp) _).setCell (p := ⟨w.heap.size + 1, 1, none⟩) (by simp) _).setCell (p := ⟨w.heap.size + 1, 2, none⟩) (by simp) _).setCell (p := ⟨w.heap.size + 1, 3, none⟩) (by simp) _).setCell (p := ⟨w.heap.size + 1, 4, none⟩) (by simp) _).setCell (p := ⟨w.heap.size + 1, 5, none⟩) (by simp) _).setCell (p := ⟨w.heap.size + 1, 6, none⟩) (by simp) _).setCell (p := ⟨w.heap.size + 1, 7, none⟩) (by simp) _).setCell (p := ⟨w.heap.size + 1, 8, none⟩) (by simp) _).setCell (p := ⟨w.heap.size + 1, 9, none⟩) (by simp) _).setCell (p := ⟨w.heap.size + 1, 10, none⟩) (by simp) _).setCell (p := ⟨w.heap.size + 1, 11, none⟩) (by simp) _)⟩

theorem strangersIn_fact {n : Nat} {l : PL} (h : isP n l = true) : TiesOf (missT (friendsT l) n) (strangeF n (adj l)) := miss_of (friendsT_of h) (by have := (isP_range h).2; omega)
end Go.Proofs.YtgccapdjhnejcaaDoor
