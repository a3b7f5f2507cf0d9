/-
  WHAT A PARTY IS: the reference model's look and the program's, by their contracts: both answer 'isP'.
-/
import Derived.Test.YtgccapdjhnejcaaDoorMark
import Derived.Test.YtgccapdjhnejcaaDoorPure
import Derived.StillTailTactics
import Derived.Deep.RegionWith
namespace Go.Proofs.YtgccapdjhnejcaaDoor
open Go.RowKit

def l1InB (n lo hi : Int) : Bool := decide (lo ≤ n ∧ n ≤ hi)
set_option maxHeartbeats 400000 in
theorem l1In_any (n lo hi : Int) (w : World) : Calls Tryd.prog 63 #[.int .i64 n, .int .i64 lo, .int .i64 hi] w fun e w' => e = .returned (.bool (l1InB n lo hi)) ∧ w = w' := by
  by_cases h1 : lo ≤ n
  · by_cases h2 : n ≤ hi
    · have e : l1InB n lo hi = true := decide_eq_true ⟨h1, h2⟩
      rw [e]
      clear e
      go_enter Tryd.func63, Tryd.ntmps63
      go_wp2
      go_ret
      exact ⟨rfl, rfl⟩
    · have e : l1InB n lo hi = false := decide_eq_false (by omega)
      rw [e]
      clear e
      go_enter Tryd.func63, Tryd.ntmps63
      go_wp2
      go_ret
      exact ⟨rfl, rfl⟩
  · have e : l1InB n lo hi = false := decide_eq_false (by omega)
    rw [e]
    clear e
    go_enter Tryd.func63, Tryd.ntmps63
    go_wp2
    go_ret
    exact ⟨rfl, rfl⟩
theorem l1In_yes (n lo hi : Int) (h : lo ≤ n) (h' : n ≤ hi) (w : World) : Calls Tryd.prog 63 #[.int .i64 n, .int .i64 lo, .int .i64 hi] w fun e w' => e = .returned (.bool true) ∧ w = w' :=
  (l1In_any n lo hi w).mono fun _ _ hh => by rwa [show l1InB n lo hi = true from decide_eq_true ⟨h, h'⟩] at hh
theorem l1In_no (n lo hi : Int) (h : n < lo ∨ hi < n) (w : World) : Calls Tryd.prog 63 #[.int .i64 n, .int .i64 lo, .int .i64 hi] w fun e w' => e = .returned (.bool false) ∧ w = w' :=
  (l1In_any n lo hi w).mono fun _ _ hh => by rwa [show l1InB n lo hi = false from decide_eq_false (by omega)] at hh

set_option maxHeartbeats 400000 in
theorem paPeople_any (n : Int) (w : World) : Calls Tryd.prog 82 #[.int .i64 n] w fun e w' => e = .returned (.bool (l1InB n 0 12)) ∧ w = w' := by
  go_enter Tryd.func82, Tryd.ntmps82
  go_wp2_with (go_at_call 63; refine (l1In_any _ _ _ _).mono ?_; rintro e w' ⟨rfl, rfl⟩)
  go_ret
  exact ⟨rfl, rfl⟩
theorem paPeople_yes (n : Int) (h : 0 ≤ n) (h' : n ≤ 12) (w : World) : Calls Tryd.prog 82 #[.int .i64 n] w fun e w' => e = .returned (.bool true) ∧ w = w' :=
  (paPeople_any n w).mono fun _ _ hh => by rwa [show l1InB n 0 12 = true from decide_eq_true ⟨h, h'⟩] at hh
theorem paPeople_no (n : Int) (h : n < 0 ∨ 12 < n) (w : World) : Calls Tryd.prog 82 #[.int .i64 n] w fun e w' => e = .returned (.bool false) ∧ w = w' :=
  (paPeople_any n w).mono fun _ _ hh => by rwa [show l1InB n 0 12 = false from decide_eq_false (by omega)] at hh

set_option maxHeartbeats 400000 in
theorem paLess_any (a b c d : Int) (w : World) :
    Calls Tryd.prog 95 #[.agg #[.int .i64 a, .int .i64 b], .agg #[.int .i64 c, .int .i64 d]] w fun e w' => e = .returned (.bool (pairLess (a, b) (c, d))) ∧ Below w.heap.size w w' := by
  by_cases h1 : a < c
  · have e : pairLess (a, b) (c, d) = true := decide_eq_true (.inl h1)
    rw [e]
    clear e
    go_enter Tryd.func95, Tryd.ntmps95
    go_wp2
    go_ret
    exact ⟨rfl, by go_grown⟩
  · by_cases h2 : a = c
    · subst h2
      by_cases h3 : b < d
      · have e : pairLess (a, b) (a, d) = true := decide_eq_true (.inr ⟨rfl, h3⟩)
        rw [e]
        clear e
        go_enter Tryd.func95, Tryd.ntmps95
        go_wp2
        go_ret
        exact ⟨rfl, by go_grown⟩
      · have e : pairLess (a, b) (a, d) = false := decide_eq_false (by simp; omega)
        rw [e]
        clear e
        go_enter Tryd.func95, Tryd.ntmps95
        go_wp2
        go_ret
        exact ⟨rfl, by go_grown⟩
    · have e : pairLess (a, b) (c, d) = false := decide_eq_false (by simp; omega)
      rw [e]
      clear e
      go_enter Tryd.func95, Tryd.ntmps95
      go_wp2
      go_ret
      exact ⟨rfl, by go_grown⟩
theorem paLess_yes (a b c d : Int) (h : a < c ∨ a = c ∧ b < d) (w : World) :
    Calls Tryd.prog 95 #[.agg #[.int .i64 a, .int .i64 b], .agg #[.int .i64 c, .int .i64 d]] w fun e w' => e = .returned (.bool true) ∧ Below w.heap.size w w' :=
  (paLess_any a b c d w).mono fun _ _ hh => by rwa [show pairLess (a, b) (c, d) = true from decide_eq_true h] at hh
theorem paLess_no (a b c d : Int) (h : ¬ (a < c ∨ a = c ∧ b < d)) (w : World) :
    Calls Tryd.prog 95 #[.agg #[.int .i64 a, .int .i64 b], .agg #[.int .i64 c, .int .i64 d]] w fun e w' => e = .returned (.bool false) ∧ Below w.heap.size w w' :=
  (paLess_any a b c d w).mono fun _ _ hh => by rwa [show pairLess (a, b) (c, d) = false from decide_eq_false h] at hh

set_option maxHeartbeats 1000000 in
theorem paGood_any (p : Int) (l : PL) (A : Option Addr) (c : Nat) (w : World) (hl : l.length ≤ 1048576) (hA : CRead w w.heap.size A (pcells l)) :
    Calls Tryd.prog 62 #[.agg #[.int .i64 p, .slice A l.length c]] w fun e w' => e = .returned (.bool (isP p l)) ∧ Below w.heap.size w w' := by
  by_cases hp : p < 0 ∨ 12 < p
  · rw [isP_out p l hp]
    go_enter Tryd.func62, Tryd.ntmps62
    go_wp2_with (go_at_call 82; refine (paPeople_no _ hp _).mono ?_; rintro e w' ⟨rfl, rfl⟩)
    go_ret
    exact ⟨rfl, by go_grown⟩
  · obtain ⟨q, hq⟩ : ∃ q, p * (p - 1) = q := ⟨_, rfl⟩
    have hq0 : 0 ≤ q ∧ q ≤ 132 := by rw [← hq]; exact people_sq (by omega) (by omega)
    have hp0 : 0 ≤ p := by omega
    have hp1 : p ≤ 12 := by omega
    obtain ⟨q0, q1⟩ := hq0
    by_cases hmany : q < 2 * (l.length : Int)
    · rw [isP_many (by rw [hq]; exact hmany)]
      have hm' : q / 2 < (l.length : Int) := by omega
      go_enter Tryd.func62, Tryd.ntmps62
      go_wp2_with (go_at_call 82; refine (paPeople_yes _ hp0 hp1 _).mono ?_; rintro e w' ⟨rfl, rfl⟩)
      go_ret
      exact ⟨rfl, by go_grown⟩
    · have hm' : ¬ (q / 2 < (l.length : Int)) := by omega
      generalize hn : l.length = n at *
      have Hn := Lib.hid hn
      clear hn
      go_enter Tryd.func62, Tryd.ntmps62
      go_wp2_with (go_at_call 82; refine (paPeople_yes _ hp0 hp1 _).mono ?_; rintro e w' ⟨rfl, rfl⟩)
      have hbw : Below (w.heap.size + 1) (w.alloc (Obj.cells #[.int .i64 p, .slice A n c] 31)) (w.alloc (Obj.cells #[.int .i64 p, .slice A n c] 31)) := Below.refl _ _
      go_loopw [25] (fun i wr => ∃ k : Nat, k ≤ n ∧ i = .int .i64 k ∧ (∀ j, j < k → goodAt p l j = true) ∧ Below (w.heap.size + 1) (w.alloc (Obj.cells #[.int .i64 p, .slice A n c] 31)) wr) (fun i _ => n - (intOf i).toNat)
      case atStart => exact ⟨0, Nat.zero_le _, rfl, fun j hj => by omega, hbw⟩
      case round =>
        obtain ⟨k, hk, rfl, hgood, hb⟩ := hrel
        have Hgood := Lib.hid hgood
        clear hgood hbw
        have hs := hb.size
        simp only [World.size_alloc] at hs
        have hbw : Below w.heap.size w wr := Below.trans (b := _) (by go_grown) (hb.mono (by omega))
        have u0 : wr.cell? ⟨w.heap.size, 0, none⟩ = some (.int .i64 p) := (hb.cell (p := ⟨w.heap.size, 0, none⟩) (by simp)).trans (by simp)
        have u1 : wr.cell? ⟨w.heap.size, 1, none⟩ = some (.slice A n c) := (hb.cell (p := ⟨w.heap.size, 1, none⟩) (by simp)).trans (by simp)
        by_cases hlt : k < n
        · obtain ⟨⟨x, y⟩, hx⟩ := getSome l k (by rw [Hn.out]; exact hlt)
          obtain ⟨b, off, rfl, hbb, c0, c1⟩ := (hA.below hbw (Nat.le_refl _)).pair hx
          have hki : (k : Int) < (n : Int) := by omega
          have Hx := Lib.hid hx
          clear hx
          have e0 : ∀ z : Ext (wr.heap.size + 1) (wr.alloc (.cells #[.int .i64 x, .int .i64 y] 99)), z.val.cell? ⟨wr.heap.size, 0, none⟩ = some (.int .i64 x) := fun z => z.cell (by simp) (by omega)
          have e1 : ∀ z : Ext (wr.heap.size + 1) (wr.alloc (.cells #[.int .i64 x, .int .i64 y] 99)), z.val.cell? ⟨wr.heap.size, 1, none⟩ = some (.int .i64 y) := fun z => z.cell (by simp) (by omega)
          have z0 : ∀ z : Ext (wr.heap.size + 1) (wr.alloc (.cells #[.int .i64 x, .int .i64 y] 99)), z.val.cell? ⟨w.heap.size, 0, none⟩ = some (.int .i64 p) := fun z => z.cell ((World.cell?_alloc_lt wr _ _ (by simp; omega)).trans u0) (by omega)
          have z1 : ∀ z : Ext (wr.heap.size + 1) (wr.alloc (.cells #[.int .i64 x, .int .i64 y] 99)), z.val.cell? ⟨w.heap.size, 1, none⟩ = some (.slice (some ⟨b, off, none⟩) n c) := fun z => z.cell ((World.cell?_alloc_lt wr _ _ (by simp; omega)).trans u1) (by omega)
          by_cases hA1 : x < 0 ∨ p - 1 < x
          · go_wp2
            refine wp_region_ext (wr.heap.size + 1) (by kernel_rfl) (by kernel_rfl) ?_
            repeat (go_big_quiet_step ((go_at_call 63; exact Calls.ext_of ((l1In_no _ _ _ hA1 _).mono fun _ _ h => ⟨h.1, h.2 ▸ Below.refl _ _⟩))))
            refine wpQuiet_nil ?_
            rintro w1 ⟨⟨_, hb1⟩, rfl⟩
            go_wp2
            go_ret
            refine ⟨?_, hbw.trans (Below.trans (b := _) ((Below.refl _ _).alloc (by omega) _) (hb1.mono (by omega)))⟩
            rw [isP_no p l (i := k) (by rw [Hn.out]; exact hlt) (goodAt_bad Hx.out (by omega))]
            rfl
          · by_cases hA2 : y < x + 1 ∨ p - 1 < y
            · go_wp2
              refine wp_region_ext (wr.heap.size + 1) (by kernel_rfl) (by kernel_rfl) ?_
              repeat (go_big_quiet_step ((first | (go_at_call_of 63 (Value.int IntKind.i64 x); exact Calls.ext_of ((l1In_yes _ _ _ (by omega) (by omega) _).mono fun _ _ h => ⟨h.1, h.2 ▸ Below.refl _ _⟩)) | (go_at_call_of 63 (Value.int IntKind.i64 y); exact Calls.ext_of ((l1In_no _ _ _ hA2 _).mono fun _ _ h => ⟨h.1, h.2 ▸ Below.refl _ _⟩)))))
              refine wpQuiet_nil ?_
              rintro w1 ⟨⟨_, hb1⟩, rfl⟩
              have hb2 : Below (wr.heap.size) wr w1 := Below.trans (b := _) ((Below.refl _ _).alloc (by omega) _) (hb1.mono (by omega))
              go_wp2
              go_ret
              refine ⟨?_, hbw.trans (hb2.mono (by omega))⟩
              rw [isP_no p l (i := k) (by rw [Hn.out]; exact hlt) (goodAt_bad Hx.out (by omega))]
              rfl
            · have hxy : 0 ≤ x ∧ x < y ∧ y < p := by omega
              have y0 : x + 1 ≤ y := by omega
              have y1 : y ≤ p - 1 := by omega
              have x0 : 0 ≤ x := by omega
              have x1 : x ≤ p - 1 := by omega
              by_cases hkz : k = 0
              · have hk0 : decide ((0 : Int) < (k : Int)) = false := by simp [hkz]
                have hk1 : decide (0 < k) = false := by simp [hkz]
                have Hkz := Lib.hid hkz
                clear hkz
                go_wp2
                refine wp_region_ext (wr.heap.size + 1) (by kernel_rfl) (by kernel_rfl) ?_
                repeat (go_big_quiet_step ((first | (go_at_call_of 63 (Value.int IntKind.i64 x); exact Calls.ext_of ((l1In_yes _ _ _ (by omega) (by omega) _).mono fun _ _ h => ⟨h.1, h.2 ▸ Below.refl _ _⟩)) | (go_at_call_of 63 (Value.int IntKind.i64 y); exact Calls.ext_of ((l1In_yes _ _ _ (by omega) (by omega) _).mono fun _ _ h => ⟨h.1, h.2 ▸ Below.refl _ _⟩)))))
                refine wpQuiet_nil ?_
                rintro w1 ⟨⟨_, hb1⟩, rfl⟩
                have hb2 : Below (wr.heap.size) wr w1 := Below.trans (b := _) ((Below.refl _ _).alloc (by omega) _) (hb1.mono (by omega))
                go_wp2
                go_roundw
                case rel =>
                  refine ⟨k + 1, by omega, by go_num, ?_, hb.trans (hb2.mono (by omega))⟩
                  intro j hj
                  rcases Nat.lt_succ_iff_lt_or_eq.1 hj with h | rfl
                  · exact Hgood.out j h
                  · exact goodAt_zero Hkz.out Hx.out hxy
                case measure => simp [intOf]; omega
              · obtain ⟨⟨x', y'⟩, hx'⟩ := getSome l (k - 1) (by rw [Hn.out]; omega)
                obtain ⟨b', off', e', _, c0', c1'⟩ := (hA.below hbw (Nat.le_refl _)).pair hx'
                simp only [Option.some.injEq, Addr.mk.injEq, and_true] at e'
                obtain ⟨rfl, rfl⟩ := e'
                have Hx' := Lib.hid hx'
                clear hx'
                have e2 : ∀ z : Ext (wr.heap.size + 1) (wr.alloc (.cells #[.int .i64 x, .int .i64 y] 99)), z.val.cell? ⟨b, off + (k - 1) * 2, none⟩ = some (.int .i64 x') := fun z => z.cell ((World.cell?_alloc_lt wr _ _ (by simp; omega)).trans c0') (by omega)
                have e3 : ∀ z : Ext (wr.heap.size + 1) (wr.alloc (.cells #[.int .i64 x, .int .i64 y] 99)), z.val.cell? ⟨b, off + (k - 1) * 2 + 1, none⟩ = some (.int .i64 y') := fun z => z.cell ((World.cell?_alloc_lt wr _ _ (by simp; omega)).trans c1') (by omega)
                have hk0 : (0 : Int) < (k : Int) := by omega
                have hk1 : decide ((0 : Int) < (k : Int)) = true := by simp; omega
                have hk2 : 0 < k := by omega
                have hk3 : (0 : Int) ≤ (k : Int) - 1 := by omega
                have hk4 : (k : Int) - 1 < (n : Int) := by omega
                clear hkz
                by_cases hA3 : x' < x ∨ x' = x ∧ y' < y
                · go_wp2
                  refine wp_region_ext (wr.heap.size + 1) (by kernel_rfl) (by kernel_rfl) ?_
                  repeat (go_big_quiet_step ((first | (go_at_call_of 63 (Value.int IntKind.i64 x); exact Calls.ext_of ((l1In_yes _ _ _ (by omega) (by omega) _).mono fun _ _ h => ⟨h.1, h.2 ▸ Below.refl _ _⟩)) | (go_at_call_of 63 (Value.int IntKind.i64 y); exact Calls.ext_of ((l1In_yes _ _ _ (by omega) (by omega) _).mono fun _ _ h => ⟨h.1, h.2 ▸ Below.refl _ _⟩)) | (go_at_call 95; exact Calls.ext_of ((paLess_yes _ _ _ _ hA3 _).mono fun _ _ h => ⟨h.1, h.2.mono (Ext.size' (by simp) _)⟩)))))
                  refine wpQuiet_nil ?_
                  rintro w1 ⟨⟨_, hb1⟩, rfl⟩
                  have hb2 : Below (wr.heap.size) wr w1 := Below.trans (b := _) ((Below.refl _ _).alloc (by omega) _) (hb1.mono (by omega))
                  go_wp2
                  go_roundw
                  case rel =>
                    refine ⟨k + 1, by omega, by go_num, ?_, hb.trans (hb2.mono (by omega))⟩
                    intro j hj
                    rcases Nat.lt_succ_iff_lt_or_eq.1 hj with h | rfl
                    · exact Hgood.out j h
                    · exact goodAt_later hk2 Hx'.out Hx.out hxy hA3
                  case measure => simp [intOf]; omega
                · go_wp2
                  refine wp_region_ext (wr.heap.size + 1) (by kernel_rfl) (by kernel_rfl) ?_
                  repeat (go_big_quiet_step ((first | (go_at_call_of 63 (Value.int IntKind.i64 x); exact Calls.ext_of ((l1In_yes _ _ _ (by omega) (by omega) _).mono fun _ _ h => ⟨h.1, h.2 ▸ Below.refl _ _⟩)) | (go_at_call_of 63 (Value.int IntKind.i64 y); exact Calls.ext_of ((l1In_yes _ _ _ (by omega) (by omega) _).mono fun _ _ h => ⟨h.1, h.2 ▸ Below.refl _ _⟩)) | (go_at_call 95; exact Calls.ext_of ((paLess_no _ _ _ _ hA3 _).mono fun _ _ h => ⟨h.1, h.2.mono (Ext.size' (by simp) _)⟩)))))
                  refine wpQuiet_nil ?_
                  rintro w1 ⟨⟨_, hb1⟩, rfl⟩
                  have hb2 : Below (wr.heap.size) wr w1 := Below.trans (b := _) ((Below.refl _ _).alloc (by omega) _) (hb1.mono (by omega))
                  go_wp2
                  go_ret
                  refine ⟨?_, hbw.trans (hb2.mono (by omega))⟩
                  rw [isP_no p l (i := k) (by rw [Hn.out]; exact hlt) (goodAt_stale' hk2 Hx'.out Hx.out hA3)]
                  rfl
        · have hkl : k = n := by omega
          subst hkl
          have hge : ¬ ((k : Int) < k) := by omega
          go_wp2
          go_ret
          refine ⟨?_, hbw⟩
          rw [isP_of p l hp0 hp1 (fun i hi => Hgood.out i (by rw [Hn.out] at hi; exact hi))]
          rfl
end Go.Proofs.YtgccapdjhnejcaaDoor
