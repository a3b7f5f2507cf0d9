/-
  Texts put together for the claim of 'CouplesParty' (pack 3): OtherP, ShakeS, LawCouplesParty, Leave, Head, Facts.
-/
import Derived.Test.YtgkedgfbncljbaaCouplesPartyP1
import Derived.Test.YtgkedgfbncljbaaCouplesPartyP2
import Derived.Deep.RegionHeld3
import Derived.Conc.Holds
import Derived.Leaving
import Derived.Handed
import Derived.Test.YtgkedgfbncljbaaProg
import Derived.Test.YtgkedgfbncljbaaRows
/-
  'OtherParty' and 'FullParty': the model's and the program's, by their contracts.
-/
namespace Go.Proofs.Ytgkedgfbncljbaa
open Go.RowKit

def resOtherParty (p : Int) (l : PL) : Int × PL × Bool := if isP p l then (p, otherP p.toNat l, true) else (0, [], false)
theorem resOtherParty_len (p : Int) (l : PL) : (resOtherParty p l).2.1.length ≤ 1048576 := by
  unfold resOtherParty
  split
  · rename_i h
    have := isP_range h
    exact Nat.le_trans (filter_length_le (n := p.toNat) (by omega) _) (by omega)
  · simp

end Go.Proofs.Ytgkedgfbncljbaa
/-
  'CouplesParty': the model's, by its contract.
-/
namespace Go.Proofs.Ytgkedgfbncljbaa
open Go.RowKit

theorem tdiv_two' (n : Nat) : Int.tdiv (n : Int) 2 = ((n / 2 : Nat) : Int) := by
  rw [Int.tdiv_eq_ediv_of_nonneg (by omega)]; omega
theorem fillS_hit' {k x K2 n : Nat} (hk1 : 1 ≤ k) (hk : k < 6) (hx : x < 12) (h2 : 2 * k = K2) (h : condB k x = true) (hn : n ≤ 12) : ∀ i j, i < n → j < n → upd (upd (fillS k x) K2 x true) x K2 true i j = fillS k (x + 1) i j := by
  subst h2
  exact fillS_hit hk1 hk hx h hn
set_option maxHeartbeats 4000000 in
set_option maxRecDepth 100000 in
theorem specCouplesParty_any (n : Int) (w : World) : Calls Try.prog 18 #[.int .i64 n] w (GotPartyOk w (resCouplesParty n).1 (resCouplesParty n).2.1 (resCouplesParty n).2.2) := by
  by_cases h : 1 ≤ n ∧ n ≤ 6
  · obtain ⟨c, rfl⟩ : ∃ c : Nat, n = c := ⟨n.toNat, by omega⟩
    have e : resCouplesParty c = (2 * (c : Int), tabP (2 * c) shakeB, true) := if_pos h
    rw [e]
    have h1 := h.1
    have h2 := h.2
    have hp : isP (2 * (c : Int)) [] = true := by simp [isP]; omega
    have hn2 : (2 * (c : Int)).toNat = 2 * c := by omega
    have Hn2 := Lib.hid hn2
    have Hp := Lib.hid hp
    clear hp hn2 h e
    go_enter Try.func18, Try.ntmps18
    go_wp2_with (go_at_call 65; refine (l1In_yes _ 1 6 h1 h2 _).mono ?_; rintro e w' ⟨rfl, rfl⟩)
    go_wp2_with fail
    refine (paTable_any (2 * (c : Int)) [] none 0 _ Hp.out CRead.nil).mono ?_
    rw [Hn2.out, adj_nil]
    obtain ⟨N, hN⟩ : ∃ N, 2 * c = N := ⟨_, rfl⟩
    rw [hN]
    rintro e w3 ⟨A4, c4, G, rfl, tab4, hb4⟩
    simp only [World.size_alloc] at tab4 hb4
    have s4 := hb4.size
    simp only [World.size_alloc] at s4
    have tab5 : TabG w3 (w.heap.size + 1) (.slice A4 N c4) N N G (fillS 1 0) := by rw [show fillS 1 0 = fun _ _ => false from by funext i j; exact fillS_start i j]; exact tab4
    have HN := Lib.hid hN
    have Tab5 := Lib.hid tab5
    have Hb4 := Lib.hid hb4
    have hc6 : c ≤ 6 := by omega
    have hN12 : N ≤ 12 := by omega
    have hNc : (N : Int) = 2 * (c : Int) := by omega
    have HNc := Lib.hid hNc
    clear tab5 tab4 hb4 hN hNc
    go_wp2
    go_loopw [5] (fun i wr => ∃ k : Nat, 1 ≤ k ∧ k ≤ c ∧ i = .int .i64 k ∧ TabG wr (w.heap.size + 1) (.slice A4 N c4) N N G (fillS k 0) ∧ Below (w.heap.size + 1) (w.alloc (Obj.cells #[.int .i64 0, .slice none 0 0] 24)) wr) (fun i _ => c - (intOf i).toNat)
    case atStart => exact ⟨1, Nat.le_refl _, by omega, rfl, Tab5.out, Hb4.out⟩
    case round =>
      clear Tab5 Hb4 s4
      obtain ⟨k, hk1, hk, rfl, tab, hbt⟩ := hrel
      by_cases hlt : k < c
      · have hki : (k : Int) < (c : Int) := by omega
        obtain ⟨K2, hK2⟩ : ∃ K2 : Nat, 2 * k = K2 := ⟨_, rfl⟩
        have hKi : (2 : Int) * (k : Int) = (K2 : Int) := by omega
        have hK2N : K2 < N := by have := HN.out; omega
        have HK2 := Lib.hid hK2
        have Tab := Lib.hid tab
        have Hbt := Lib.hid hbt
        clear tab hbt hK2
        go_wp2
        go_loopw [22] (fun i wz => ∃ x : Nat, x ≤ N ∧ i = .int .i64 x ∧ TabG wz (w.heap.size + 1) (.slice A4 N c4) N N G (fillS k x) ∧ Below (w.heap.size + 1) (w.alloc (Obj.cells #[.int .i64 0, .slice none 0 0] 24)) wz) (fun i _ => N - (intOf i).toNat)
        case atStart => exact ⟨0, Nat.zero_le _, rfl, Tab.out, Hbt.out⟩
        case round =>
          clear Tab Hbt
          obtain ⟨x, hxn, rfl, tab, hbt⟩ := hrel
          by_cases hxN : x < N
          · have hxi : (x : Int) < (N : Int) := by omega
            have hKNi : (K2 : Int) < (N : Int) := by omega
            obtain ⟨g, rfl⟩ := own_form tab.own (by omega)
            have hG1 := tab.blk hK2N
            have hG2 := tab.blk hxN
            obtain ⟨y, hy⟩ : ∃ y, x / 2 = y := ⟨_, rfl⟩
            have hd : Int.tdiv (x : Int) 2 = (y : Int) := by rw [tdiv_two', hy]
            have hcd : condB k x = (decide (y ≠ k) && (decide (x % 2 = 0) || decide (x = 1) || decide (k < y))) := by rw [← hy]; rfl
            have hy12 : (y : Int) ≤ 12 := by omega
            have Hcd := Lib.hid hcd
            clear hcd hy
            by_cases hyk : y = k
            · subst hyk
              have Hc := Lib.hid (show condB y x = false by rw [Hcd.out]; simp)
              have hn : ((y : Int) != (y : Int)) = false := by simp
              clear Hcd
              have t2 := tab.congr (fillS_miss (n := N) (by omega) (by omega) Hc.out (by omega))
              have T2 := Lib.hid t2
              clear t2 tab
              go_wp2
              go_roundw
              case rel => exact ⟨x + 1, by omega, by go_num, T2.out, hbt⟩
              case measure => simp [intOf]; omega
            · have hn : ((y : Int) != (k : Int)) = true := by simp; omega
              rcases tmod_cases x with ⟨ho, hm⟩ | ⟨ho, hm⟩
              · have Hc := Lib.hid (show condB k x = true by rw [Hcd.out]; simp [hyk, ho])
                clear Hcd ho
                have t1 := tab.set (b := x) hK2N true
                have t2 := (t1.set (b := K2) hxN true).congr (fillS_hit' (by omega) (by omega) (by omega) HK2.out Hc.out (by omega))
                have d0 := tab.outer hK2N
                have d1 := tab.cell hK2N hxN
                have d2 := tab.frozen hK2N x
                have d3 := t1.outer hxN
                have d4 := t1.cell hxN hK2N
                have d5 := t1.frozen hxN K2
                have b2 := (hbt.setCell (p := ⟨G K2, x, none⟩) hG1.1 (.bool true)).setCell (p := ⟨G x, K2, none⟩) hG2.1 (.bool true)
                have T2 := Lib.hid t2
                have B2 := Lib.hid b2
                clear t1 t2 b2 tab hbt
                go_wp2
                go_roundw
                case rel => exact ⟨x + 1, by omega, by go_num, T2.out, B2.out⟩
                case measure => simp [intOf]; omega
              · by_cases hx1 : x = 1
                · have Hc := Lib.hid (show condB k x = true by rw [Hcd.out]; simp [hyk, hx1])
                  have hx1i : ((x : Int) == 1) = true := by simp; omega
                  clear Hcd ho hx1
                  have t1 := tab.set (b := x) hK2N true
                  have t2 := (t1.set (b := K2) hxN true).congr (fillS_hit' (by omega) (by omega) (by omega) HK2.out Hc.out (by omega))
                  have d0 := tab.outer hK2N
                  have d1 := tab.cell hK2N hxN
                  have d2 := tab.frozen hK2N x
                  have d3 := t1.outer hxN
                  have d4 := t1.cell hxN hK2N
                  have d5 := t1.frozen hxN K2
                  have b2 := (hbt.setCell (p := ⟨G K2, x, none⟩) hG1.1 (.bool true)).setCell (p := ⟨G x, K2, none⟩) hG2.1 (.bool true)
                  have T2 := Lib.hid t2
                  have B2 := Lib.hid b2
                  clear t1 t2 b2 tab hbt
                  go_wp2
                  go_roundw
                  case rel => exact ⟨x + 1, by omega, by go_num, T2.out, B2.out⟩
                  case measure => simp [intOf]; omega
                · have hx1i : ((x : Int) == 1) = false := by simp; omega
                  by_cases hky : k < y
                  · have Hc := Lib.hid (show condB k x = true by rw [Hcd.out]; simp [hyk, hky])
                    have hkyi : (k : Int) < (y : Int) := by omega
                    clear Hcd ho hx1 hky
                    have t1 := tab.set (b := x) hK2N true
                    have t2 := (t1.set (b := K2) hxN true).congr (fillS_hit' (by omega) (by omega) (by omega) HK2.out Hc.out (by omega))
                    have d0 := tab.outer hK2N
                    have d1 := tab.cell hK2N hxN
                    have d2 := tab.frozen hK2N x
                    have d3 := t1.outer hxN
                    have d4 := t1.cell hxN hK2N
                    have d5 := t1.frozen hxN K2
                    have b2 := (hbt.setCell (p := ⟨G K2, x, none⟩) hG1.1 (.bool true)).setCell (p := ⟨G x, K2, none⟩) hG2.1 (.bool true)
                    have T2 := Lib.hid t2
                    have B2 := Lib.hid b2
                    clear t1 t2 b2 tab hbt
                    go_wp2
                    go_roundw
                    case rel => exact ⟨x + 1, by omega, by go_num, T2.out, B2.out⟩
                    case measure => simp [intOf]; omega
                  · have Hc := Lib.hid (show condB k x = false by rw [Hcd.out]; simp [hx1, hky, ho])
                    have hkyi : ¬ (k : Int) < (y : Int) := by omega
                    clear Hcd ho hx1 hky
                    have t2 := tab.congr (fillS_miss (n := N) (by omega) (by omega) Hc.out (by omega))
                    have T2 := Lib.hid t2
                    clear t2 tab
                    go_wp2
                    go_roundw
                    case rel => exact ⟨x + 1, by omega, by go_num, T2.out, hbt⟩
                    case measure => simp [intOf]; omega
          · have hxe : x = N := by omega
            have hge : ¬ ((x : Int) < (N : Int)) := by omega
            have t2 := tab.congr (t' := fillS (k + 1) 0) (fun i j hi hj => by
              have h0 := HN.out
              subst h0
              rw [hxe]
              exact fillS_row hc6 (by omega) i j hi hj)
            have T2 := Lib.hid t2
            clear t2 tab
            go_wp2
            go_roundw
            case rel => exact ⟨k + 1, by omega, by omega, by go_num, T2.out, hbt⟩
            case measure => simp [intOf]; omega
      · have hkc : k = c := by omega
        subst hkc
        have hge : ¬ ((k : Int) < (k : Int)) := by omega
        have htp : tabP N (fillS k 0) = tabP N shakeB := tabP_congr fun i j hij hj => fillS_done hc6 hij (by have := HN.out; omega)
        have Htp := Lib.hid htp
        have hsz := hbt.size
        simp only [World.size_alloc] at hsz
        have x0 : wr.cell? ⟨w.heap.size, 0, none⟩ = some (.int .i64 0) := carry hbt (by simp) (by omega)
        have x1 : wr.cell? ⟨w.heap.size, 1, none⟩ = some (.slice none 0 0) := carry hbt (by simp) (by omega)
        have x2 : wr.frozen? ⟨w.heap.size, 0, none⟩ = false := (hbt.frozen (p := ⟨w.heap.size, 0, none⟩) (by simp)).trans (by simp)
        have x3 : wr.frozen? ⟨w.heap.size, 1, none⟩ = false := (hbt.frozen (p := ⟨w.heap.size, 1, none⟩) (by simp)).trans (by simp)
        have kw : Below w.heap.size w wr := Below.trans (b := _) (by go_grown) (hbt.mono (by omega))
        clear hbt htp
        go_wp2_with fail
        refine (paOf_any N (fillS k 0) A4 c4 G (w.heap.size + 1) _ hN12 tab).mono ?_
        rw [Htp.out]
        rintro e w5 ⟨A2, c2, rfl, own2, hb2⟩
        have u0 := carry hb2 x0 (by omega)
        have u1 := carry hb2 x1 (by omega)
        have u2 := (hb2.frozen (p := ⟨w.heap.size, 0, none⟩) (by simp; omega)).trans x2
        have u3 := (hb2.frozen (p := ⟨w.heap.size, 1, none⟩) (by simp; omega)).trans x3
        have k5 := kw.trans (hb2.mono kw.size)
        have s5 := hb2.size
        have Own2 := Lib.hid own2
        have K5 := Lib.hid k5
        clear x0 x1 x2 x3 own2 hb2 kw k5 tab
        go_wp2
        refine bodyPost_ret (v := .tuple #[.agg #[.int .i64 (N : Int), .slice A2 (tabP N shakeB).length c2], .bool true]) (by simp [results, Try.results18, go_sem, u0, u1]) rfl ?_
        rw [← HNc.out, HN.out]
        exact ⟨A2, c2, rfl, own_lower (ownsRow_setCell_below (ownsRow_setCell_below Own2.out (a := ⟨w.heap.size, 0, none⟩) (by simp; omega) _) (a := ⟨w.heap.size, 1, none⟩) (by simp; omega) _) (by omega),
          (K5.out.setCell (p := ⟨w.heap.size, 0, none⟩) (by simp) _).setCell (p := ⟨w.heap.size, 1, none⟩) (by simp) _⟩
  · have e : resCouplesParty n = (0, [], false) := if_neg h
    rw [e]
    clear e
    go_enter Try.func18, Try.ntmps18
    go_wp2_with (go_at_call 65; refine (l1In_no _ 1 6 (by omega) _).mono ?_; rintro e w' ⟨rfl, rfl⟩)
    refine bodyPost_ret (v := .tuple #[.agg #[.int .i64 0, .slice none 0 0], .bool false]) (by simp [results, Try.results18, go_sem]) rfl ?_
    exact ⟨none, 0, rfl, World.ownsRow_nil _ _ _ _, by go_grown⟩
end Go.Proofs.Ytgkedgfbncljbaa
/-
  'laws.FnExactCouplesParty' returns true, whatever its arguments: out of the contracts of the model's function and of the program's.
-/
namespace Go.Proofs.Ytgkedgfbncljbaa
open Go.RowKit

set_option maxHeartbeats 4000000 in
set_option maxRecDepth 100000 in
theorem lawCouplesParty_any (i0 : Int) (W : World)  :
    Calls Try.prog 3 #[.int .i64 i0] W fun e w' => e = .returned (.bool true) ∧ Below W.heap.size W w' := by
  have hone : (0 : Int) ≤ 1 ∧ (1 : Int) ≤ 16777216 := by omega
  obtain ⟨⟨rq, rm, rok⟩, hres⟩ : ∃ r, resCouplesParty i0 = r := ⟨_, rfl⟩
  have hrn : rm.length ≤ 1048576 := by have h := resCouplesParty_len i0; rw [hres] at h; exact h
  have hrl : rm.length ≤ maxLen := by unfold maxLen; omega
  have Hres := Lib.hid hres
  clear hres
  go_enter Try.func3, Try.ntmps3
  go_wp2_with fail
  refine (specCouplesParty_any i0 _ ).mono ?_
  rw [Hres.out]
  rintro e w1 ⟨T1, d1, rfl, n1, hb1⟩
  have g1 : Below W.heap.size W w1 := hb1
  have s1 := hb1.size
  have k1 : Below W.heap.size W w1 := g1
  have r1 : Lies (.slice T1 rm.length d1) (W.heap.size) w1.heap.size := own_lies n1
  go_wp2_with fail
  refine (implCouplesParty_any i0 _ ).mono ?_
  rw [Hres.out]
  rintro e w3 ⟨T3, d3, rfl, n3, hb3⟩
  simp only [World.size_alloc] at n3
  simp only [World.size_alloc] at hb3
  have g3 : Below w1.heap.size w1 w3 := Below.trans (b := _) (by go_grown) (hb3.mono (by omega))
  have s3 := hb3.size
  simp only [World.size_alloc] at s3
  have f3_0 : w3.cell? ⟨w1.heap.size, 0, none⟩ = some (.int .i64 rq) := carry hb3 (by simp) (by omega)
  have f3_1 : w3.cell? ⟨w1.heap.size, 1, none⟩ = some (.slice T1 rm.length d1) := carry hb3 (by simp) (by omega)
  have o3_0 := own_below n1 g3 (Nat.le_refl _)
  have k3 := k1.trans (g3.mono k1.size)
  clear n1
  have r3 : Lies (.slice T3 rm.length d3) (w1.heap.size + 1) w3.heap.size := own_lies n3
  have q4_0 : (w3.alloc (Obj.cells #[.int .i64 rq, .slice T3 rm.length d3] 24)).cell? ⟨w1.heap.size, 0, none⟩ = some (.int .i64 rq) := (World.cell?_alloc_lt _ _ _ (show w1.heap.size < w3.heap.size by omega)).trans f3_0
  have q4_1 : (w3.alloc (Obj.cells #[.int .i64 rq, .slice T3 rm.length d3] 24)).cell? ⟨w1.heap.size, 1, none⟩ = some (.slice T1 rm.length d1) := (World.cell?_alloc_lt _ _ _ (show w1.heap.size < w3.heap.size by omega)).trans f3_1
  go_wp2_with fail
  refine (eqParty_any rq rq rm rm _ _ _ _ _ hrl hrl ((((CRead.of_own n3).below (B' := w3.heap.size) (by go_grown) (Nat.le_refl _)).more (by go_size))) ((((CRead.of_own o3_0).below (B' := w3.heap.size) (by go_grown) (Nat.le_refl _)).more (by go_size)))).mono ?_
  rw [decide_eq_true ⟨rfl, rfl⟩]
  rintro e w5 ⟨rfl, hb5⟩
  simp only [World.size_alloc] at hb5
  have g5 : Below w3.heap.size w3 w5 := Below.trans (b := _) (by go_grown) (hb5.mono (by omega))
  have s5 := hb5.size
  simp only [World.size_alloc] at s5
  have f5_0 := carry g5 f3_0 (by omega)
  have f5_1 := carry g5 f3_1 (by omega)
  have f5_2 : w5.cell? ⟨w3.heap.size, 0, none⟩ = some (.int .i64 rq) := carry hb5 (by simp) (by omega)
  have f5_3 : w5.cell? ⟨w3.heap.size, 1, none⟩ = some (.slice T3 rm.length d3) := carry hb5 (by simp) (by omega)
  have o5_0 := own_below o3_0 g5 (Nat.le_refl _)
  have o5_1 := own_below n3 g5 (Nat.le_refl _)
  have k5 := k3.trans (g5.mono k3.size)
  clear f3_0 f3_1 o3_0 n3 q4_0 q4_1
  go_wp2_with fail
  refine (markParty_any rq rm _ _ _ 1 _ _ rfl hrn hone o5_1).mono ?_
  rintro e w6 ⟨rfl, n6, hg6⟩
  have s6 := hg6.size
  have f6_0 := carryG hg6 r3 f5_0 (by omega)
  have f6_1 := carryG hg6 r3 f5_1 (by omega)
  have f6_2 := carryG hg6 r3 f5_2 (by omega)
  have f6_3 := carryG hg6 r3 f5_3 (by omega)
  have o6_0 := keptG hg6 r3 o5_0 r1 (by omega)
  have k6 := belowG k5 hg6 r3 k5.size (by omega)
  clear f5_0 f5_1 f5_2 f5_3 o5_0 o5_1
  have hmr : ¬ (1 + 2 * (rm.length : Int) < 0) := by omega
  go_wp2_with fail
  refine (heldParty_any _ _ _ _ 1 _ hrn hone (CRead.of_own n6)).mono ?_
  rintro e w7 ⟨rfl, hb7⟩
  have g7 : Below w6.heap.size w6 w7 := hb7
  have s7 := hb7.size
  have f7_0 := carry g7 f6_0 (by omega)
  have f7_1 := carry g7 f6_1 (by omega)
  have f7_2 := carry g7 f6_2 (by omega)
  have f7_3 := carry g7 f6_3 (by omega)
  have o7_0 := own_below o6_0 g7 (Nat.le_refl _)
  have o7_1 := own_below n6 g7 (Nat.le_refl _)
  have k7 := k6.trans (g7.mono k6.size)
  clear f6_0 f6_1 f6_2 f6_3 o6_0 n6
  go_wp2_with fail
  refine (implCouplesParty_any i0 _ ).mono ?_
  rw [Hres.out]
  rintro e w8 ⟨T8, d8, rfl, n8, hb8⟩
  have g8 : Below w7.heap.size w7 w8 := hb8
  have s8 := hb8.size
  have f8_0 := carry g8 f7_0 (by omega)
  have f8_1 := carry g8 f7_1 (by omega)
  have f8_2 := carry g8 f7_2 (by omega)
  have f8_3 := carry g8 f7_3 (by omega)
  have o8_0 := own_below o7_0 g8 (Nat.le_refl _)
  have o8_1 := own_below o7_1 g8 (Nat.le_refl _)
  have k8 := k7.trans (g8.mono k7.size)
  clear f7_0 f7_1 f7_2 f7_3 o7_0 o7_1
  have r8 : Lies (.slice T8 rm.length d8) (w7.heap.size) w8.heap.size := own_lies n8
  have q9_0 : (w8.alloc (Obj.cells #[.int .i64 rq, .slice T8 rm.length d8] 24)).cell? ⟨w1.heap.size, 0, none⟩ = some (.int .i64 rq) := (World.cell?_alloc_lt _ _ _ (show w1.heap.size < w8.heap.size by omega)).trans f8_0
  have q9_1 : (w8.alloc (Obj.cells #[.int .i64 rq, .slice T8 rm.length d8] 24)).cell? ⟨w1.heap.size, 1, none⟩ = some (.slice T1 rm.length d1) := (World.cell?_alloc_lt _ _ _ (show w1.heap.size < w8.heap.size by omega)).trans f8_1
  have q9_2 : (w8.alloc (Obj.cells #[.int .i64 rq, .slice T8 rm.length d8] 24)).cell? ⟨w3.heap.size, 0, none⟩ = some (.int .i64 rq) := (World.cell?_alloc_lt _ _ _ (show w3.heap.size < w8.heap.size by omega)).trans f8_2
  have q9_3 : (w8.alloc (Obj.cells #[.int .i64 rq, .slice T8 rm.length d8] 24)).cell? ⟨w3.heap.size, 1, none⟩ = some (.slice T3 rm.length d3) := (World.cell?_alloc_lt _ _ _ (show w3.heap.size < w8.heap.size by omega)).trans f8_3
  go_wp2_with fail
  refine (eqParty_any rq rq rm rm _ _ _ _ _ hrl hrl ((((CRead.of_own n8).below (B' := w8.heap.size) (by go_grown) (Nat.le_refl _)).more (by go_size))) ((((CRead.of_own o8_0).below (B' := w8.heap.size) (by go_grown) (Nat.le_refl _)).more (by go_size)))).mono ?_
  rw [decide_eq_true ⟨rfl, rfl⟩]
  rintro e w10 ⟨rfl, hb10⟩
  simp only [World.size_alloc] at hb10
  have g10 : Below w8.heap.size w8 w10 := Below.trans (b := _) (by go_grown) (hb10.mono (by omega))
  have s10 := hb10.size
  simp only [World.size_alloc] at s10
  have f10_0 := carry g10 f8_0 (by omega)
  have f10_1 := carry g10 f8_1 (by omega)
  have f10_2 := carry g10 f8_2 (by omega)
  have f10_3 := carry g10 f8_3 (by omega)
  have f10_4 : w10.cell? ⟨w8.heap.size, 0, none⟩ = some (.int .i64 rq) := carry hb10 (by simp) (by omega)
  have f10_5 : w10.cell? ⟨w8.heap.size, 1, none⟩ = some (.slice T8 rm.length d8) := carry hb10 (by simp) (by omega)
  have o10_0 := own_below o8_0 g10 (Nat.le_refl _)
  have o10_1 := own_below o8_1 g10 (Nat.le_refl _)
  have o10_2 := own_below n8 g10 (Nat.le_refl _)
  have k10 := k8.trans (g10.mono k8.size)
  clear f8_0 f8_1 f8_2 f8_3 o8_0 o8_1 n8 q9_0 q9_1 q9_2 q9_3
  go_wp2_with fail
  refine (heldParty_any _ _ _ _ 1 _ hrn hone (CRead.of_own o10_1)).mono ?_
  rintro e w11 ⟨rfl, hb11⟩
  have g11 : Below w10.heap.size w10 w11 := hb11
  have s11 := hb11.size
  have f11_0 := carry g11 f10_0 (by omega)
  have f11_1 := carry g11 f10_1 (by omega)
  have f11_2 := carry g11 f10_2 (by omega)
  have f11_3 := carry g11 f10_3 (by omega)
  have f11_4 := carry g11 f10_4 (by omega)
  have f11_5 := carry g11 f10_5 (by omega)
  have o11_0 := own_below o10_0 g11 (Nat.le_refl _)
  have o11_1 := own_below o10_1 g11 (Nat.le_refl _)
  have o11_2 := own_below o10_2 g11 (Nat.le_refl _)
  have k11 := k10.trans (g11.mono k10.size)
  clear f10_0 f10_1 f10_2 f10_3 f10_4 f10_5 o10_0 o10_1 o10_2
  go_wp2
  go_ret
  exact ⟨rfl, k11⟩
end Go.Proofs.Ytgkedgfbncljbaa
/-
  A CALL THAT RUNS ALONE, AT A ROW THAT WOULD LET OTHERS BE LEAVING: what holds of it alone holds there, too.
-/
namespace Go.Proofs.Ytgkedgfbncljbaa
open Go.Conc

theorem leaving_of_handed {a : Assume} {C : Checked} {os : Os} {f : FuncId} {r : Reach} {Pre : World → Array Value → Prop} {Post : World → Array Value → Value → World → Prop}
    (h : ReturnsInHanded a C os f r Pre Post) : ReturnsInLeavingWide a C os f r Pre Post :=
  fun enter => ReturnsInOpen.mono (fun _ _ _ x => ⟨x.2.1, onlyLeaving_of_quiet x.1, x.2.2⟩) (fun _ x => x) (h enter)
end Go.Proofs.Ytgkedgfbncljbaa
/-
  THE PROGRAM's HEAD, LOOKED AT ONCE: which make it is, and that a call may enter it. (The head's text is long: the kernel must not read it twice.)
-/
namespace Go.Proofs.Ytgkedgfbncljbaa

theorem make_of {P : Program} {rest : List (List Char)} (h : behindMainWord (wordsSigns P.initOrder.toList) = "cut".toList :: rest) : P.make = some .cut := by
  unfold Program.make
  rw [h]
  rfl
theorem strip_cut (rest : List (List Char)) : stripLifts liftWords ("cut".toList :: rest) = ([], "cut".toList :: rest) := rfl
theorem lifts_of {P : Program} {rest : List (List Char)} (h : behindMainWord (wordsSigns P.initOrder.toList) = "cut".toList :: rest) : P.headLifts = [] := by
  unfold Program.headLifts
  rw [h, strip_cut]
  rfl
theorem final_of {P : Program} {rest : List (List Char)} (h : behindMainWord (wordsSigns P.initOrder.toList) = "cut".toList :: rest) : P.liftsFinal = false := by
  unfold Program.liftsFinal
  rw [lifts_of h, h]
  rfl
theorem enter_of {P : Program} {rest : List (List Char)} (h : behindMainWord (wordsSigns P.initOrder.toList) = "cut".toList :: rest) (h1 : P.laysLater = false) (h2 : P.bearsReflect = false) (h3 : P.doorFits [] = true) : P.mayEnter = true := by
  unfold Program.mayEnter
  rw [h]
  show (_ || _ || _) = true
  rw [strip_cut, h1, h2, h3]
  rfl
end Go.Proofs.Ytgkedgfbncljbaa
/-
  THE PROGRAM's CLOSED FACTS, EACH ONCE; and how a row's facts are put together out of them.
-/
namespace Go.Proofs.Ytgkedgfbncljbaa
open Go.ChangeShapes Go.WideShapes Go.ChangeAt Go.RowKit

def headSigns : List Char := ([104, 97, 114, 110, 101, 115, 115, 32, 101, 55, 102, 51, 56, 98, 52, 99, 56, 52, 101, 50, 52, 55, 100, 53, 55, 53, 52, 101, 101, 51, 99, 55, 55, 100, 100, 100, 52, 97, 57, 101, 49, 49, 56, 97, 50, 100, 56, 53, 49, 101, 48, 48, 48, 56, 100, 101, 54, 100, 49, 48, 57, 102, 53, 50, 50, 55, 49, 51, 56, 55, 100, 101, 32, 99, 117, 116, 32, 97, 116, 32, 108, 111, 111, 112, 46, 101, 120, 97, 109, 112, 108, 101, 47, 103, 48, 49, 50, 53, 55, 47, 108, 97, 119, 115, 46, 70, 110, 69, 120, 97, 99, 116, 67, 111, 117, 112, 108, 101, 115, 80, 97, 114, 116, 121, 32, 108, 111, 111, 112, 46, 101, 120, 97, 109, 112, 108, 101, 47, 103, 48, 49, 50, 53, 55, 47, 108, 97, 119, 115, 46, 70, 110, 69, 120, 97, 99, 116, 65, 114, 101, 67, 111, 117, 112, 108, 101, 115, 32, 108, 111, 111, 112, 46, 101, 120, 97, 109, 112, 108, 101, 47, 103, 48, 49, 50, 53, 55, 47, 108, 97, 119, 115, 46, 70, 110, 69, 120, 97, 99, 116, 84, 111, 108, 100, 78, 117, 109, 98, 101, 114, 115, 32, 108, 111, 111, 112, 46, 101, 120, 97, 109, 112, 108, 101, 47, 103, 48, 49, 50, 53, 55, 47, 108, 97, 119, 115, 46, 70, 110, 69, 120, 97, 99, 116, 83, 112, 111, 117, 115, 101, 78, 117, 109, 98, 101, 114, 32, 108, 111, 111, 112, 46, 101, 120, 97, 109, 112, 108, 101, 47, 103, 48, 49, 50, 53, 55, 47, 108, 97, 119, 115, 46, 70, 110, 69, 120, 97, 99, 116, 73, 115, 70, 97, 109, 101, 32, 108, 111, 111, 112, 46, 101, 120, 97, 109, 112, 108, 101, 47, 103, 48, 49, 50, 53, 55, 47, 108, 97, 119, 115, 46, 70, 110, 69, 120, 97, 99, 116, 83, 116, 97, 114, 79, 102, 32, 108, 111, 111, 112, 46, 101, 120, 97, 109, 112, 108, 101, 47, 103, 48, 49, 50, 53, 55, 47, 108, 97, 119, 115, 46, 70, 110, 69, 120, 97, 99, 116, 81, 117, 101, 115, 116, 105, 111, 110, 115, 70, 111, 114, 83, 116, 97, 114, 32, 108, 111, 111, 112, 46, 101, 120, 97, 109, 112, 108, 101, 47, 103, 48, 49, 50, 53, 55, 47, 108, 97, 119, 115, 46, 70, 110, 69, 120, 97, 99, 116, 65, 114, 101, 67, 97, 108, 108, 115, 32, 108, 111, 111, 112, 46, 101, 120, 97, 109, 112, 108, 101, 47, 103, 48, 49, 50, 53, 55, 47, 108, 97, 119, 115, 46, 70, 110, 69, 120, 97, 99, 116, 65, 108, 108, 75, 110, 111, 119, 65, 108, 108, 32, 108, 111, 111, 112, 46, 101, 120, 97, 109, 112, 108, 101, 47, 103, 48, 49, 50, 53, 55, 47, 108, 97, 119, 115, 46, 70, 110, 69, 120, 97, 99, 116, 70, 101, 119, 101, 115, 116, 67, 97, 108, 108, 115, 32, 108, 111, 111, 112, 46, 101, 120, 97, 109, 112, 108, 101, 47, 103, 48, 49, 50, 53, 55, 47, 108, 97, 119, 115, 46, 70, 110, 69, 120, 97, 99, 116, 71, 111, 115, 115, 105, 112, 67, 97, 108, 108, 115, 32, 108, 111, 111, 112, 46, 101, 120, 97, 109, 112, 108, 101, 47, 103, 48, 49, 50, 53, 55, 47, 108, 97, 119, 115, 46, 70, 110, 69, 120, 97, 99, 116, 85, 115, 101, 108, 101, 115, 115, 67, 97, 108, 108, 115, 32, 108, 111, 111, 112, 46, 101, 120, 97, 109, 112, 108, 101, 47, 103, 48, 49, 50, 53, 55, 47, 108, 97, 119, 115, 46, 70, 110, 69, 120, 97, 99, 116, 70, 105, 114, 115, 116, 72, 101, 97, 114, 100, 32, 108, 111, 111, 112, 46, 101, 120, 97, 109, 112, 108, 101, 47, 103, 48, 49, 50, 53, 55, 47, 108, 97, 119, 115, 46, 70, 110, 69, 120, 97, 99, 116, 82, 111, 117, 110, 100, 115, 70, 111, 114, 65, 108, 108, 32, 108, 111, 111, 112, 46, 101, 120, 97, 109, 112, 108, 101, 47, 103, 48, 49, 50, 53, 55, 47, 108, 97, 119, 115, 46, 70, 110, 69, 120, 97, 99, 116, 82, 111, 117, 110, 100, 67, 97, 108, 108, 115] : List Nat).map Char.ofNat
set_option maxRecDepth 100000 in
theorem Try.initOrder_is : Try.prog.initOrder = String.ofList headSigns := by kernel_rfl
theorem Try.initOrder_signs : Try.prog.initOrder.toList = headSigns := by rw [Try.initOrder_is]; exact String.toList_ofList
set_option maxRecDepth 100000 in
theorem head_words : (behindMainWord (wordsSigns headSigns)).take 1 = ["cut".toList] := by kernel_rfl
theorem Try.words : ∃ rest, behindMainWord (wordsSigns Try.prog.initOrder.toList) = "cut".toList :: rest := by
  rw [Try.initOrder_signs]
  have h := List.take_append_drop 1 (behindMainWord (wordsSigns headSigns))
  rw [head_words] at h
  exact ⟨_, h.symm⟩
theorem Try.make : Try.prog.make = some .cut := by obtain ⟨_, h⟩ := Try.words; exact make_of h
theorem Try.liftsFinal : Try.prog.liftsFinal = false := by obtain ⟨_, h⟩ := Try.words; exact final_of h
theorem Try.laysLater : Try.prog.laysLater = false := by kernel_rfl
theorem Try.bearsReflect : Try.prog.bearsReflect = false := by kernel_rfl
theorem Try.doorFits : Try.prog.doorFits [] = true := by kernel_rfl
theorem Try.mayEnter : Try.prog.mayEnter = true := by obtain ⟨_, h⟩ := Try.words; exact enter_of h Try.laysLater Try.bearsReflect Try.doorFits
theorem Try.mapsRowed : mapsRowed Try.prog = true := by kernel_rfl
theorem Try.stops : (Try.prog.stops == []) = true := by kernel_rfl
theorem Try.stopKnobs : (Try.prog.stopKnobs == []) = true := by kernel_rfl
theorem Try.plainKeys : Try.prog.plainKeys = true := by kernel_rfl
theorem Try.stopsHeard : Try.prog.stopsHeard = true := by kernel_rfl

/-- What the types of one law give: closed facts on its parameters and its result. -/
def typeFacts (P : Program) (fn : Func) (s : ChangeSpec) (c : OpenClaim) : Bool :=
  fn.params.all (P.readableRec ·) && namedTie P c.named s.vars && (c.stops == []) && (c.knobs == []) &&
  (c.maps == (fn.params.toList ++ s.plain.varTypes P).any (P.mapsRec ·)) && (c.ifaces == (fn.params.toList ++ s.plain.varTypes P).any (P.ifacesRec ·)) && (c.mapsOut == P.mapsAmong fn.resultTypes.toList) &&
  (c.loops == (fn.params.toList ++ s.plain.varTypes P).any (P.loopsFrom ·)) && (c.wideKeys == (fn.params.toList ++ s.plain.varTypes P ++ fn.resultTypes.toList).any (P.wideKeysFrom ·)) &&
  s.vars.all (P.varReadable ·) && fn.resultTypes.all (fun t => P.readableRec t && decide (t < P.types.size)) && (c.ifacesOut == fn.resultTypes.toList.any (P.ifacesRec ·)) && (c.loopsOut == fn.resultTypes.toList.any (P.loopsFrom ·)) && c.shortTexts.isNone &&
  (c.kinds == (if c.domain.isEmpty then [] else fn.params.toList.map fun t => match P.underlying t with | some (.int k) => some k | _ => none)) && (c.pinned == c.pinnedBy) &&
  (c.veiled == (fn.params.toList ++ s.plain.varTypes P ++ fn.resultTypes.toList).any (P.veiledRec ·)) && c.veiledFits P fn.params.toList (fn.params.toList ++ s.plain.varTypes P ++ fn.resultTypes.toList)
theorem joined_all {P : Program} {f : FuncId} {fn : Func} {s : ChangeSpec} {c : OpenClaim} (k1 : c.wf (OpenSpec.ofChange s) = true) (kt : typeFacts P fn s c = true)
    (k10 : (c.inPlace == P.inPlace f) = true) (k11 : (c.unfollowed == P.unfollowed f) = true) (k12 : (c.recurses == P.recurses f) = true) (k13 : (c.named == P.varsNamed f) = true)
    (e2 : laidOutB P = true) (e3 : mapsRowed P = true) (e7 : (P.stops == []) = true) (e9 : (P.stopKnobs == []) = true) (e22 : (c.plainKeys == P.plainKeys) = true) (e23 : P.stopsHeard = true) (e24 : P.mayEnter = true)
    (e24b : (c.lifted == P.liftsFinal) = true) (e24c : (P.make == some c.make) = true) : joinedFacts P f fn s c = true := by
  unfold typeFacts at kt
  unfold joinedFacts
  simp only [Bool.and_eq_true] at kt ⊢
  obtain ⟨⟨⟨⟨⟨⟨⟨⟨⟨⟨⟨⟨⟨⟨⟨⟨⟨t1, t2⟩, t3⟩, t4⟩, t5⟩, t6⟩, t7⟩, t8⟩, t9⟩, t10⟩, t11⟩, t12⟩, t13⟩, t14⟩, t15⟩, t16⟩, t17⟩, t18⟩ := kt
  exact ⟨⟨⟨⟨⟨⟨⟨⟨⟨⟨⟨⟨⟨⟨⟨⟨⟨⟨⟨⟨⟨⟨⟨⟨⟨⟨⟨⟨⟨⟨⟨k1, e2⟩, e3⟩, t1⟩, t2⟩, t3⟩, e7⟩, t4⟩, e9⟩, k10⟩, k11⟩, k12⟩, k13⟩, t5⟩, t6⟩, t7⟩, t8⟩, t9⟩, t10⟩, t11⟩, t12⟩, t13⟩, e22⟩, t14⟩, e23⟩, e24⟩, e24b⟩, e24c⟩, t15⟩, t16⟩, t17⟩, t18⟩
theorem joined_of {f : FuncId} {fn : Func} {s : ChangeSpec} {c : OpenClaim} (k1 : c.wf (OpenSpec.ofChange s) = true) (kt : typeFacts Try.prog fn s c = true)
    (k10 : (c.inPlace == Try.prog.inPlace f) = true) (k11 : (c.unfollowed == Try.prog.unfollowed f) = true) (k12 : (c.recurses == Try.prog.recurses f) = true) (k13 : (c.named == Try.prog.varsNamed f) = true)
    (k22 : c.plainKeys = true) (k24b : c.lifted = false) (k24c : c.make = .cut) : joinedFacts Try.prog f fn s c = true :=
  joined_all k1 kt k10 k11 k12 k13 Try.laidOut Try.mapsRowed Try.stops Try.stopKnobs (by rw [k22, Try.plainKeys]; rfl) Try.stopsHeard Try.mayEnter (by rw [k24b, Try.liftsFinal]; rfl) (by rw [k24c, Try.make]; rfl)
end Go.Proofs.Ytgkedgfbncljbaa
