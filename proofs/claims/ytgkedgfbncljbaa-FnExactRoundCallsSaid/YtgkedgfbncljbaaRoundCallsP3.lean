/-
  Texts put together for the claim of 'RoundCalls' (pack 3): RoundS, LawRoundCalls, Head, Facts.
-/
import Derived.Test.YtgkedgfbncljbaaRoundCallsP1
import Derived.Test.YtgkedgfbncljbaaRoundCallsP2
import Derived.Deep.RegionHeld3
import Derived.Test.YtgkedgfbncljbaaRows
/-
  'RoundCalls': the model's, by its contract.
-/
namespace Go.Proofs.Ytgkedgfbncljbaa
open Go.RowKit

set_option maxHeartbeats 16000000 in
set_option maxRecDepth 100000 in
theorem specRoundCalls_any (n : Int) (w : World) : Calls Try.prog 63 #[.int .i64 n] w (GotPairsOk w (resRoundCalls n).1 (resRoundCalls n).2) := by
  by_cases h : 0 ≤ n ∧ n ≤ 3
  · obtain ⟨i0, hi, hz0, hz1, hz2⟩ := info_parts Try.infoPair
    have e : resRoundCalls n = (roundC n.toNat n.toNat 0, true) := if_pos h
    rw [e]
    have h0 := h.1
    have h3 := h.2
    clear e
    have d1 : decide (n < 0) = false := decide_eq_false (by omega)
    have d2 : decide (3 < n) = false := decide_eq_false (by omega)
    go_enter Try.func63, Try.ntmps63
    go_wp2_with (go_at_call 65; refine (l1In_yes _ 0 3 (by omega) (by omega) _).mono ?_; rintro e w' ⟨rfl, rfl⟩)
    go_loopw [4, 5] (fun v i wr => ∃ k : Int, 0 ≤ k ∧ k ≤ n ∧ i = .int .i64 k ∧ wr.ownsRow w.heap.size 71 2 v (roundC n.toNat k.toNat 0).length (pcells (roundC n.toNat k.toNat 0)) ∧ Below w.heap.size w wr) (fun _ i _ => 3 - (intOf i).toNat)
    case atStart => exact ⟨0, by omega, h0, rfl, World.ownsRow_nil _ _ _ _, Below.refl _ _⟩
    case round =>
      obtain ⟨k, hk0, hk, rfl, hown, hb⟩ := hrel
      by_cases hlt : k < n
      · have hc : (n = 1 ∧ k = 0) ∨ (n = 2 ∧ k = 0) ∨ (n = 2 ∧ k = 1) ∨ (n = 3 ∧ k = 0) ∨ (n = 3 ∧ k = 1) ∨ (n = 3 ∧ k = 2) := by omega
        clear h d1 d2
        have Hown := Lib.hid hown
        have Hb := Lib.hid hb
        clear hown hb
        rcases hc with ⟨rfl, rfl⟩ | ⟨rfl, rfl⟩ | ⟨rfl, rfl⟩ | ⟨rfl, rfl⟩ | ⟨rfl, rfl⟩ | ⟨rfl, rfl⟩
        · go_wp2
          go_loopw [4, 6] (fun v i wx => ∃ a : Int, 0 ≤ a ∧ a ≤ 2 ∧ i = .int .i64 a ∧ wx.ownsRow w.heap.size 71 2 v (roundC 1 0 a.toNat).length (pcells (roundC 1 0 a.toNat)) ∧ Below w.heap.size w wx) (fun _ i _ => 8 - (intOf i).toNat)
          case atStart => exact ⟨0, by omega, by omega, rfl, Hown.out, Hb.out⟩
          case round =>
            clear Hown Hb
            obtain ⟨a, ha0, ha, rfl, hown, hb⟩ := hrel
            have hs := hb.size
            by_cases hlt2 : a < 2
            · have h40 : (roundC 1 0 a.toNat).length ≤ 40 := roundC_len ⟨1, by decide⟩ ⟨0, by decide⟩ ⟨a.toNat, by omega⟩
              generalize hL : roundC 1 0 a.toNat = L at hown h40
              have HL := Lib.hid hL
              clear hL
              have hc : a = 0 ∨ a = 1 := by omega
              clear ha0 ha hlt2
              rcases hc with rfl | rfl
              · go_wp2_with (at_builtin; refine wpList_append_own _ rfl _ _ 22 rfl w.heap.size 71 i0 _ 2 16 Try.underlying22 hi hz0 hz1 hz2 rfl (by decide) _ _ _ rfl (hown.alloc _) ⟨wr.heap.size, 0, none⟩ 1 1 [.int .i64 0, .int .i64 1] rfl rfl (two_cells (by simp) (by simp)) (two_one rfl rfl) (by unfold maxLen; omega) (by omega) (by simp; omega) ?_; intro v1 w3 hown3 hg3 _; obtain ⟨A1, d1', rfl, _⟩ := own_shape hown3)
                go_roundw
                case rel =>
                  refine ⟨1, by omega, by omega, by go_num, ?_, ((hb.alloc (by omega) _).grown hg3 (by simp; omega) (fun k hk => (hown.lt k hk).1))⟩
                  rw [show roundC 1 0 (Int.toNat 1) = L ++ [(0, 1)] from by rw [← HL.out]; decide, pcells_append, List.length_append]
                  exact hown3
                case measure => simp [intOf]
              · go_wp2
                go_roundw
                case rel =>
                  refine ⟨2, by omega, by omega, by go_num, ?_, hb⟩
                  rw [show roundC 1 0 (Int.toNat 2) = L from by rw [← HL.out]; decide]
                  exact hown
                case measure => simp [intOf]
            · have ham : a = 2 := by omega
              subst ham
              have Hown := Lib.hid hown
              clear hown
              go_wp2
              go_roundw
              case rel =>
                refine ⟨1, by omega, by omega, by go_num, ?_, hb⟩
                rw [show roundC (Int.toNat 1) (Int.toNat 1) 0 = roundC 1 0 (Int.toNat 2) from by decide]
                exact Hown.out
              case measure => simp [intOf]
        · go_wp2
          go_loopw [4, 6] (fun v i wx => ∃ a : Int, 0 ≤ a ∧ a ≤ 4 ∧ i = .int .i64 a ∧ wx.ownsRow w.heap.size 71 2 v (roundC 2 0 a.toNat).length (pcells (roundC 2 0 a.toNat)) ∧ Below w.heap.size w wx) (fun _ i _ => 8 - (intOf i).toNat)
          case atStart => exact ⟨0, by omega, by omega, rfl, Hown.out, Hb.out⟩
          case round =>
            clear Hown Hb
            obtain ⟨a, ha0, ha, rfl, hown, hb⟩ := hrel
            have hs := hb.size
            by_cases hlt2 : a < 4
            · have h40 : (roundC 2 0 a.toNat).length ≤ 40 := roundC_len ⟨2, by decide⟩ ⟨0, by decide⟩ ⟨a.toNat, by omega⟩
              generalize hL : roundC 2 0 a.toNat = L at hown h40
              have HL := Lib.hid hL
              clear hL
              have hc : a = 0 ∨ a = 1 ∨ a = 2 ∨ a = 3 := by omega
              clear ha0 ha hlt2
              rcases hc with rfl | rfl | rfl | rfl
              · go_wp2_with (at_builtin; refine wpList_append_own _ rfl _ _ 22 rfl w.heap.size 71 i0 _ 2 16 Try.underlying22 hi hz0 hz1 hz2 rfl (by decide) _ _ _ rfl (hown.alloc _) ⟨wr.heap.size, 0, none⟩ 1 1 [.int .i64 0, .int .i64 1] rfl rfl (two_cells (by simp) (by simp)) (two_one rfl rfl) (by unfold maxLen; omega) (by omega) (by simp; omega) ?_; intro v1 w3 hown3 hg3 _; obtain ⟨A1, d1', rfl, _⟩ := own_shape hown3)
                go_roundw
                case rel =>
                  refine ⟨1, by omega, by omega, by go_num, ?_, ((hb.alloc (by omega) _).grown hg3 (by simp; omega) (fun k hk => (hown.lt k hk).1))⟩
                  rw [show roundC 2 0 (Int.toNat 1) = L ++ [(0, 1)] from by rw [← HL.out]; decide, pcells_append, List.length_append]
                  exact hown3
                case measure => simp [intOf]
              · go_wp2
                go_roundw
                case rel =>
                  refine ⟨2, by omega, by omega, by go_num, ?_, hb⟩
                  rw [show roundC 2 0 (Int.toNat 2) = L from by rw [← HL.out]; decide]
                  exact hown
                case measure => simp [intOf]
              · go_wp2_with (at_builtin; refine wpList_append_own _ rfl _ _ 22 rfl w.heap.size 71 i0 _ 2 16 Try.underlying22 hi hz0 hz1 hz2 rfl (by decide) _ _ _ rfl (hown.alloc _) ⟨wr.heap.size, 0, none⟩ 1 1 [.int .i64 2, .int .i64 3] rfl rfl (two_cells (by simp) (by simp)) (two_one rfl rfl) (by unfold maxLen; omega) (by omega) (by simp; omega) ?_; intro v1 w3 hown3 hg3 _; obtain ⟨A1, d1', rfl, _⟩ := own_shape hown3)
                go_roundw
                case rel =>
                  refine ⟨3, by omega, by omega, by go_num, ?_, ((hb.alloc (by omega) _).grown hg3 (by simp; omega) (fun k hk => (hown.lt k hk).1))⟩
                  rw [show roundC 2 0 (Int.toNat 3) = L ++ [(2, 3)] from by rw [← HL.out]; decide, pcells_append, List.length_append]
                  exact hown3
                case measure => simp [intOf]
              · go_wp2
                go_roundw
                case rel =>
                  refine ⟨4, by omega, by omega, by go_num, ?_, hb⟩
                  rw [show roundC 2 0 (Int.toNat 4) = L from by rw [← HL.out]; decide]
                  exact hown
                case measure => simp [intOf]
            · have ham : a = 4 := by omega
              subst ham
              have Hown := Lib.hid hown
              clear hown
              go_wp2
              go_roundw
              case rel =>
                refine ⟨1, by omega, by omega, by go_num, ?_, hb⟩
                rw [show roundC (Int.toNat 2) (Int.toNat 1) 0 = roundC 2 0 (Int.toNat 4) from by decide]
                exact Hown.out
              case measure => simp [intOf]
        · go_wp2
          go_loopw [4, 6] (fun v i wx => ∃ a : Int, 0 ≤ a ∧ a ≤ 4 ∧ i = .int .i64 a ∧ wx.ownsRow w.heap.size 71 2 v (roundC 2 1 a.toNat).length (pcells (roundC 2 1 a.toNat)) ∧ Below w.heap.size w wx) (fun _ i _ => 8 - (intOf i).toNat)
          case atStart => exact ⟨0, by omega, by omega, rfl, Hown.out, Hb.out⟩
          case round =>
            clear Hown Hb
            obtain ⟨a, ha0, ha, rfl, hown, hb⟩ := hrel
            have hs := hb.size
            by_cases hlt2 : a < 4
            · have h40 : (roundC 2 1 a.toNat).length ≤ 40 := roundC_len ⟨2, by decide⟩ ⟨1, by decide⟩ ⟨a.toNat, by omega⟩
              generalize hL : roundC 2 1 a.toNat = L at hown h40
              have HL := Lib.hid hL
              clear hL
              have hc : a = 0 ∨ a = 1 ∨ a = 2 ∨ a = 3 := by omega
              clear ha0 ha hlt2
              rcases hc with rfl | rfl | rfl | rfl
              · go_wp2_with (at_builtin; refine wpList_append_own _ rfl _ _ 22 rfl w.heap.size 71 i0 _ 2 16 Try.underlying22 hi hz0 hz1 hz2 rfl (by decide) _ _ _ rfl (hown.alloc _) ⟨wr.heap.size, 0, none⟩ 1 1 [.int .i64 0, .int .i64 2] rfl rfl (two_cells (by simp) (by simp)) (two_one rfl rfl) (by unfold maxLen; omega) (by omega) (by simp; omega) ?_; intro v1 w3 hown3 hg3 _; obtain ⟨A1, d1', rfl, _⟩ := own_shape hown3)
                go_roundw
                case rel =>
                  refine ⟨1, by omega, by omega, by go_num, ?_, ((hb.alloc (by omega) _).grown hg3 (by simp; omega) (fun k hk => (hown.lt k hk).1))⟩
                  rw [show roundC 2 1 (Int.toNat 1) = L ++ [(0, 2)] from by rw [← HL.out]; decide, pcells_append, List.length_append]
                  exact hown3
                case measure => simp [intOf]
              · go_wp2_with (at_builtin; refine wpList_append_own _ rfl _ _ 22 rfl w.heap.size 71 i0 _ 2 16 Try.underlying22 hi hz0 hz1 hz2 rfl (by decide) _ _ _ rfl (hown.alloc _) ⟨wr.heap.size, 0, none⟩ 1 1 [.int .i64 1, .int .i64 3] rfl rfl (two_cells (by simp) (by simp)) (two_one rfl rfl) (by unfold maxLen; omega) (by omega) (by simp; omega) ?_; intro v1 w3 hown3 hg3 _; obtain ⟨A1, d1', rfl, _⟩ := own_shape hown3)
                go_roundw
                case rel =>
                  refine ⟨2, by omega, by omega, by go_num, ?_, ((hb.alloc (by omega) _).grown hg3 (by simp; omega) (fun k hk => (hown.lt k hk).1))⟩
                  rw [show roundC 2 1 (Int.toNat 2) = L ++ [(1, 3)] from by rw [← HL.out]; decide, pcells_append, List.length_append]
                  exact hown3
                case measure => simp [intOf]
              · go_wp2
                go_roundw
                case rel =>
                  refine ⟨3, by omega, by omega, by go_num, ?_, hb⟩
                  rw [show roundC 2 1 (Int.toNat 3) = L from by rw [← HL.out]; decide]
                  exact hown
                case measure => simp [intOf]
              · go_wp2
                go_roundw
                case rel =>
                  refine ⟨4, by omega, by omega, by go_num, ?_, hb⟩
                  rw [show roundC 2 1 (Int.toNat 4) = L from by rw [← HL.out]; decide]
                  exact hown
                case measure => simp [intOf]
            · have ham : a = 4 := by omega
              subst ham
              have Hown := Lib.hid hown
              clear hown
              go_wp2
              go_roundw
              case rel =>
                refine ⟨2, by omega, by omega, by go_num, ?_, hb⟩
                rw [show roundC (Int.toNat 2) (Int.toNat 2) 0 = roundC 2 1 (Int.toNat 4) from by decide]
                exact Hown.out
              case measure => simp [intOf]
        · go_wp2
          go_loopw [4, 6] (fun v i wx => ∃ a : Int, 0 ≤ a ∧ a ≤ 8 ∧ i = .int .i64 a ∧ wx.ownsRow w.heap.size 71 2 v (roundC 3 0 a.toNat).length (pcells (roundC 3 0 a.toNat)) ∧ Below w.heap.size w wx) (fun _ i _ => 8 - (intOf i).toNat)
          case atStart => exact ⟨0, by omega, by omega, rfl, Hown.out, Hb.out⟩
          case round =>
            clear Hown Hb
            obtain ⟨a, ha0, ha, rfl, hown, hb⟩ := hrel
            have hs := hb.size
            by_cases hlt2 : a < 8
            · have h40 : (roundC 3 0 a.toNat).length ≤ 40 := roundC_len ⟨3, by decide⟩ ⟨0, by decide⟩ ⟨a.toNat, by omega⟩
              generalize hL : roundC 3 0 a.toNat = L at hown h40
              have HL := Lib.hid hL
              clear hL
              have hc : a = 0 ∨ a = 1 ∨ a = 2 ∨ a = 3 ∨ a = 4 ∨ a = 5 ∨ a = 6 ∨ a = 7 := by omega
              clear ha0 ha hlt2
              rcases hc with rfl | rfl | rfl | rfl | rfl | rfl | rfl | rfl
              · go_wp2_with (at_builtin; refine wpList_append_own _ rfl _ _ 22 rfl w.heap.size 71 i0 _ 2 16 Try.underlying22 hi hz0 hz1 hz2 rfl (by decide) _ _ _ rfl (hown.alloc _) ⟨wr.heap.size, 0, none⟩ 1 1 [.int .i64 0, .int .i64 1] rfl rfl (two_cells (by simp) (by simp)) (two_one rfl rfl) (by unfold maxLen; omega) (by omega) (by simp; omega) ?_; intro v1 w3 hown3 hg3 _; obtain ⟨A1, d1', rfl, _⟩ := own_shape hown3)
                go_roundw
                case rel =>
                  refine ⟨1, by omega, by omega, by go_num, ?_, ((hb.alloc (by omega) _).grown hg3 (by simp; omega) (fun k hk => (hown.lt k hk).1))⟩
                  rw [show roundC 3 0 (Int.toNat 1) = L ++ [(0, 1)] from by rw [← HL.out]; decide, pcells_append, List.length_append]
                  exact hown3
                case measure => simp [intOf]
              · go_wp2
                go_roundw
                case rel =>
                  refine ⟨2, by omega, by omega, by go_num, ?_, hb⟩
                  rw [show roundC 3 0 (Int.toNat 2) = L from by rw [← HL.out]; decide]
                  exact hown
                case measure => simp [intOf]
              · go_wp2_with (at_builtin; refine wpList_append_own _ rfl _ _ 22 rfl w.heap.size 71 i0 _ 2 16 Try.underlying22 hi hz0 hz1 hz2 rfl (by decide) _ _ _ rfl (hown.alloc _) ⟨wr.heap.size, 0, none⟩ 1 1 [.int .i64 2, .int .i64 3] rfl rfl (two_cells (by simp) (by simp)) (two_one rfl rfl) (by unfold maxLen; omega) (by omega) (by simp; omega) ?_; intro v1 w3 hown3 hg3 _; obtain ⟨A1, d1', rfl, _⟩ := own_shape hown3)
                go_roundw
                case rel =>
                  refine ⟨3, by omega, by omega, by go_num, ?_, ((hb.alloc (by omega) _).grown hg3 (by simp; omega) (fun k hk => (hown.lt k hk).1))⟩
                  rw [show roundC 3 0 (Int.toNat 3) = L ++ [(2, 3)] from by rw [← HL.out]; decide, pcells_append, List.length_append]
                  exact hown3
                case measure => simp [intOf]
              · go_wp2
                go_roundw
                case rel =>
                  refine ⟨4, by omega, by omega, by go_num, ?_, hb⟩
                  rw [show roundC 3 0 (Int.toNat 4) = L from by rw [← HL.out]; decide]
                  exact hown
                case measure => simp [intOf]
              · go_wp2_with (at_builtin; refine wpList_append_own _ rfl _ _ 22 rfl w.heap.size 71 i0 _ 2 16 Try.underlying22 hi hz0 hz1 hz2 rfl (by decide) _ _ _ rfl (hown.alloc _) ⟨wr.heap.size, 0, none⟩ 1 1 [.int .i64 4, .int .i64 5] rfl rfl (two_cells (by simp) (by simp)) (two_one rfl rfl) (by unfold maxLen; omega) (by omega) (by simp; omega) ?_; intro v1 w3 hown3 hg3 _; obtain ⟨A1, d1', rfl, _⟩ := own_shape hown3)
                go_roundw
                case rel =>
                  refine ⟨5, by omega, by omega, by go_num, ?_, ((hb.alloc (by omega) _).grown hg3 (by simp; omega) (fun k hk => (hown.lt k hk).1))⟩
                  rw [show roundC 3 0 (Int.toNat 5) = L ++ [(4, 5)] from by rw [← HL.out]; decide, pcells_append, List.length_append]
                  exact hown3
                case measure => simp [intOf]
              · go_wp2
                go_roundw
                case rel =>
                  refine ⟨6, by omega, by omega, by go_num, ?_, hb⟩
                  rw [show roundC 3 0 (Int.toNat 6) = L from by rw [← HL.out]; decide]
                  exact hown
                case measure => simp [intOf]
              · go_wp2_with (at_builtin; refine wpList_append_own _ rfl _ _ 22 rfl w.heap.size 71 i0 _ 2 16 Try.underlying22 hi hz0 hz1 hz2 rfl (by decide) _ _ _ rfl (hown.alloc _) ⟨wr.heap.size, 0, none⟩ 1 1 [.int .i64 6, .int .i64 7] rfl rfl (two_cells (by simp) (by simp)) (two_one rfl rfl) (by unfold maxLen; omega) (by omega) (by simp; omega) ?_; intro v1 w3 hown3 hg3 _; obtain ⟨A1, d1', rfl, _⟩ := own_shape hown3)
                go_roundw
                case rel =>
                  refine ⟨7, by omega, by omega, by go_num, ?_, ((hb.alloc (by omega) _).grown hg3 (by simp; omega) (fun k hk => (hown.lt k hk).1))⟩
                  rw [show roundC 3 0 (Int.toNat 7) = L ++ [(6, 7)] from by rw [← HL.out]; decide, pcells_append, List.length_append]
                  exact hown3
                case measure => simp [intOf]
              · go_wp2
                go_roundw
                case rel =>
                  refine ⟨8, by omega, by omega, by go_num, ?_, hb⟩
                  rw [show roundC 3 0 (Int.toNat 8) = L from by rw [← HL.out]; decide]
                  exact hown
                case measure => simp [intOf]
            · have ham : a = 8 := by omega
              subst ham
              have Hown := Lib.hid hown
              clear hown
              go_wp2
              go_roundw
              case rel =>
                refine ⟨1, by omega, by omega, by go_num, ?_, hb⟩
                rw [show roundC (Int.toNat 3) (Int.toNat 1) 0 = roundC 3 0 (Int.toNat 8) from by decide]
                exact Hown.out
              case measure => simp [intOf]
        · go_wp2
          go_loopw [4, 6] (fun v i wx => ∃ a : Int, 0 ≤ a ∧ a ≤ 8 ∧ i = .int .i64 a ∧ wx.ownsRow w.heap.size 71 2 v (roundC 3 1 a.toNat).length (pcells (roundC 3 1 a.toNat)) ∧ Below w.heap.size w wx) (fun _ i _ => 8 - (intOf i).toNat)
          case atStart => exact ⟨0, by omega, by omega, rfl, Hown.out, Hb.out⟩
          case round =>
            clear Hown Hb
            obtain ⟨a, ha0, ha, rfl, hown, hb⟩ := hrel
            have hs := hb.size
            by_cases hlt2 : a < 8
            · have h40 : (roundC 3 1 a.toNat).length ≤ 40 := roundC_len ⟨3, by decide⟩ ⟨1, by decide⟩ ⟨a.toNat, by omega⟩
              generalize hL : roundC 3 1 a.toNat = L at hown h40
              have HL := Lib.hid hL
              clear hL
              have hc : a = 0 ∨ a = 1 ∨ a = 2 ∨ a = 3 ∨ a = 4 ∨ a = 5 ∨ a = 6 ∨ a = 7 := by omega
              clear ha0 ha hlt2
              rcases hc with rfl | rfl | rfl | rfl | rfl | rfl | rfl | rfl
              · go_wp2_with (at_builtin; refine wpList_append_own _ rfl _ _ 22 rfl w.heap.size 71 i0 _ 2 16 Try.underlying22 hi hz0 hz1 hz2 rfl (by decide) _ _ _ rfl (hown.alloc _) ⟨wr.heap.size, 0, none⟩ 1 1 [.int .i64 0, .int .i64 2] rfl rfl (two_cells (by simp) (by simp)) (two_one rfl rfl) (by unfold maxLen; omega) (by omega) (by simp; omega) ?_; intro v1 w3 hown3 hg3 _; obtain ⟨A1, d1', rfl, _⟩ := own_shape hown3)
                go_roundw
                case rel =>
                  refine ⟨1, by omega, by omega, by go_num, ?_, ((hb.alloc (by omega) _).grown hg3 (by simp; omega) (fun k hk => (hown.lt k hk).1))⟩
                  rw [show roundC 3 1 (Int.toNat 1) = L ++ [(0, 2)] from by rw [← HL.out]; decide, pcells_append, List.length_append]
                  exact hown3
                case measure => simp [intOf]
              · go_wp2_with (at_builtin; refine wpList_append_own _ rfl _ _ 22 rfl w.heap.size 71 i0 _ 2 16 Try.underlying22 hi hz0 hz1 hz2 rfl (by decide) _ _ _ rfl (hown.alloc _) ⟨wr.heap.size, 0, none⟩ 1 1 [.int .i64 1, .int .i64 3] rfl rfl (two_cells (by simp) (by simp)) (two_one rfl rfl) (by unfold maxLen; omega) (by omega) (by simp; omega) ?_; intro v1 w3 hown3 hg3 _; obtain ⟨A1, d1', rfl, _⟩ := own_shape hown3)
                go_roundw
                case rel =>
                  refine ⟨2, by omega, by omega, by go_num, ?_, ((hb.alloc (by omega) _).grown hg3 (by simp; omega) (fun k hk => (hown.lt k hk).1))⟩
                  rw [show roundC 3 1 (Int.toNat 2) = L ++ [(1, 3)] from by rw [← HL.out]; decide, pcells_append, List.length_append]
                  exact hown3
                case measure => simp [intOf]
              · go_wp2
                go_roundw
                case rel =>
                  refine ⟨3, by omega, by omega, by go_num, ?_, hb⟩
                  rw [show roundC 3 1 (Int.toNat 3) = L from by rw [← HL.out]; decide]
                  exact hown
                case measure => simp [intOf]
              · go_wp2
                go_roundw
                case rel =>
                  refine ⟨4, by omega, by omega, by go_num, ?_, hb⟩
                  rw [show roundC 3 1 (Int.toNat 4) = L from by rw [← HL.out]; decide]
                  exact hown
                case measure => simp [intOf]
              · go_wp2_with (at_builtin; refine wpList_append_own _ rfl _ _ 22 rfl w.heap.size 71 i0 _ 2 16 Try.underlying22 hi hz0 hz1 hz2 rfl (by decide) _ _ _ rfl (hown.alloc _) ⟨wr.heap.size, 0, none⟩ 1 1 [.int .i64 4, .int .i64 6] rfl rfl (two_cells (by simp) (by simp)) (two_one rfl rfl) (by unfold maxLen; omega) (by omega) (by simp; omega) ?_; intro v1 w3 hown3 hg3 _; obtain ⟨A1, d1', rfl, _⟩ := own_shape hown3)
                go_roundw
                case rel =>
                  refine ⟨5, by omega, by omega, by go_num, ?_, ((hb.alloc (by omega) _).grown hg3 (by simp; omega) (fun k hk => (hown.lt k hk).1))⟩
                  rw [show roundC 3 1 (Int.toNat 5) = L ++ [(4, 6)] from by rw [← HL.out]; decide, pcells_append, List.length_append]
                  exact hown3
                case measure => simp [intOf]
              · go_wp2_with (at_builtin; refine wpList_append_own _ rfl _ _ 22 rfl w.heap.size 71 i0 _ 2 16 Try.underlying22 hi hz0 hz1 hz2 rfl (by decide) _ _ _ rfl (hown.alloc _) ⟨wr.heap.size, 0, none⟩ 1 1 [.int .i64 5, .int .i64 7] rfl rfl (two_cells (by simp) (by simp)) (two_one rfl rfl) (by unfold maxLen; omega) (by omega) (by simp; omega) ?_; intro v1 w3 hown3 hg3 _; obtain ⟨A1, d1', rfl, _⟩ := own_shape hown3)
                go_roundw
                case rel =>
                  refine ⟨6, by omega, by omega, by go_num, ?_, ((hb.alloc (by omega) _).grown hg3 (by simp; omega) (fun k hk => (hown.lt k hk).1))⟩
                  rw [show roundC 3 1 (Int.toNat 6) = L ++ [(5, 7)] from by rw [← HL.out]; decide, pcells_append, List.length_append]
                  exact hown3
                case measure => simp [intOf]
              · go_wp2
                go_roundw
                case rel =>
                  refine ⟨7, by omega, by omega, by go_num, ?_, hb⟩
                  rw [show roundC 3 1 (Int.toNat 7) = L from by rw [← HL.out]; decide]
                  exact hown
                case measure => simp [intOf]
              · go_wp2
                go_roundw
                case rel =>
                  refine ⟨8, by omega, by omega, by go_num, ?_, hb⟩
                  rw [show roundC 3 1 (Int.toNat 8) = L from by rw [← HL.out]; decide]
                  exact hown
                case measure => simp [intOf]
            · have ham : a = 8 := by omega
              subst ham
              have Hown := Lib.hid hown
              clear hown
              go_wp2
              go_roundw
              case rel =>
                refine ⟨2, by omega, by omega, by go_num, ?_, hb⟩
                rw [show roundC (Int.toNat 3) (Int.toNat 2) 0 = roundC 3 1 (Int.toNat 8) from by decide]
                exact Hown.out
              case measure => simp [intOf]
        · go_wp2
          go_loopw [4, 6] (fun v i wx => ∃ a : Int, 0 ≤ a ∧ a ≤ 8 ∧ i = .int .i64 a ∧ wx.ownsRow w.heap.size 71 2 v (roundC 3 2 a.toNat).length (pcells (roundC 3 2 a.toNat)) ∧ Below w.heap.size w wx) (fun _ i _ => 8 - (intOf i).toNat)
          case atStart => exact ⟨0, by omega, by omega, rfl, Hown.out, Hb.out⟩
          case round =>
            clear Hown Hb
            obtain ⟨a, ha0, ha, rfl, hown, hb⟩ := hrel
            have hs := hb.size
            by_cases hlt2 : a < 8
            · have h40 : (roundC 3 2 a.toNat).length ≤ 40 := roundC_len ⟨3, by decide⟩ ⟨2, by decide⟩ ⟨a.toNat, by omega⟩
              generalize hL : roundC 3 2 a.toNat = L at hown h40
              have HL := Lib.hid hL
              clear hL
              have hc : a = 0 ∨ a = 1 ∨ a = 2 ∨ a = 3 ∨ a = 4 ∨ a = 5 ∨ a = 6 ∨ a = 7 := by omega
              clear ha0 ha hlt2
              rcases hc with rfl | rfl | rfl | rfl | rfl | rfl | rfl | rfl
              · go_wp2_with (at_builtin; refine wpList_append_own _ rfl _ _ 22 rfl w.heap.size 71 i0 _ 2 16 Try.underlying22 hi hz0 hz1 hz2 rfl (by decide) _ _ _ rfl (hown.alloc _) ⟨wr.heap.size, 0, none⟩ 1 1 [.int .i64 0, .int .i64 4] rfl rfl (two_cells (by simp) (by simp)) (two_one rfl rfl) (by unfold maxLen; omega) (by omega) (by simp; omega) ?_; intro v1 w3 hown3 hg3 _; obtain ⟨A1, d1', rfl, _⟩ := own_shape hown3)
                go_roundw
                case rel =>
                  refine ⟨1, by omega, by omega, by go_num, ?_, ((hb.alloc (by omega) _).grown hg3 (by simp; omega) (fun k hk => (hown.lt k hk).1))⟩
                  rw [show roundC 3 2 (Int.toNat 1) = L ++ [(0, 4)] from by rw [← HL.out]; decide, pcells_append, List.length_append]
                  exact hown3
                case measure => simp [intOf]
              · go_wp2_with (at_builtin; refine wpList_append_own _ rfl _ _ 22 rfl w.heap.size 71 i0 _ 2 16 Try.underlying22 hi hz0 hz1 hz2 rfl (by decide) _ _ _ rfl (hown.alloc _) ⟨wr.heap.size, 0, none⟩ 1 1 [.int .i64 1, .int .i64 5] rfl rfl (two_cells (by simp) (by simp)) (two_one rfl rfl) (by unfold maxLen; omega) (by omega) (by simp; omega) ?_; intro v1 w3 hown3 hg3 _; obtain ⟨A1, d1', rfl, _⟩ := own_shape hown3)
                go_roundw
                case rel =>
                  refine ⟨2, by omega, by omega, by go_num, ?_, ((hb.alloc (by omega) _).grown hg3 (by simp; omega) (fun k hk => (hown.lt k hk).1))⟩
                  rw [show roundC 3 2 (Int.toNat 2) = L ++ [(1, 5)] from by rw [← HL.out]; decide, pcells_append, List.length_append]
                  exact hown3
                case measure => simp [intOf]
              · go_wp2_with (at_builtin; refine wpList_append_own _ rfl _ _ 22 rfl w.heap.size 71 i0 _ 2 16 Try.underlying22 hi hz0 hz1 hz2 rfl (by decide) _ _ _ rfl (hown.alloc _) ⟨wr.heap.size, 0, none⟩ 1 1 [.int .i64 2, .int .i64 6] rfl rfl (two_cells (by simp) (by simp)) (two_one rfl rfl) (by unfold maxLen; omega) (by omega) (by simp; omega) ?_; intro v1 w3 hown3 hg3 _; obtain ⟨A1, d1', rfl, _⟩ := own_shape hown3)
                go_roundw
                case rel =>
                  refine ⟨3, by omega, by omega, by go_num, ?_, ((hb.alloc (by omega) _).grown hg3 (by simp; omega) (fun k hk => (hown.lt k hk).1))⟩
                  rw [show roundC 3 2 (Int.toNat 3) = L ++ [(2, 6)] from by rw [← HL.out]; decide, pcells_append, List.length_append]
                  exact hown3
                case measure => simp [intOf]
              · go_wp2_with (at_builtin; refine wpList_append_own _ rfl _ _ 22 rfl w.heap.size 71 i0 _ 2 16 Try.underlying22 hi hz0 hz1 hz2 rfl (by decide) _ _ _ rfl (hown.alloc _) ⟨wr.heap.size, 0, none⟩ 1 1 [.int .i64 3, .int .i64 7] rfl rfl (two_cells (by simp) (by simp)) (two_one rfl rfl) (by unfold maxLen; omega) (by omega) (by simp; omega) ?_; intro v1 w3 hown3 hg3 _; obtain ⟨A1, d1', rfl, _⟩ := own_shape hown3)
                go_roundw
                case rel =>
                  refine ⟨4, by omega, by omega, by go_num, ?_, ((hb.alloc (by omega) _).grown hg3 (by simp; omega) (fun k hk => (hown.lt k hk).1))⟩
                  rw [show roundC 3 2 (Int.toNat 4) = L ++ [(3, 7)] from by rw [← HL.out]; decide, pcells_append, List.length_append]
                  exact hown3
                case measure => simp [intOf]
              · go_wp2
                go_roundw
                case rel =>
                  refine ⟨5, by omega, by omega, by go_num, ?_, hb⟩
                  rw [show roundC 3 2 (Int.toNat 5) = L from by rw [← HL.out]; decide]
                  exact hown
                case measure => simp [intOf]
              · go_wp2
                go_roundw
                case rel =>
                  refine ⟨6, by omega, by omega, by go_num, ?_, hb⟩
                  rw [show roundC 3 2 (Int.toNat 6) = L from by rw [← HL.out]; decide]
                  exact hown
                case measure => simp [intOf]
              · go_wp2
                go_roundw
                case rel =>
                  refine ⟨7, by omega, by omega, by go_num, ?_, hb⟩
                  rw [show roundC 3 2 (Int.toNat 7) = L from by rw [← HL.out]; decide]
                  exact hown
                case measure => simp [intOf]
              · go_wp2
                go_roundw
                case rel =>
                  refine ⟨8, by omega, by omega, by go_num, ?_, hb⟩
                  rw [show roundC 3 2 (Int.toNat 8) = L from by rw [← HL.out]; decide]
                  exact hown
                case measure => simp [intOf]
            · have ham : a = 8 := by omega
              subst ham
              have Hown := Lib.hid hown
              clear hown
              go_wp2
              go_roundw
              case rel =>
                refine ⟨3, by omega, by omega, by go_num, ?_, hb⟩
                rw [show roundC (Int.toNat 3) (Int.toNat 3) 0 = roundC 3 2 (Int.toNat 8) from by decide]
                exact Hown.out
              case measure => simp [intOf]
      · have hkn : k = n := by omega
        subst hkn
        obtain ⟨A1, c1, rfl, _⟩ := own_shape hown
        have Hown := Lib.hid hown
        clear hown
        go_wp2
        go_ret2
        exact ⟨A1, c1, rfl, Hown.out, hb⟩
  · have e : resRoundCalls n = ([], false) := if_neg h
    rw [e]
    clear e
    go_enter Try.func63, Try.ntmps63
    go_wp2_with (go_at_call 65; refine (l1In_no _ 0 3 (by omega) _).mono ?_; rintro e w' ⟨rfl, rfl⟩)
    go_ret2
    exact ⟨none, 0, rfl, World.ownsRow_nil _ _ _ _, by go_grown⟩
end Go.Proofs.Ytgkedgfbncljbaa
/-
  'laws.FnExactRoundCalls' returns true, whatever its arguments: out of the contracts of the model's function and of the program's.
-/
namespace Go.Proofs.Ytgkedgfbncljbaa
open Go.RowKit

set_option maxHeartbeats 4000000 in
set_option maxRecDepth 100000 in
theorem lawRoundCalls_any (i0 : Int) (W : World)  :
    Calls Try.prog 17 #[.int .i64 i0] W fun e w' => e = .returned (.bool true) ∧ Below W.heap.size W w' := by
  have hone : (0 : Int) ≤ 1 ∧ (1 : Int) ≤ 16777216 := by omega
  obtain ⟨⟨rm, rok⟩, hres⟩ : ∃ r, resRoundCalls i0 = r := ⟨_, rfl⟩
  have hrn : rm.length ≤ 1048576 := by have h := resRoundCalls_len i0; rw [hres] at h; exact h
  have hrl : rm.length ≤ maxLen := by unfold maxLen; omega
  have Hres := Lib.hid hres
  clear hres
  go_enter Try.func17, Try.ntmps17
  go_wp2_with fail
  refine (specRoundCalls_any i0 _ ).mono ?_
  rw [Hres.out]
  rintro e w1 ⟨T1, d1, rfl, n1, hb1⟩
  have g1 : Below W.heap.size W w1 := hb1
  have s1 := hb1.size
  have k1 : Below W.heap.size W w1 := g1
  have r1 : Lies (.slice T1 rm.length d1) (W.heap.size) w1.heap.size := own_lies n1
  go_wp2_with fail
  refine (implRoundCalls_any i0 _ ).mono ?_
  rw [Hres.out]
  rintro e w2 ⟨T2, d2, rfl, n2, hb2⟩
  have g2 : Below w1.heap.size w1 w2 := hb2
  have s2 := hb2.size
  have o2_0 := own_below n1 g2 (Nat.le_refl _)
  have k2 := k1.trans (g2.mono k1.size)
  clear n1
  have r2 : Lies (.slice T2 rm.length d2) (w1.heap.size) w2.heap.size := own_lies n2
  go_wp2_with fail
  refine (eqPairS_any rm rm _ _ _ _ _ hrl hrl (CRead.of_own n2) (CRead.of_own o2_0)).mono ?_
  rw [decide_eq_true rfl]
  rintro e w3 ⟨rfl, hb3⟩
  have g3 : Below w2.heap.size w2 w3 := hb3
  have s3 := hb3.size
  have o3_0 := own_below o2_0 g3 (Nat.le_refl _)
  have o3_1 := own_below n2 g3 (Nat.le_refl _)
  have k3 := k2.trans (g3.mono k2.size)
  clear o2_0 n2
  go_wp2_with fail
  refine (markPairS_any rm _ _ _ 1 _ _ rfl hrn hone o3_1).mono ?_
  rintro e w4 ⟨rfl, n4, hg4⟩
  have s4 := hg4.size
  have o4_0 := keptG hg4 r2 o3_0 r1 (by omega)
  have k4 := belowG k3 hg4 r2 k3.size (by omega)
  clear o3_0 o3_1
  have hmr : ¬ (1 + 2 * (rm.length : Int) < 0) := by omega
  go_wp2_with fail
  refine (heldPairS_any _ _ _ 1 _ hrn hone (CRead.of_own n4)).mono ?_
  rintro e w5 ⟨rfl, h5⟩
  subst h5
  go_wp2_with fail
  refine (implRoundCalls_any i0 _ ).mono ?_
  rw [Hres.out]
  rintro e w6 ⟨T6, d6, rfl, n6, hb6⟩
  have g6 : Below w4.heap.size w4 w6 := hb6
  have s6 := hb6.size
  have o6_0 := own_below o4_0 g6 (Nat.le_refl _)
  have o6_1 := own_below n4 g6 (Nat.le_refl _)
  have k6 := k4.trans (g6.mono k4.size)
  clear o4_0 n4
  have r6 : Lies (.slice T6 rm.length d6) (w4.heap.size) w6.heap.size := own_lies n6
  go_wp2_with fail
  refine (eqPairS_any rm rm _ _ _ _ _ hrl hrl (CRead.of_own n6) (CRead.of_own o6_0)).mono ?_
  rw [decide_eq_true rfl]
  rintro e w7 ⟨rfl, hb7⟩
  have g7 : Below w6.heap.size w6 w7 := hb7
  have s7 := hb7.size
  have o7_0 := own_below o6_0 g7 (Nat.le_refl _)
  have o7_1 := own_below o6_1 g7 (Nat.le_refl _)
  have o7_2 := own_below n6 g7 (Nat.le_refl _)
  have k7 := k6.trans (g7.mono k6.size)
  clear o6_0 o6_1 n6
  go_wp2_with fail
  refine (heldPairS_any _ _ _ 1 _ hrn hone (CRead.of_own o7_1)).mono ?_
  rintro e w8 ⟨rfl, h8⟩
  subst h8
  go_wp2
  go_ret
  exact ⟨rfl, k7⟩
end Go.Proofs.Ytgkedgfbncljbaa
/-
  THE PROGRAM's HEAD, LOOKED AT ONCE: which make it is, and that a call may enter it. (The head's text is long: the kernel must not read it twice.)
-/
namespace Go.Proofs.Ytgkedgfbncljbaa

theorem make_of {P : Program} {rest : List (List Char)} (h : behindMainWord (wordsSigns P.initOrder.toList) = "cut".toList :: rest) : P.make = some .cut := by
  unfold Program.make
  rw [h]
  rfl
theorem strip_cut (rest : List (List Char)) : stripLifts liftWords ("cut".toList :: rest) = ([], "cut".toList :: rest) := rfl
theorem lifts_of {P : Program} {rest : List (List Char)} (h : behindMainWord (wordsSigns P.initOrder.toList) = "cut".toList :: rest) : P.headLifts = [] := by
  unfold Program.headLifts
  rw [h, strip_cut]
  rfl
theorem final_of {P : Program} {rest : List (List Char)} (h : behindMainWord (wordsSigns P.initOrder.toList) = "cut".toList :: rest) : P.liftsFinal = false := by
  unfold Program.liftsFinal
  rw [lifts_of h, h]
  rfl
theorem enter_of {P : Program} {rest : List (List Char)} (h : behindMainWord (wordsSigns P.initOrder.toList) = "cut".toList :: rest) (h1 : P.laysLater = false) (h2 : P.bearsReflect = false) (h3 : P.doorFits [] = true) : P.mayEnter = true := by
  unfold Program.mayEnter
  rw [h]
  show (_ || _ || _) = true
  rw [strip_cut, h1, h2, h3]
  rfl
end Go.Proofs.Ytgkedgfbncljbaa
/-
  THE PROGRAM's CLOSED FACTS, EACH ONCE; and how a row's facts are put together out of them.
-/
namespace Go.Proofs.Ytgkedgfbncljbaa
open Go.ChangeShapes Go.WideShapes Go.ChangeAt Go.RowKit

def headSigns : List Char := ([104, 97, 114, 110, 101, 115, 115, 32, 101, 55, 102, 51, 56, 98, 52, 99, 56, 52, 101, 50, 52, 55, 100, 53, 55, 53, 52, 101, 101, 51, 99, 55, 55, 100, 100, 100, 52, 97, 57, 101, 49, 49, 56, 97, 50, 100, 56, 53, 49, 101, 48, 48, 48, 56, 100, 101, 54, 100, 49, 48, 57, 102, 53, 50, 50, 55, 49, 51, 56, 55, 100, 101, 32, 99, 117, 116, 32, 97, 116, 32, 108, 111, 111, 112, 46, 101, 120, 97, 109, 112, 108, 101, 47, 103, 48, 49, 50, 53, 55, 47, 108, 97, 119, 115, 46, 70, 110, 69, 120, 97, 99, 116, 67, 111, 117, 112, 108, 101, 115, 80, 97, 114, 116, 121, 32, 108, 111, 111, 112, 46, 101, 120, 97, 109, 112, 108, 101, 47, 103, 48, 49, 50, 53, 55, 47, 108, 97, 119, 115, 46, 70, 110, 69, 120, 97, 99, 116, 65, 114, 101, 67, 111, 117, 112, 108, 101, 115, 32, 108, 111, 111, 112, 46, 101, 120, 97, 109, 112, 108, 101, 47, 103, 48, 49, 50, 53, 55, 47, 108, 97, 119, 115, 46, 70, 110, 69, 120, 97, 99, 116, 84, 111, 108, 100, 78, 117, 109, 98, 101, 114, 115, 32, 108, 111, 111, 112, 46, 101, 120, 97, 109, 112, 108, 101, 47, 103, 48, 49, 50, 53, 55, 47, 108, 97, 119, 115, 46, 70, 110, 69, 120, 97, 99, 116, 83, 112, 111, 117, 115, 101, 78, 117, 109, 98, 101, 114, 32, 108, 111, 111, 112, 46, 101, 120, 97, 109, 112, 108, 101, 47, 103, 48, 49, 50, 53, 55, 47, 108, 97, 119, 115, 46, 70, 110, 69, 120, 97, 99, 116, 73, 115, 70, 97, 109, 101, 32, 108, 111, 111, 112, 46, 101, 120, 97, 109, 112, 108, 101, 47, 103, 48, 49, 50, 53, 55, 47, 108, 97, 119, 115, 46, 70, 110, 69, 120, 97, 99, 116, 83, 116, 97, 114, 79, 102, 32, 108, 111, 111, 112, 46, 101, 120, 97, 109, 112, 108, 101, 47, 103, 48, 49, 50, 53, 55, 47, 108, 97, 119, 115, 46, 70, 110, 69, 120, 97, 99, 116, 81, 117, 101, 115, 116, 105, 111, 110, 115, 70, 111, 114, 83, 116, 97, 114, 32, 108, 111, 111, 112, 46, 101, 120, 97, 109, 112, 108, 101, 47, 103, 48, 49, 50, 53, 55, 47, 108, 97, 119, 115, 46, 70, 110, 69, 120, 97, 99, 116, 65, 114, 101, 67, 97, 108, 108, 115, 32, 108, 111, 111, 112, 46, 101, 120, 97, 109, 112, 108, 101, 47, 103, 48, 49, 50, 53, 55, 47, 108, 97, 119, 115, 46, 70, 110, 69, 120, 97, 99, 116, 65, 108, 108, 75, 110, 111, 119, 65, 108, 108, 32, 108, 111, 111, 112, 46, 101, 120, 97, 109, 112, 108, 101, 47, 103, 48, 49, 50, 53, 55, 47, 108, 97, 119, 115, 46, 70, 110, 69, 120, 97, 99, 116, 70, 101, 119, 101, 115, 116, 67, 97, 108, 108, 115, 32, 108, 111, 111, 112, 46, 101, 120, 97, 109, 112, 108, 101, 47, 103, 48, 49, 50, 53, 55, 47, 108, 97, 119, 115, 46, 70, 110, 69, 120, 97, 99, 116, 71, 111, 115, 115, 105, 112, 67, 97, 108, 108, 115, 32, 108, 111, 111, 112, 46, 101, 120, 97, 109, 112, 108, 101, 47, 103, 48, 49, 50, 53, 55, 47, 108, 97, 119, 115, 46, 70, 110, 69, 120, 97, 99, 116, 85, 115, 101, 108, 101, 115, 115, 67, 97, 108, 108, 115, 32, 108, 111, 111, 112, 46, 101, 120, 97, 109, 112, 108, 101, 47, 103, 48, 49, 50, 53, 55, 47, 108, 97, 119, 115, 46, 70, 110, 69, 120, 97, 99, 116, 70, 105, 114, 115, 116, 72, 101, 97, 114, 100, 32, 108, 111, 111, 112, 46, 101, 120, 97, 109, 112, 108, 101, 47, 103, 48, 49, 50, 53, 55, 47, 108, 97, 119, 115, 46, 70, 110, 69, 120, 97, 99, 116, 82, 111, 117, 110, 100, 115, 70, 111, 114, 65, 108, 108, 32, 108, 111, 111, 112, 46, 101, 120, 97, 109, 112, 108, 101, 47, 103, 48, 49, 50, 53, 55, 47, 108, 97, 119, 115, 46, 70, 110, 69, 120, 97, 99, 116, 82, 111, 117, 110, 100, 67, 97, 108, 108, 115] : List Nat).map Char.ofNat
set_option maxRecDepth 100000 in
theorem Try.initOrder_is : Try.prog.initOrder = String.ofList headSigns := by kernel_rfl
theorem Try.initOrder_signs : Try.prog.initOrder.toList = headSigns := by rw [Try.initOrder_is]; exact String.toList_ofList
set_option maxRecDepth 100000 in
theorem head_words : (behindMainWord (wordsSigns headSigns)).take 1 = ["cut".toList] := by kernel_rfl
theorem Try.words : ∃ rest, behindMainWord (wordsSigns Try.prog.initOrder.toList) = "cut".toList :: rest := by
  rw [Try.initOrder_signs]
  have h := List.take_append_drop 1 (behindMainWord (wordsSigns headSigns))
  rw [head_words] at h
  exact ⟨_, h.symm⟩
theorem Try.make : Try.prog.make = some .cut := by obtain ⟨_, h⟩ := Try.words; exact make_of h
theorem Try.liftsFinal : Try.prog.liftsFinal = false := by obtain ⟨_, h⟩ := Try.words; exact final_of h
theorem Try.laysLater : Try.prog.laysLater = false := by kernel_rfl
theorem Try.bearsReflect : Try.prog.bearsReflect = false := by kernel_rfl
theorem Try.doorFits : Try.prog.doorFits [] = true := by kernel_rfl
theorem Try.mayEnter : Try.prog.mayEnter = true := by obtain ⟨_, h⟩ := Try.words; exact enter_of h Try.laysLater Try.bearsReflect Try.doorFits
theorem Try.mapsRowed : mapsRowed Try.prog = true := by kernel_rfl
theorem Try.stops : (Try.prog.stops == []) = true := by kernel_rfl
theorem Try.stopKnobs : (Try.prog.stopKnobs == []) = true := by kernel_rfl
theorem Try.plainKeys : Try.prog.plainKeys = true := by kernel_rfl
theorem Try.stopsHeard : Try.prog.stopsHeard = true := by kernel_rfl

/-- What the types of one law give: closed facts on its parameters and its result. -/
def typeFacts (P : Program) (fn : Func) (s : ChangeSpec) (c : OpenClaim) : Bool :=
  fn.params.all (P.readableRec ·) && namedTie P c.named s.vars && (c.stops == []) && (c.knobs == []) &&
  (c.maps == (fn.params.toList ++ s.plain.varTypes P).any (P.mapsRec ·)) && (c.ifaces == (fn.params.toList ++ s.plain.varTypes P).any (P.ifacesRec ·)) && (c.mapsOut == P.mapsAmong fn.resultTypes.toList) &&
  (c.loops == (fn.params.toList ++ s.plain.varTypes P).any (P.loopsFrom ·)) && (c.wideKeys == (fn.params.toList ++ s.plain.varTypes P ++ fn.resultTypes.toList).any (P.wideKeysFrom ·)) &&
  s.vars.all (P.varReadable ·) && fn.resultTypes.all (fun t => P.readableRec t && decide (t < P.types.size)) && (c.ifacesOut == fn.resultTypes.toList.any (P.ifacesRec ·)) && (c.loopsOut == fn.resultTypes.toList.any (P.loopsFrom ·)) && c.shortTexts.isNone &&
  (c.kinds == (if c.domain.isEmpty then [] else fn.params.toList.map fun t => match P.underlying t with | some (.int k) => some k | _ => none)) && (c.pinned == c.pinnedBy) &&
  (c.veiled == (fn.params.toList ++ s.plain.varTypes P ++ fn.resultTypes.toList).any (P.veiledRec ·)) && c.veiledFits P fn.params.toList (fn.params.toList ++ s.plain.varTypes P ++ fn.resultTypes.toList)
theorem joined_all {P : Program} {f : FuncId} {fn : Func} {s : ChangeSpec} {c : OpenClaim} (k1 : c.wf (OpenSpec.ofChange s) = true) (kt : typeFacts P fn s c = true)
    (k10 : (c.inPlace == P.inPlace f) = true) (k11 : (c.unfollowed == P.unfollowed f) = true) (k12 : (c.recurses == P.recurses f) = true) (k13 : (c.named == P.varsNamed f) = true)
    (e2 : laidOutB P = true) (e3 : mapsRowed P = true) (e7 : (P.stops == []) = true) (e9 : (P.stopKnobs == []) = true) (e22 : (c.plainKeys == P.plainKeys) = true) (e23 : P.stopsHeard = true) (e24 : P.mayEnter = true)
    (e24b : (c.lifted == P.liftsFinal) = true) (e24c : (P.make == some c.make) = true) : joinedFacts P f fn s c = true := by
  unfold typeFacts at kt
  unfold joinedFacts
  simp only [Bool.and_eq_true] at kt ⊢
  obtain ⟨⟨⟨⟨⟨⟨⟨⟨⟨⟨⟨⟨⟨⟨⟨⟨⟨t1, t2⟩, t3⟩, t4⟩, t5⟩, t6⟩, t7⟩, t8⟩, t9⟩, t10⟩, t11⟩, t12⟩, t13⟩, t14⟩, t15⟩, t16⟩, t17⟩, t18⟩ := kt
  exact ⟨⟨⟨⟨⟨⟨⟨⟨⟨⟨⟨⟨⟨⟨⟨⟨⟨⟨⟨⟨⟨⟨⟨⟨⟨⟨⟨⟨⟨⟨⟨k1, e2⟩, e3⟩, t1⟩, t2⟩, t3⟩, e7⟩, t4⟩, e9⟩, k10⟩, k11⟩, k12⟩, k13⟩, t5⟩, t6⟩, t7⟩, t8⟩, t9⟩, t10⟩, t11⟩, t12⟩, t13⟩, e22⟩, t14⟩, e23⟩, e24⟩, e24b⟩, e24c⟩, t15⟩, t16⟩, t17⟩, t18⟩
theorem joined_of {f : FuncId} {fn : Func} {s : ChangeSpec} {c : OpenClaim} (k1 : c.wf (OpenSpec.ofChange s) = true) (kt : typeFacts Try.prog fn s c = true)
    (k10 : (c.inPlace == Try.prog.inPlace f) = true) (k11 : (c.unfollowed == Try.prog.unfollowed f) = true) (k12 : (c.recurses == Try.prog.recurses f) = true) (k13 : (c.named == Try.prog.varsNamed f) = true)
    (k22 : c.plainKeys = true) (k24b : c.lifted = false) (k24c : c.make = .cut) : joinedFacts Try.prog f fn s c = true :=
  joined_all k1 kt k10 k11 k12 k13 Try.laidOut Try.mapsRowed Try.stops Try.stopKnobs (by rw [k22, Try.plainKeys]; rfl) Try.stopsHeard Try.mayEnter (by rw [k24b, Try.liftsFinal]; rfl) (by rw [k24c, Try.make]; rfl)
end Go.Proofs.Ytgkedgfbncljbaa
