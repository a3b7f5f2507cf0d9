/-
  'impl.meetingsOf', by its contract.
-/
import Derived.Test.YtgccapdjhnejcaaMeet
namespace Go.Proofs.Ytgccapdjhnejcaa
open Go.RowKit

theorem below_drewN {B : Nat} {a w : World} (h : Below B a w) (k : Nat) : Below B a (w.drewN k) := ⟨h.os, h.tape, h.output, h.size, h.block⟩

set_option maxHeartbeats 2000000 in
set_option maxRecDepth 100000 in
theorem meetingsOf_any (p : Int) (l : PL) (A : Option Addr) (c : Nat) (w : World) (hp : isP p l = true) (hA : CRead w w.heap.size A (pcells l)) :
    Calls Try.prog 98 #[.agg #[.int .i64 p, .slice A l.length c]] w fun e w' => ∃ A' c', e = .returned (.slice A' (meets l (allP p.toNat)).length c') ∧
      w'.ownsRow w.heap.size 115 3 (.slice A' (meets l (allP p.toNat)).length c') (meets l (allP p.toNat)).length (mcells (meets l (allP p.toNat))) ∧ Below w.heap.size w w' := by
  obtain ⟨i0, hi, hz0, hz1, hz2⟩ := info_parts Try.infoMeet
  obtain ⟨n, rfl⟩ : ∃ n : Nat, p = n := ⟨p.toNat, by have := isP_range hp; omega⟩
  have hn := isP_range hp
  have hn12 : n ≤ 12 := by omega
  have hlen : l.length ≤ 66 := by have h1 := isP_length hp; have h2 := people_sq hn.1 hn.2; omega
  simp only [Int.toNat_natCast]
  have Hp := Lib.hid hp
  clear hp
  go_enter Try.func98, Try.ntmps98
  go_wp2
  go_loopw [3, 4, 11] (fun v q i wr => ∃ a : Nat, a ≤ n ∧ i = .int .i64 a ∧ q = .int .i64 (toldTo n l a (a + 1)) ∧ wr.ownsRow (w.heap.size + 1) 115 3 v (meets l (upTo n a (a + 1))).length (mcells (meets l (upTo n a (a + 1)))) ∧ Below (w.heap.size + 1) (w.alloc (Obj.cells #[.int .i64 (n : Int), .slice A l.length c] 31)) wr) (fun _ _ i _ => n - (intOf i).toNat)
  case atStart => exact ⟨0, Nat.zero_le _, rfl, by simp [toldTo, upTo_start], World.ownsRow_nil _ _ _ _, Below.refl _ _⟩
  case round =>
    obtain ⟨a, ha, rfl, rfl, hown, hb⟩ := hrel
    have hs := hb.size
    simp only [World.size_alloc] at hs
    have v0 : wr.cell? ⟨w.heap.size, 0, none⟩ = some (.int .i64 n) := carry hb (by simp) (by omega)
    have v1 : wr.cell? ⟨w.heap.size, 1, none⟩ = some (.slice A l.length c) := carry hb (by simp) (by omega)
    by_cases hlt : a < n
    · have hai : (a : Int) < n := by omega
      have Hown := Lib.hid hown
      have Hb := Lib.hid hb
      clear hown hb
      go_wp2
      go_loopw [3, 4, 6] (fun v q i wx => ∃ b : Nat, a < b ∧ b ≤ n ∧ i = .int .i64 b ∧ q = .int .i64 (toldTo n l a b) ∧ wx.ownsRow (w.heap.size + 1) 115 3 v (meets l (upTo n a b)).length (mcells (meets l (upTo n a b))) ∧ Below (w.heap.size + 1) (w.alloc (Obj.cells #[.int .i64 (n : Int), .slice A l.length c] 31)) wx) (fun _ _ i _ => n - (intOf i).toNat)
      case atStart => exact ⟨a + 1, by omega, by omega, by go_num, rfl, Hown.out, Hb.out⟩
      case round =>
        clear Hown Hb v0 v1 hs
        obtain ⟨b, hab, hbn, rfl, rfl, hown, hb⟩ := hrel
        have hs := hb.size
        simp only [World.size_alloc] at hs
        have hbw : Below w.heap.size w wr := Below.trans (b := _) (by go_grown) (hb.mono (by omega))
        have v0 : wr.cell? ⟨w.heap.size, 0, none⟩ = some (.int .i64 n) := carry hb (by simp) (by omega)
        have v1 : wr.cell? ⟨w.heap.size, 1, none⟩ = some (.slice A l.length c) := carry hb (by simp) (by omega)
        by_cases hbt : b < n
        · have hbi : (b : Int) < n := by omega
          have htl := toldTo_le Hp.out hlt hab hbn
          have hml : (meets l (upTo n a b)).length ≤ 1000 := by rw [meets_length]; exact upTo_length (by omega) (by omega) hn12
          have e0 : (wr.alloc (Obj.cells #[.int .i64 (a : Int), .int .i64 (b : Int)] 59)).cell? ⟨w.heap.size, 1, none⟩ = some (.slice A l.length c) := (World.cell?_alloc_lt _ _ _ (show w.heap.size < wr.heap.size by omega)).trans v1
          have e1 : (wr.alloc (Obj.cells #[.int .i64 (a : Int), .int .i64 (b : Int)] 59)).cell? ⟨w.heap.size, 0, none⟩ = some (.int .i64 n) := (World.cell?_alloc_lt _ _ _ (show w.heap.size < wr.heap.size by omega)).trans v0
          cases hc : l.contains ((a : Int), (b : Int)) with
          | true =>
            have ht := told_at Hp.out hab hbt hc
            have htlt : toldTo n l a b < l.length := (List.getElem?_eq_some_iff.1 ht).1
            obtain ⟨bb, off, rfl, hbb, c0, c1⟩ := (hA.below hbw (Nat.le_refl _)).pair ht
            have Hc := Lib.hid hc
            have Hyes := Lib.hid (toldTo_yes (n := n) hab hc)
            clear hc ht
            generalize hq : toldTo n l a b = q at *
            have Hq := Lib.hid hq
            clear hq
            have hqi : (q : Int) < (l.length : Int) := by omega
            have hqd : decide ((q : Int) < (l.length : Int)) = true := by simp; omega
            have hqd' : decide (q < l.length) = true := by simp; omega
            have f0 : (wr.alloc (Obj.cells #[.int .i64 (a : Int), .int .i64 (b : Int)] 59)).cell? ⟨bb, off + q * 2, none⟩ = some (.int .i64 a) := (World.cell?_alloc_lt _ _ _ (show bb < wr.heap.size by omega)).trans c0
            have f1 : (wr.alloc (Obj.cells #[.int .i64 (a : Int), .int .i64 (b : Int)] 59)).cell? ⟨bb, off + q * 2 + 1, none⟩ = some (.int .i64 b) := (World.cell?_alloc_lt _ _ _ (show bb < wr.heap.size by omega)).trans c1
            go_wp2
            go_quiet (fail)
            generalize hW : (wr.alloc (Obj.cells #[.int .i64 (a : Int), .int .i64 (b : Int)] 59)).drewN nq = W
            have g0 : W.cell? ⟨wr.heap.size, 0, none⟩ = some (.int .i64 a) := by rw [← hW]; simp
            have g1 : W.cell? ⟨wr.heap.size, 1, none⟩ = some (.int .i64 b) := by rw [← hW]; simp
            have g2 : W.cell? ⟨w.heap.size, 1, none⟩ = some (.slice (some ⟨bb, off, none⟩) l.length c) := by rw [← hW]; exact e0
            have g3 : W.cell? ⟨w.heap.size, 0, none⟩ = some (.int .i64 n) := by rw [← hW]; exact e1
            have ownW : W.ownsRow (w.heap.size + 1) 115 3 u3 (meets l (upTo n a b)).length (mcells (meets l (upTo n a b))) := by rw [← hW]; exact hown.alloc _
            have bW : Below (w.heap.size + 1) (w.alloc (Obj.cells #[.int .i64 (n : Int), .slice (some ⟨bb, off, none⟩) l.length c] 31)) W := by rw [← hW]; exact below_drewN (hb.alloc (by omega) _) _
            have sW : wr.heap.size < W.heap.size := by rw [← hW]; simp
            have sW2 : w.heap.size + 1 ≤ W.heap.size := by omega
            clear hW e0 e1 v0 v1 hown hb hs c0 c1 f0 f1
            go_wp2_with (at_builtin; refine wpList_append_own _ rfl _ _ 110 rfl (w.heap.size + 1) 115 i0 _ 3 24 Try.underlying110 hi hz0 hz1 hz2 rfl (by decide) _ _ _ rfl (ownW.alloc _) ⟨W.heap.size, 0, none⟩ 1 1 [.int .i64 a, .int .i64 b, .bool true] rfl rfl (three_cells (by simp) (by simp) (by simp)) (three_one rfl rfl rfl) (by unfold maxLen; omega) (by omega) (by simp; omega) ?_; intro v1 w1 hown1 hg1 _; obtain ⟨A1, d1', rfl, _⟩ := own_shape hown1; have bW1 : Below (w.heap.size + 1) (w.alloc (Obj.cells #[.int .i64 (n : Int), .slice (some ⟨bb, off, none⟩) l.length c] 31)) w1 := (bW.alloc (by omega) _).grown hg1 (by simp; omega) (fun k hk => (ownW.lt k hk).1); have z0 : w1.cell? ⟨w.heap.size, 0, none⟩ = some (.int .i64 n) := carry bW1 (by simp) (by omega); have z1 : w1.cell? ⟨w.heap.size, 1, none⟩ = some (.slice (some ⟨bb, off, none⟩) l.length c) := carry bW1 (by simp) (by omega))
            go_roundw
            case rel =>
              refine ⟨b + 1, by omega, by omega, by go_num, ?_, ?_, bW1⟩
              · rw [Hyes.out]; go_num
              · rw [upTo_next hab, meets_snoc, Hc.out, mcells_append, List.length_append]
                exact hown1
            case measure => simp [intOf]; omega
          | false =>
            have Hc := Lib.hid hc
            have Hno := Lib.hid (toldTo_no (n := n) hab hc)
            clear hc
            generalize hq : toldTo n l a b = q at *
            have Hq := Lib.hid hq
            clear hq
            by_cases hqt : q < l.length
            · obtain ⟨⟨x, y⟩, hx⟩ := getSome l q hqt
              obtain ⟨bb, off, rfl, hbb, c0, c1⟩ := (hA.below hbw (Nat.le_refl _)).pair hx
              have hne := told_not hx a b Hc.out
              have Hx := Lib.hid hx
              clear hx
              have hqi : (q : Int) < (l.length : Int) := by omega
              have hqd : decide ((q : Int) < (l.length : Int)) = true := by simp; omega
              have hqd' : decide (q < l.length) = true := by simp; omega
              have f0 : (wr.alloc (Obj.cells #[.int .i64 (a : Int), .int .i64 (b : Int)] 59)).cell? ⟨bb, off + q * 2, none⟩ = some (.int .i64 x) := (World.cell?_alloc_lt _ _ _ (show bb < wr.heap.size by omega)).trans c0
              have f1 : (wr.alloc (Obj.cells #[.int .i64 (a : Int), .int .i64 (b : Int)] 59)).cell? ⟨bb, off + q * 2 + 1, none⟩ = some (.int .i64 y) := (World.cell?_alloc_lt _ _ _ (show bb < wr.heap.size by omega)).trans c1
              by_cases hxa : x = (a : Int)
              · have hyb : ¬ y = (b : Int) := fun h => hne ⟨hxa, h⟩
                clear hne
                subst hxa
                go_wp2
                go_quiet (fail)
                generalize hW : (wr.alloc (Obj.cells #[.int .i64 (a : Int), .int .i64 (b : Int)] 59)).drewN nq = W
                have g0 : W.cell? ⟨wr.heap.size, 0, none⟩ = some (.int .i64 a) := by rw [← hW]; simp
                have g1 : W.cell? ⟨wr.heap.size, 1, none⟩ = some (.int .i64 b) := by rw [← hW]; simp
                have g2 : W.cell? ⟨w.heap.size, 1, none⟩ = some (.slice (some ⟨bb, off, none⟩) l.length c) := by rw [← hW]; exact e0
                have g3 : W.cell? ⟨w.heap.size, 0, none⟩ = some (.int .i64 n) := by rw [← hW]; exact e1
                have ownW : W.ownsRow (w.heap.size + 1) 115 3 u3 (meets l (upTo n a b)).length (mcells (meets l (upTo n a b))) := by rw [← hW]; exact hown.alloc _
                have bW : Below (w.heap.size + 1) (w.alloc (Obj.cells #[.int .i64 (n : Int), .slice (some ⟨bb, off, none⟩) l.length c] 31)) W := by rw [← hW]; exact below_drewN (hb.alloc (by omega) _) _
                have sW : wr.heap.size < W.heap.size := by rw [← hW]; simp
                have sW2 : w.heap.size + 1 ≤ W.heap.size := by omega
                clear hW e0 e1 v0 v1 hown hb hs c0 c1 f0 f1
                go_wp2_with (at_builtin; refine wpList_append_own _ rfl _ _ 110 rfl (w.heap.size + 1) 115 i0 _ 3 24 Try.underlying110 hi hz0 hz1 hz2 rfl (by decide) _ _ _ rfl (ownW.alloc _) ⟨W.heap.size, 0, none⟩ 1 1 [.int .i64 a, .int .i64 b, .bool false] rfl rfl (three_cells (by simp) (by simp) (by simp)) (three_one rfl rfl rfl) (by unfold maxLen; omega) (by omega) (by simp; omega) ?_; intro v1 w1 hown1 hg1 _; obtain ⟨A1, d1', rfl, _⟩ := own_shape hown1; have bW1 : Below (w.heap.size + 1) (w.alloc (Obj.cells #[.int .i64 (n : Int), .slice (some ⟨bb, off, none⟩) l.length c] 31)) w1 := (bW.alloc (by omega) _).grown hg1 (by simp; omega) (fun k hk => (ownW.lt k hk).1); have z0 : w1.cell? ⟨w.heap.size, 0, none⟩ = some (.int .i64 n) := carry bW1 (by simp) (by omega); have z1 : w1.cell? ⟨w.heap.size, 1, none⟩ = some (.slice (some ⟨bb, off, none⟩) l.length c) := carry bW1 (by simp) (by omega))
                go_roundw
                case rel =>
                  refine ⟨b + 1, by omega, by omega, by go_num, ?_, ?_, bW1⟩
                  · rw [Hno.out]
                  · rw [upTo_next hab, meets_snoc, Hc.out, mcells_append, List.length_append]
                    exact hown1
                case measure => simp [intOf]; omega
              · clear hne
                go_wp2
                go_quiet (fail)
                generalize hW : (wr.alloc (Obj.cells #[.int .i64 (a : Int), .int .i64 (b : Int)] 59)).drewN nq = W
                have g0 : W.cell? ⟨wr.heap.size, 0, none⟩ = some (.int .i64 a) := by rw [← hW]; simp
                have g1 : W.cell? ⟨wr.heap.size, 1, none⟩ = some (.int .i64 b) := by rw [← hW]; simp
                have g2 : W.cell? ⟨w.heap.size, 1, none⟩ = some (.slice (some ⟨bb, off, none⟩) l.length c) := by rw [← hW]; exact e0
                have g3 : W.cell? ⟨w.heap.size, 0, none⟩ = some (.int .i64 n) := by rw [← hW]; exact e1
                have ownW : W.ownsRow (w.heap.size + 1) 115 3 u3 (meets l (upTo n a b)).length (mcells (meets l (upTo n a b))) := by rw [← hW]; exact hown.alloc _
                have bW : Below (w.heap.size + 1) (w.alloc (Obj.cells #[.int .i64 (n : Int), .slice (some ⟨bb, off, none⟩) l.length c] 31)) W := by rw [← hW]; exact below_drewN (hb.alloc (by omega) _) _
                have sW : wr.heap.size < W.heap.size := by rw [← hW]; simp
                have sW2 : w.heap.size + 1 ≤ W.heap.size := by omega
                clear hW e0 e1 v0 v1 hown hb hs c0 c1 f0 f1
                go_wp2_with (at_builtin; refine wpList_append_own _ rfl _ _ 110 rfl (w.heap.size + 1) 115 i0 _ 3 24 Try.underlying110 hi hz0 hz1 hz2 rfl (by decide) _ _ _ rfl (ownW.alloc _) ⟨W.heap.size, 0, none⟩ 1 1 [.int .i64 a, .int .i64 b, .bool false] rfl rfl (three_cells (by simp) (by simp) (by simp)) (three_one rfl rfl rfl) (by unfold maxLen; omega) (by omega) (by simp; omega) ?_; intro v1 w1 hown1 hg1 _; obtain ⟨A1, d1', rfl, _⟩ := own_shape hown1; have bW1 : Below (w.heap.size + 1) (w.alloc (Obj.cells #[.int .i64 (n : Int), .slice (some ⟨bb, off, none⟩) l.length c] 31)) w1 := (bW.alloc (by omega) _).grown hg1 (by simp; omega) (fun k hk => (ownW.lt k hk).1); have z0 : w1.cell? ⟨w.heap.size, 0, none⟩ = some (.int .i64 n) := carry bW1 (by simp) (by omega); have z1 : w1.cell? ⟨w.heap.size, 1, none⟩ = some (.slice (some ⟨bb, off, none⟩) l.length c) := carry bW1 (by simp) (by omega))
                go_roundw
                case rel =>
                  refine ⟨b + 1, by omega, by omega, by go_num, ?_, ?_, bW1⟩
                  · rw [Hno.out]
                  · rw [upTo_next hab, meets_snoc, Hc.out, mcells_append, List.length_append]
                    exact hown1
                case measure => simp [intOf]; omega
            · have hqd : decide ((q : Int) < (l.length : Int)) = false := by simp; omega
              have hqd' : decide (q < l.length) = false := by simp; omega
              go_wp2
              go_quiet (fail)
              generalize hW : (wr.alloc (Obj.cells #[.int .i64 (a : Int), .int .i64 (b : Int)] 59)).drewN nq = W
              have g0 : W.cell? ⟨wr.heap.size, 0, none⟩ = some (.int .i64 a) := by rw [← hW]; simp
              have g1 : W.cell? ⟨wr.heap.size, 1, none⟩ = some (.int .i64 b) := by rw [← hW]; simp
              have g2 : W.cell? ⟨w.heap.size, 1, none⟩ = some (.slice A l.length c) := by rw [← hW]; exact e0
              have g3 : W.cell? ⟨w.heap.size, 0, none⟩ = some (.int .i64 n) := by rw [← hW]; exact e1
              have ownW : W.ownsRow (w.heap.size + 1) 115 3 u3 (meets l (upTo n a b)).length (mcells (meets l (upTo n a b))) := by rw [← hW]; exact hown.alloc _
              have bW : Below (w.heap.size + 1) (w.alloc (Obj.cells #[.int .i64 (n : Int), .slice A l.length c] 31)) W := by rw [← hW]; exact below_drewN (hb.alloc (by omega) _) _
              have sW : wr.heap.size < W.heap.size := by rw [← hW]; simp
              have sW2 : w.heap.size + 1 ≤ W.heap.size := by omega
              clear hW e0 e1 v0 v1 hown hb hs
              go_wp2_with (at_builtin; refine wpList_append_own _ rfl _ _ 110 rfl (w.heap.size + 1) 115 i0 _ 3 24 Try.underlying110 hi hz0 hz1 hz2 rfl (by decide) _ _ _ rfl (ownW.alloc _) ⟨W.heap.size, 0, none⟩ 1 1 [.int .i64 a, .int .i64 b, .bool false] rfl rfl (three_cells (by simp) (by simp) (by simp)) (three_one rfl rfl rfl) (by unfold maxLen; omega) (by omega) (by simp; omega) ?_; intro v1 w1 hown1 hg1 _; obtain ⟨A1, d1', rfl, _⟩ := own_shape hown1; have bW1 : Below (w.heap.size + 1) (w.alloc (Obj.cells #[.int .i64 (n : Int), .slice A l.length c] 31)) w1 := (bW.alloc (by omega) _).grown hg1 (by simp; omega) (fun k hk => (ownW.lt k hk).1); have z0 : w1.cell? ⟨w.heap.size, 0, none⟩ = some (.int .i64 n) := carry bW1 (by simp) (by omega); have z1 : w1.cell? ⟨w.heap.size, 1, none⟩ = some (.slice A l.length c) := carry bW1 (by simp) (by omega))
              go_roundw
              case rel =>
                refine ⟨b + 1, by omega, by omega, by go_num, ?_, ?_, bW1⟩
                · rw [Hno.out]
                · rw [upTo_next hab, meets_snoc, Hc.out, mcells_append, List.length_append]
                  exact hown1
              case measure => simp [intOf]; omega
        · have hbn' : n = b := by omega
          subst hbn'
          have hge : ¬ ((n : Int) < n) := by omega
          go_wp2
          go_roundw
          case rel => exact ⟨a + 1, by omega, by go_num, by rw [← toldTo_row], by rw [← upTo_row]; exact hown, hb⟩
          case measure => simp [intOf]; omega
    · have hal : n = a := by omega
      subst hal
      have hge : ¬ ((n : Int) < n) := by omega
      rw [upTo_all] at hown
      obtain ⟨A', c', rfl, _⟩ := own_shape hown
      have hbw : Below w.heap.size w wr := Below.trans (b := _) (by go_grown) (hb.mono (by omega))
      have Hown := Lib.hid hown
      clear hown
      go_wp2
      go_ret
      exact ⟨A', c', rfl, own_lower Hown.out (Nat.le_succ _), hbw⟩
end Go.Proofs.Ytgccapdjhnejcaa
