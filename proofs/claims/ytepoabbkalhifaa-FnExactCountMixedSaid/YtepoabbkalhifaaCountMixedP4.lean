/-
  Texts put together for the claim of 'CountMixed' (pack 4): MeetW, PairsOf, OtherP, Every, ShadesOf, Lists, RowsG, RowsH, Mats, TrsP, TrsM.
-/
import Derived.Test.YtepoabbkalhifaaCountMixedP1
import Derived.Test.YtepoabbkalhifaaCountMixedP2
import Derived.Test.YtepoabbkalhifaaCountMixedP3
import Derived.Deep.RegionHeld3
import Derived.Deep.RegionLaw
import Derived.BigQuiet
/-
  'impl.meetingsOf', by its contract.
-/
namespace Go.Proofs.Ytepoabbkalhifaa
open Go.RowKit

theorem below_drewN {B : Nat} {a w : World} (h : Below B a w) (k : Nat) : Below B a (w.drewN k) := ⟨h.os, h.tape, h.output, h.size, h.block⟩

set_option maxHeartbeats 2000000 in
set_option maxRecDepth 100000 in
theorem meetingsOf_any (p : Int) (l : PL) (A : Option Addr) (c : Nat) (w : World) (hp : isP p l = true) (hA : CRead w w.heap.size A (pcells l)) :
    Calls Try.prog 106 #[.agg #[.int .i64 p, .slice A l.length c]] w fun e w' => ∃ A' c', e = .returned (.slice A' (meets l (allP p.toNat)).length c') ∧
      w'.ownsRow w.heap.size 121 3 (.slice A' (meets l (allP p.toNat)).length c') (meets l (allP p.toNat)).length (mcells (meets l (allP p.toNat))) ∧ Below w.heap.size w w' := by
  obtain ⟨i0, hi, hz0, hz1, hz2⟩ := info_parts Try.infoMeet
  obtain ⟨n, rfl⟩ : ∃ n : Nat, p = n := ⟨p.toNat, by have := isP_range hp; omega⟩
  have hn := isP_range hp
  have hn12 : n ≤ 12 := by omega
  have hlen : l.length ≤ 66 := by have h1 := isP_length hp; have h2 := people_sq hn.1 hn.2; omega
  simp only [Int.toNat_natCast]
  have Hp := Lib.hid hp
  clear hp
  go_enter Try.func106, Try.ntmps106
  go_wp2
  go_loopw [3, 4, 11] (fun v q i wr => ∃ a : Nat, a ≤ n ∧ i = .int .i64 a ∧ q = .int .i64 (toldTo n l a (a + 1)) ∧ wr.ownsRow (w.heap.size + 1) 121 3 v (meets l (upTo n a (a + 1))).length (mcells (meets l (upTo n a (a + 1)))) ∧ Below (w.heap.size + 1) (w.alloc (Obj.cells #[.int .i64 (n : Int), .slice A l.length c] 45)) wr) (fun _ _ i _ => n - (intOf i).toNat)
  case atStart => exact ⟨0, Nat.zero_le _, rfl, by simp [toldTo, upTo_start], World.ownsRow_nil _ _ _ _, Below.refl _ _⟩
  case round =>
    obtain ⟨a, ha, rfl, rfl, hown, hb⟩ := hrel
    have hs := hb.size
    simp only [World.size_alloc] at hs
    have v0 : wr.cell? ⟨w.heap.size, 0, none⟩ = some (.int .i64 n) := carry hb (by simp) (by omega)
    have v1 : wr.cell? ⟨w.heap.size, 1, none⟩ = some (.slice A l.length c) := carry hb (by simp) (by omega)
    by_cases hlt : a < n
    · have hai : (a : Int) < n := by omega
      have Hown := Lib.hid hown
      have Hb := Lib.hid hb
      clear hown hb
      go_wp2
      go_loopw [3, 4, 6] (fun v q i wx => ∃ b : Nat, a < b ∧ b ≤ n ∧ i = .int .i64 b ∧ q = .int .i64 (toldTo n l a b) ∧ wx.ownsRow (w.heap.size + 1) 121 3 v (meets l (upTo n a b)).length (mcells (meets l (upTo n a b))) ∧ Below (w.heap.size + 1) (w.alloc (Obj.cells #[.int .i64 (n : Int), .slice A l.length c] 45)) wx) (fun _ _ i _ => n - (intOf i).toNat)
      case atStart => exact ⟨a + 1, by omega, by omega, by go_num, rfl, Hown.out, Hb.out⟩
      case round =>
        clear Hown Hb v0 v1 hs
        obtain ⟨b, hab, hbn, rfl, rfl, hown, hb⟩ := hrel
        have hs := hb.size
        simp only [World.size_alloc] at hs
        have hbw : Below w.heap.size w wr := Below.trans (b := _) (by go_grown) (hb.mono (by omega))
        have v0 : wr.cell? ⟨w.heap.size, 0, none⟩ = some (.int .i64 n) := carry hb (by simp) (by omega)
        have v1 : wr.cell? ⟨w.heap.size, 1, none⟩ = some (.slice A l.length c) := carry hb (by simp) (by omega)
        by_cases hbt : b < n
        · have hbi : (b : Int) < n := by omega
          have htl := toldTo_le Hp.out hlt hab hbn
          have hml : (meets l (upTo n a b)).length ≤ 1000 := by rw [meets_length]; exact upTo_length (by omega) (by omega) hn12
          have e0 : (wr.alloc (Obj.cells #[.int .i64 (a : Int), .int .i64 (b : Int)] 85)).cell? ⟨w.heap.size, 1, none⟩ = some (.slice A l.length c) := (World.cell?_alloc_lt _ _ _ (show w.heap.size < wr.heap.size by omega)).trans v1
          have e1 : (wr.alloc (Obj.cells #[.int .i64 (a : Int), .int .i64 (b : Int)] 85)).cell? ⟨w.heap.size, 0, none⟩ = some (.int .i64 n) := (World.cell?_alloc_lt _ _ _ (show w.heap.size < wr.heap.size by omega)).trans v0
          cases hc : l.contains ((a : Int), (b : Int)) with
          | true =>
            have ht := told_at Hp.out hab hbt hc
            have htlt : toldTo n l a b < l.length := (List.getElem?_eq_some_iff.1 ht).1
            obtain ⟨bb, off, rfl, hbb, c0, c1⟩ := (hA.below hbw (Nat.le_refl _)).pair ht
            have Hc := Lib.hid hc
            have Hyes := Lib.hid (toldTo_yes (n := n) hab hc)
            clear hc ht
            generalize hq : toldTo n l a b = q at *
            have Hq := Lib.hid hq
            clear hq
            have hqi : (q : Int) < (l.length : Int) := by omega
            have hqd : decide ((q : Int) < (l.length : Int)) = true := by simp; omega
            have hqd' : decide (q < l.length) = true := by simp; omega
            have f0 : (wr.alloc (Obj.cells #[.int .i64 (a : Int), .int .i64 (b : Int)] 85)).cell? ⟨bb, off + q * 2, none⟩ = some (.int .i64 a) := (World.cell?_alloc_lt _ _ _ (show bb < wr.heap.size by omega)).trans c0
            have f1 : (wr.alloc (Obj.cells #[.int .i64 (a : Int), .int .i64 (b : Int)] 85)).cell? ⟨bb, off + q * 2 + 1, none⟩ = some (.int .i64 b) := (World.cell?_alloc_lt _ _ _ (show bb < wr.heap.size by omega)).trans c1
            go_wp2
            go_quiet (fail)
            generalize hW : (wr.alloc (Obj.cells #[.int .i64 (a : Int), .int .i64 (b : Int)] 85)).drewN nq = W
            have g0 : W.cell? ⟨wr.heap.size, 0, none⟩ = some (.int .i64 a) := by rw [← hW]; simp
            have g1 : W.cell? ⟨wr.heap.size, 1, none⟩ = some (.int .i64 b) := by rw [← hW]; simp
            have g2 : W.cell? ⟨w.heap.size, 1, none⟩ = some (.slice (some ⟨bb, off, none⟩) l.length c) := by rw [← hW]; exact e0
            have g3 : W.cell? ⟨w.heap.size, 0, none⟩ = some (.int .i64 n) := by rw [← hW]; exact e1
            have ownW : W.ownsRow (w.heap.size + 1) 121 3 u3 (meets l (upTo n a b)).length (mcells (meets l (upTo n a b))) := by rw [← hW]; exact hown.alloc _
            have bW : Below (w.heap.size + 1) (w.alloc (Obj.cells #[.int .i64 (n : Int), .slice (some ⟨bb, off, none⟩) l.length c] 45)) W := by rw [← hW]; exact below_drewN (hb.alloc (by omega) _) _
            have sW : wr.heap.size < W.heap.size := by rw [← hW]; simp
            have sW2 : w.heap.size + 1 ≤ W.heap.size := by omega
            clear hW e0 e1 v0 v1 hown hb hs c0 c1 f0 f1
            go_wp2_with (at_builtin; refine wpList_append_own _ rfl _ _ 116 rfl (w.heap.size + 1) 121 i0 _ 3 24 Try.underlying116 hi hz0 hz1 hz2 rfl (by decide) _ _ _ rfl (ownW.alloc _) ⟨W.heap.size, 0, none⟩ 1 1 [.int .i64 a, .int .i64 b, .bool true] rfl rfl (three_cells (by simp) (by simp) (by simp)) (three_one rfl rfl rfl) (by unfold maxLen; omega) (by omega) (by simp; omega) ?_; intro v1 w1 hown1 hg1 _; obtain ⟨A1, d1', rfl, _⟩ := own_shape hown1; have bW1 : Below (w.heap.size + 1) (w.alloc (Obj.cells #[.int .i64 (n : Int), .slice (some ⟨bb, off, none⟩) l.length c] 45)) w1 := (bW.alloc (by omega) _).grown hg1 (by simp; omega) (fun k hk => (ownW.lt k hk).1); have z0 : w1.cell? ⟨w.heap.size, 0, none⟩ = some (.int .i64 n) := carry bW1 (by simp) (by omega); have z1 : w1.cell? ⟨w.heap.size, 1, none⟩ = some (.slice (some ⟨bb, off, none⟩) l.length c) := carry bW1 (by simp) (by omega))
            go_roundw
            case rel =>
              refine ⟨b + 1, by omega, by omega, by go_num, ?_, ?_, bW1⟩
              · rw [Hyes.out]; go_num
              · rw [upTo_next hab, meets_snoc, Hc.out, mcells_append, List.length_append]
                exact hown1
            case measure => simp [intOf]; omega
          | false =>
            have Hc := Lib.hid hc
            have Hno := Lib.hid (toldTo_no (n := n) hab hc)
            clear hc
            generalize hq : toldTo n l a b = q at *
            have Hq := Lib.hid hq
            clear hq
            by_cases hqt : q < l.length
            · obtain ⟨⟨x, y⟩, hx⟩ := getSome l q hqt
              obtain ⟨bb, off, rfl, hbb, c0, c1⟩ := (hA.below hbw (Nat.le_refl _)).pair hx
              have hne := told_not hx a b Hc.out
              have Hx := Lib.hid hx
              clear hx
              have hqi : (q : Int) < (l.length : Int) := by omega
              have hqd : decide ((q : Int) < (l.length : Int)) = true := by simp; omega
              have hqd' : decide (q < l.length) = true := by simp; omega
              have f0 : (wr.alloc (Obj.cells #[.int .i64 (a : Int), .int .i64 (b : Int)] 85)).cell? ⟨bb, off + q * 2, none⟩ = some (.int .i64 x) := (World.cell?_alloc_lt _ _ _ (show bb < wr.heap.size by omega)).trans c0
              have f1 : (wr.alloc (Obj.cells #[.int .i64 (a : Int), .int .i64 (b : Int)] 85)).cell? ⟨bb, off + q * 2 + 1, none⟩ = some (.int .i64 y) := (World.cell?_alloc_lt _ _ _ (show bb < wr.heap.size by omega)).trans c1
              by_cases hxa : x = (a : Int)
              · have hyb : ¬ y = (b : Int) := fun h => hne ⟨hxa, h⟩
                clear hne
                subst hxa
                go_wp2
                go_quiet (fail)
                generalize hW : (wr.alloc (Obj.cells #[.int .i64 (a : Int), .int .i64 (b : Int)] 85)).drewN nq = W
                have g0 : W.cell? ⟨wr.heap.size, 0, none⟩ = some (.int .i64 a) := by rw [← hW]; simp
                have g1 : W.cell? ⟨wr.heap.size, 1, none⟩ = some (.int .i64 b) := by rw [← hW]; simp
                have g2 : W.cell? ⟨w.heap.size, 1, none⟩ = some (.slice (some ⟨bb, off, none⟩) l.length c) := by rw [← hW]; exact e0
                have g3 : W.cell? ⟨w.heap.size, 0, none⟩ = some (.int .i64 n) := by rw [← hW]; exact e1
                have ownW : W.ownsRow (w.heap.size + 1) 121 3 u3 (meets l (upTo n a b)).length (mcells (meets l (upTo n a b))) := by rw [← hW]; exact hown.alloc _
                have bW : Below (w.heap.size + 1) (w.alloc (Obj.cells #[.int .i64 (n : Int), .slice (some ⟨bb, off, none⟩) l.length c] 45)) W := by rw [← hW]; exact below_drewN (hb.alloc (by omega) _) _
                have sW : wr.heap.size < W.heap.size := by rw [← hW]; simp
                have sW2 : w.heap.size + 1 ≤ W.heap.size := by omega
                clear hW e0 e1 v0 v1 hown hb hs c0 c1 f0 f1
                go_wp2_with (at_builtin; refine wpList_append_own _ rfl _ _ 116 rfl (w.heap.size + 1) 121 i0 _ 3 24 Try.underlying116 hi hz0 hz1 hz2 rfl (by decide) _ _ _ rfl (ownW.alloc _) ⟨W.heap.size, 0, none⟩ 1 1 [.int .i64 a, .int .i64 b, .bool false] rfl rfl (three_cells (by simp) (by simp) (by simp)) (three_one rfl rfl rfl) (by unfold maxLen; omega) (by omega) (by simp; omega) ?_; intro v1 w1 hown1 hg1 _; obtain ⟨A1, d1', rfl, _⟩ := own_shape hown1; have bW1 : Below (w.heap.size + 1) (w.alloc (Obj.cells #[.int .i64 (n : Int), .slice (some ⟨bb, off, none⟩) l.length c] 45)) w1 := (bW.alloc (by omega) _).grown hg1 (by simp; omega) (fun k hk => (ownW.lt k hk).1); have z0 : w1.cell? ⟨w.heap.size, 0, none⟩ = some (.int .i64 n) := carry bW1 (by simp) (by omega); have z1 : w1.cell? ⟨w.heap.size, 1, none⟩ = some (.slice (some ⟨bb, off, none⟩) l.length c) := carry bW1 (by simp) (by omega))
                go_roundw
                case rel =>
                  refine ⟨b + 1, by omega, by omega, by go_num, ?_, ?_, bW1⟩
                  · rw [Hno.out]
                  · rw [upTo_next hab, meets_snoc, Hc.out, mcells_append, List.length_append]
                    exact hown1
                case measure => simp [intOf]; omega
              · clear hne
                go_wp2
                go_quiet (fail)
                generalize hW : (wr.alloc (Obj.cells #[.int .i64 (a : Int), .int .i64 (b : Int)] 85)).drewN nq = W
                have g0 : W.cell? ⟨wr.heap.size, 0, none⟩ = some (.int .i64 a) := by rw [← hW]; simp
                have g1 : W.cell? ⟨wr.heap.size, 1, none⟩ = some (.int .i64 b) := by rw [← hW]; simp
                have g2 : W.cell? ⟨w.heap.size, 1, none⟩ = some (.slice (some ⟨bb, off, none⟩) l.length c) := by rw [← hW]; exact e0
                have g3 : W.cell? ⟨w.heap.size, 0, none⟩ = some (.int .i64 n) := by rw [← hW]; exact e1
                have ownW : W.ownsRow (w.heap.size + 1) 121 3 u3 (meets l (upTo n a b)).length (mcells (meets l (upTo n a b))) := by rw [← hW]; exact hown.alloc _
                have bW : Below (w.heap.size + 1) (w.alloc (Obj.cells #[.int .i64 (n : Int), .slice (some ⟨bb, off, none⟩) l.length c] 45)) W := by rw [← hW]; exact below_drewN (hb.alloc (by omega) _) _
                have sW : wr.heap.size < W.heap.size := by rw [← hW]; simp
                have sW2 : w.heap.size + 1 ≤ W.heap.size := by omega
                clear hW e0 e1 v0 v1 hown hb hs c0 c1 f0 f1
                go_wp2_with (at_builtin; refine wpList_append_own _ rfl _ _ 116 rfl (w.heap.size + 1) 121 i0 _ 3 24 Try.underlying116 hi hz0 hz1 hz2 rfl (by decide) _ _ _ rfl (ownW.alloc _) ⟨W.heap.size, 0, none⟩ 1 1 [.int .i64 a, .int .i64 b, .bool false] rfl rfl (three_cells (by simp) (by simp) (by simp)) (three_one rfl rfl rfl) (by unfold maxLen; omega) (by omega) (by simp; omega) ?_; intro v1 w1 hown1 hg1 _; obtain ⟨A1, d1', rfl, _⟩ := own_shape hown1; have bW1 : Below (w.heap.size + 1) (w.alloc (Obj.cells #[.int .i64 (n : Int), .slice (some ⟨bb, off, none⟩) l.length c] 45)) w1 := (bW.alloc (by omega) _).grown hg1 (by simp; omega) (fun k hk => (ownW.lt k hk).1); have z0 : w1.cell? ⟨w.heap.size, 0, none⟩ = some (.int .i64 n) := carry bW1 (by simp) (by omega); have z1 : w1.cell? ⟨w.heap.size, 1, none⟩ = some (.slice (some ⟨bb, off, none⟩) l.length c) := carry bW1 (by simp) (by omega))
                go_roundw
                case rel =>
                  refine ⟨b + 1, by omega, by omega, by go_num, ?_, ?_, bW1⟩
                  · rw [Hno.out]
                  · rw [upTo_next hab, meets_snoc, Hc.out, mcells_append, List.length_append]
                    exact hown1
                case measure => simp [intOf]; omega
            · have hqd : decide ((q : Int) < (l.length : Int)) = false := by simp; omega
              have hqd' : decide (q < l.length) = false := by simp; omega
              go_wp2
              go_quiet (fail)
              generalize hW : (wr.alloc (Obj.cells #[.int .i64 (a : Int), .int .i64 (b : Int)] 85)).drewN nq = W
              have g0 : W.cell? ⟨wr.heap.size, 0, none⟩ = some (.int .i64 a) := by rw [← hW]; simp
              have g1 : W.cell? ⟨wr.heap.size, 1, none⟩ = some (.int .i64 b) := by rw [← hW]; simp
              have g2 : W.cell? ⟨w.heap.size, 1, none⟩ = some (.slice A l.length c) := by rw [← hW]; exact e0
              have g3 : W.cell? ⟨w.heap.size, 0, none⟩ = some (.int .i64 n) := by rw [← hW]; exact e1
              have ownW : W.ownsRow (w.heap.size + 1) 121 3 u3 (meets l (upTo n a b)).length (mcells (meets l (upTo n a b))) := by rw [← hW]; exact hown.alloc _
              have bW : Below (w.heap.size + 1) (w.alloc (Obj.cells #[.int .i64 (n : Int), .slice A l.length c] 45)) W := by rw [← hW]; exact below_drewN (hb.alloc (by omega) _) _
              have sW : wr.heap.size < W.heap.size := by rw [← hW]; simp
              have sW2 : w.heap.size + 1 ≤ W.heap.size := by omega
              clear hW e0 e1 v0 v1 hown hb hs
              go_wp2_with (at_builtin; refine wpList_append_own _ rfl _ _ 116 rfl (w.heap.size + 1) 121 i0 _ 3 24 Try.underlying116 hi hz0 hz1 hz2 rfl (by decide) _ _ _ rfl (ownW.alloc _) ⟨W.heap.size, 0, none⟩ 1 1 [.int .i64 a, .int .i64 b, .bool false] rfl rfl (three_cells (by simp) (by simp) (by simp)) (three_one rfl rfl rfl) (by unfold maxLen; omega) (by omega) (by simp; omega) ?_; intro v1 w1 hown1 hg1 _; obtain ⟨A1, d1', rfl, _⟩ := own_shape hown1; have bW1 : Below (w.heap.size + 1) (w.alloc (Obj.cells #[.int .i64 (n : Int), .slice A l.length c] 45)) w1 := (bW.alloc (by omega) _).grown hg1 (by simp; omega) (fun k hk => (ownW.lt k hk).1); have z0 : w1.cell? ⟨w.heap.size, 0, none⟩ = some (.int .i64 n) := carry bW1 (by simp) (by omega); have z1 : w1.cell? ⟨w.heap.size, 1, none⟩ = some (.slice A l.length c) := carry bW1 (by simp) (by omega))
              go_roundw
              case rel =>
                refine ⟨b + 1, by omega, by omega, by go_num, ?_, ?_, bW1⟩
                · rw [Hno.out]
                · rw [upTo_next hab, meets_snoc, Hc.out, mcells_append, List.length_append]
                  exact hown1
              case measure => simp [intOf]; omega
        · have hbn' : n = b := by omega
          subst hbn'
          have hge : ¬ ((n : Int) < n) := by omega
          go_wp2
          go_roundw
          case rel => exact ⟨a + 1, by omega, by go_num, by rw [← toldTo_row], by rw [← upTo_row]; exact hown, hb⟩
          case measure => simp [intOf]; omega
    · have hal : n = a := by omega
      subst hal
      have hge : ¬ ((n : Int) < n) := by omega
      rw [upTo_all] at hown
      obtain ⟨A', c', rfl, _⟩ := own_shape hown
      have hbw : Below w.heap.size w wr := Below.trans (b := _) (by go_grown) (hb.mono (by omega))
      have Hown := Lib.hid hown
      clear hown
      go_wp2
      go_ret
      exact ⟨A', c', rfl, own_lower Hown.out (Nat.le_succ _), hbw⟩
end Go.Proofs.Ytepoabbkalhifaa
/-
  'impl.pairsOf': the pairs of the meetings that are taken, by its contracts: for friends and for strangers.
-/
namespace Go.Proofs.Ytepoabbkalhifaa
open Go.RowKit

def taken (f : Bool → Bool) (l : ML) : PL := (l.filter fun m => f m.2.2).map fun m => (m.1, m.2.1)
theorem taken_le (f : Bool → Bool) (l : ML) : (taken f l).length ≤ l.length := by unfold taken; rw [List.length_map]; exact List.length_filter_le _ _
theorem taken_snoc (f : Bool → Bool) (l : ML) (x y : Int) (b : Bool) : taken f (l ++ [(x, y, b)]) = taken f l ++ if f b = true then [(x, y)] else [] := by
  unfold taken
  rw [List.filter_append, List.map_append]
  congr 1
  by_cases h : f b = true
  · rw [if_pos h, List.filter_cons_of_pos (by exact h)]; rfl
  · rw [if_neg h, List.filter_cons_of_neg (by exact h)]; rfl
theorem taken_meets (f : Bool → Bool) (l qs : PL) : taken f (meets l qs) = qs.filter fun q => f (l.contains q) := by
  unfold taken meets
  rw [List.filter_map, List.map_map]
  have e : ((fun m : Int × Int × Bool => (m.1, m.2.1)) ∘ fun q : Int × Int => (q.1, q.2, l.contains q)) = id := rfl
  rw [e, List.map_id]
  rfl

set_option maxHeartbeats 400000 in
theorem ofStrangers_any (x y : Int) (f : Bool) (w : World) : Calls Try.prog 107 #[.agg #[.int .i64 x, .int .i64 y, .bool f]] w fun e w' => e = .returned (.bool (!f)) ∧ Below w.heap.size w w' := by
  go_enter Try.func107, Try.ntmps107
  go_wp2
  go_ret
  exact ⟨by simp, by go_grown⟩

set_option maxHeartbeats 2000000 in
set_option maxRecDepth 100000 in
theorem pairsOf_ofStrangers_any (l : ML) (A : Option Addr) (c : Nat) (w : World) (hl : l.length ≤ 1000) (hA : CRead w w.heap.size A (mcells l)) :
    Calls Try.prog 105 #[.slice A l.length c, .func (.func 107) #[] #[]] w fun e w' => ∃ A' c', e = .returned (.slice A' (taken (fun b => !b) l).length c') ∧
      w'.ownsRow w.heap.size 85 2 (.slice A' (taken (fun b => !b) l).length c') (taken (fun b => !b) l).length (pcells (taken (fun b => !b) l)) ∧ Below w.heap.size w w' := by
  obtain ⟨i0, hi, hz0, hz1, hz2⟩ := info_parts Try.infoPair
  go_enter Try.func105, Try.ntmps105
  go_wp2
  go_loopw [5, 10] (fun v i wr => ∃ k : Nat, k ≤ l.length ∧ i = .int .i64 k ∧ wr.ownsRow w.heap.size 85 2 v (taken (fun b => !b) (l.take k)).length (pcells (taken (fun b => !b) (l.take k))) ∧ Below w.heap.size w wr) (fun _ i _ => l.length - (intOf i).toNat)
  case atStart => exact ⟨0, Nat.zero_le _, rfl, World.ownsRow_nil _ _ _ _, Below.refl _ _⟩
  case round =>
    obtain ⟨k, hk, rfl, hown, hb⟩ := hrel
    have hs := hb.size
    by_cases hlt : k < l.length
    · obtain ⟨⟨x, y, f⟩, hx⟩ := getSome l k hlt
      obtain ⟨bb, off, rfl, hbb, c0, c1, c2⟩ := (hA.below hb (Nat.le_refl _)).meet hx
      have hki : (k : Int) < (l.length : Int) := by omega
      have htl := taken_le (fun b => !b) (l.take k)
      have htl2 : (l.take k).length ≤ 1000 := Nat.le_trans (List.length_take_le' _ _) hl
      have hsn := taken_snoc (fun b => !b) (l.take k) x y f
      have Hx := Lib.hid hx
      have Hsn := Lib.hid hsn
      clear hx hsn
      cases hf : !f with
      | false =>
        have Hf := Lib.hid hf
        clear hf
        go_wp2_with fail
        refine (ofStrangers_any x y f _).mono ?_
        rw [Hf.out]
        rintro e w2 ⟨rfl, hb2⟩
        simp only [World.size_alloc] at hb2
        have k2 : Below wr.heap.size wr w2 := Below.trans (b := _) (by go_grown) (hb2.mono (by omega))
        go_wp2
        go_roundw
        case rel =>
          refine ⟨k + 1, by omega, by go_num, ?_, hb.trans (k2.mono hs)⟩
          rw [List.take_add_one, Hx.out, Option.toList_some, Hsn.out, Hf.out]
          simp only [Bool.false_eq_true, if_false, List.append_nil]
          exact own_below hown k2 (Nat.le_refl _)
        case measure => simp [intOf]; omega
      | true =>
        have Hf := Lib.hid hf
        clear hf
        go_wp2_with fail
        refine (ofStrangers_any x y f _).mono ?_
        rw [Hf.out]
        rintro e w2 ⟨rfl, hb2⟩
        simp only [World.size_alloc] at hb2
        have k2 : Below wr.heap.size wr w2 := Below.trans (b := _) (by go_grown) (hb2.mono (by omega))
        have d0 : w2.cell? ⟨wr.heap.size, 0, none⟩ = some (.int .i64 x) := carry hb2 (by simp) (by omega)
        have d1 : w2.cell? ⟨wr.heap.size, 1, none⟩ = some (.int .i64 y) := carry hb2 (by simp) (by omega)
        have own2 := own_below hown k2 (Nat.le_refl _)
        have s2 := k2.size
        clear hown c0 c1 c2
        go_wp2_with (at_builtin; refine wpList_append_own _ rfl _ _ 43 rfl w.heap.size 85 i0 _ 2 16 Try.underlying43 hi hz0 hz1 hz2 rfl (by decide) _ _ _ rfl (own2.alloc _) ⟨w2.heap.size, 0, none⟩ 1 1 [.int .i64 x, .int .i64 y] rfl rfl (two_cells (by simp) (by simp)) (two_one rfl rfl) (by unfold maxLen; omega) (by omega) (by simp; omega) ?_; intro v1 w3 hown3 hg3 _; obtain ⟨A1, d1', rfl, _⟩ := own_shape hown3)
        go_roundw
        case rel =>
          refine ⟨k + 1, by omega, by go_num, ?_, ?_⟩
          · rw [List.take_add_one, Hx.out, Option.toList_some, Hsn.out, Hf.out]
            simp only [if_true]
            rw [pcells_append, List.length_append]
            exact hown3
          · exact ((hb.trans (k2.mono hs)).alloc (by omega) _).grown hg3 (by simp; omega) (fun k hk => (own2.lt k hk).1)
        case measure => simp [intOf]; omega
    · have hkl : k = l.length := by omega
      subst hkl
      have hge : ¬ ((l.length : Int) < l.length) := by omega
      rw [List.take_length] at hown
      obtain ⟨A', c', rfl, _⟩ := own_shape hown
      have Hown := Lib.hid hown
      clear hown
      go_wp2
      go_ret
      exact ⟨A', c', rfl, Hown.out, hb⟩
end Go.Proofs.Ytepoabbkalhifaa
/-
  'OtherParty' and 'FullParty': the model's and the program's, by their contracts.
-/
namespace Go.Proofs.Ytepoabbkalhifaa
open Go.RowKit

set_option maxHeartbeats 2000000 in
set_option maxRecDepth 100000 in
theorem other_any (p : Int) (l : PL) (A : Option Addr) (c : Nat) (w : World) (hp : isP p l = true) (hA : CRead w w.heap.size A (pcells l)) :
    Calls Try.prog 82 #[.agg #[.int .i64 p, .slice A l.length c]] w (GotParty w p (otherP p.toNat l)) := by
  have hn := isP_range hp
  have hml : (meets l (allP p.toNat)).length ≤ 1000 := by rw [meets_length]; have := allP_length_le (n := p.toNat) (by omega); omega
  have hrl : (otherP p.toNat l).length ≤ 66 := filter_length_le (by omega) _
  have htk : taken (fun b => !b) (meets l (allP p.toNat)) = otherP p.toNat l := taken_meets _ _ _
  have Htk := Lib.hid htk
  have Hp := Lib.hid hp
  clear hp htk
  go_enter Try.func82, Try.ntmps82
  go_wp2
  generalize hW : (w.alloc (Obj.cells #[.int .i64 p, .slice A l.length c] 45)).alloc (Obj.cells #[.int .i64 0, .slice none 0 0] 45) = W
  have a0 : W.cell? ⟨w.heap.size, 0, none⟩ = some (.int .i64 p) := by rw [← hW]; simp
  have a1 : W.cell? ⟨w.heap.size, 1, none⟩ = some (.slice A l.length c) := by rw [← hW]; simp
  have x0 : W.cell? ⟨w.heap.size + 1, 0, none⟩ = some (.int .i64 0) := by rw [← hW]; simp
  have x1 : W.cell? ⟨w.heap.size + 1, 1, none⟩ = some (.slice none 0 0) := by rw [← hW]; simp
  have z0 : W.frozen? ⟨w.heap.size + 1, 0, none⟩ = false := by rw [← hW]; simp
  have z1 : W.frozen? ⟨w.heap.size + 1, 1, none⟩ = false := by rw [← hW]; simp
  have kW : Below w.heap.size w W := by rw [← hW]; go_grown
  have sW : w.heap.size + 1 < W.heap.size := by rw [← hW]; simp
  clear hW
  go_region_held3 (fun w' => w'.cell? ⟨w.heap.size, 0, none⟩ = some (.int .i64 p) ∧ w'.cell? ⟨w.heap.size, 1, none⟩ = some (.slice A l.length c)) (first | exact ⟨a0, a1⟩ | exact ⟨b0, b1⟩ | exact ⟨d0, d1⟩ | exact ⟨(World.cell?_setCell_other _ _ _ _ (by simp)).trans ((World.cell?_setCell_other _ _ _ _ (by simp)).trans d0), (World.cell?_setCell_other _ _ _ _ (by simp)).trans ((World.cell?_setCell_other _ _ _ _ (by simp)).trans d1)⟩) ((first
    | (go_at_call 106; refine (meetingsOf_any p l A c _ Hp.out ((hA.below kW.drew (Nat.le_refl _)).more kW.size)).mono ?_; rintro e w1 ⟨A1, c1, rfl, own1, hb1⟩; have g1 : Below W.heap.size W w1 := (Below.refl _ _).drew.trans hb1; have b0 := carry g1 a0 (by omega); have b1 := carry g1 a1 (by omega); have y0 := carry g1 x0 (by omega); have y1 := carry g1 x1 (by omega); have y2 := (g1.frozen (p := ⟨w.heap.size + 1, 0, none⟩) (by simp; omega)).trans z0; have y3 := (g1.frozen (p := ⟨w.heap.size + 1, 1, none⟩) (by simp; omega)).trans z1; have s1 := g1.size)
    | (go_at_call 105; refine (pairsOf_ofStrangers_any (meets l (allP p.toNat)) A1 c1 _ hml (CRead.of_own own1)).mono ?_; rw [Htk.out]; rintro e w2 ⟨A2, c2, rfl, own2, hb2⟩; have d0 := carry hb2 b0 (by omega); have d1 := carry hb2 b1 (by omega); have v0 := carry hb2 y0 (by omega); have v1 := carry hb2 y1 (by omega); have v2 := (hb2.frozen (p := ⟨w.heap.size + 1, 0, none⟩) (by simp; omega)).trans y2; have v3 := (hb2.frozen (p := ⟨w.heap.size + 1, 1, none⟩) (by simp; omega)).trans y3; have s2 := hb2.size)
    | skip))
  go_wp2
  refine bodyPost_ret (v := .agg #[.int .i64 p, .slice A2 (otherP p.toNat l).length c2]) (by simp [results, Try.results82, go_sem, v0, v1]) rfl ?_
  exact ⟨A2, c2, rfl, own_lower (ownsRow_setCell_below (ownsRow_setCell_below own2 (a := ⟨w.heap.size + 1, 0, none⟩) (by simp; omega) _) (a := ⟨w.heap.size + 1, 1, none⟩) (by simp; omega) _) (by omega),
    ((kW.trans ((g1.trans (hb2.mono s1)).mono kW.size)).setCell (p := ⟨w.heap.size + 1, 0, none⟩) (by simp) _).setCell (p := ⟨w.heap.size + 1, 1, none⟩) (by simp) _⟩

def resOtherParty (p : Int) (l : PL) : Int × PL × Bool := if isP p l then (p, otherP p.toNat l, true) else (0, [], false)
theorem resOtherParty_len (p : Int) (l : PL) : (resOtherParty p l).2.1.length ≤ 1048576 := by
  unfold resOtherParty
  split
  · rename_i h
    have := isP_range h
    exact Nat.le_trans (filter_length_le (n := p.toNat) (by omega) _) (by omega)
  · simp

end Go.Proofs.Ytepoabbkalhifaa
/-
  ALL PAIRS: 'everyPair', by its contract.
-/
namespace Go.Proofs.Ytepoabbkalhifaa
open Go.RowKit

theorem otherP_nil (n : Nat) : otherP n [] = allP n := by
  unfold otherP
  rw [List.filter_eq_self]
  intro q _
  rfl
theorem Try.run_pairsE (a b : Value) (X : World) : (Instr.field 45 (.agg #[a, b]) 1).run Try.prog X = .ok b X := by
  simp [Instr.field, go_sem]
  rfl
set_option maxHeartbeats 1000000 in
set_option maxRecDepth 100000 in
theorem everyPair_any (n : Nat) (hn : n ≤ 12) (w : World) :
    Calls Try.prog 94 #[.int .i64 n] w fun e w' => ∃ A c, e = .returned (.slice A (allP n).length c) ∧ w'.ownsRow w.heap.size 85 2 (.slice A (allP n).length c) (allP n).length (pcells (allP n)) ∧ Below w.heap.size w w' := by
  have hp : isP (n : Int) [] = true := by unfold isP; simp; omega
  have call := fun X : World => other_any (n : Int) [] none 0 X hp CRead.nil
  rw [Int.toNat_natCast, otherP_nil] at call
  have Call := Lib.hid call
  have hf := Try.run_pairsE
  clear call hp
  go_enter Try.func94, Try.ntmps94
  go_wp2_with fail
  refine (Call.out _).mono ?_
  rintro e w2 ⟨A2, c2, rfl, own2, hb2⟩
  go_wp2
  go_ret
  exact ⟨A2, c2, rfl, own2, hb2⟩
end Go.Proofs.Ytepoabbkalhifaa
/-
  SHADES made of a painting, a painting made of shades: pure parts, 'shadesOf' by its contract.
-/
namespace Go.Proofs.Ytepoabbkalhifaa
open Go.RowKit

def pairAt (n q : Nat) : Nat × Nat := (((allP n).getD q (0, 0)).1.toNat, ((allP n).getD q (0, 0)).2.toNat)
theorem pairAt_of {n q : Nat} (hn : n ≤ 8) (hq : q < (allP n).length) : ∃ a b : Nat, a < b ∧ b < n ∧ q = atP n a b ∧ (allP n)[q]? = some ((a : Int), (b : Int)) ∧ pairAt n q = (a, b) := by
  obtain ⟨a, b, hab, hb, e⟩ := atP_of hn hq
  have h := atP_get hn hab hb
  rw [← e] at h
  refine ⟨a, b, hab, hb, e, h, ?_⟩
  unfold pairAt
  rw [List.getD_eq_getElem?_getD, h]
  simp
/-- the table behind so many pairs painted -/
def shK (n : Nat) (l : List Int) : Nat → Nat → Nat → Int
  | 0 => fun _ _ => 0
  | q + 1 => paintF (shK n l q) (pairAt n q).1 (pairAt n q).2 (l.getD q 0)
theorem shK_next {n q a b : Nat} {l : List Int} {x : Int} (hp : pairAt n q = (a, b)) (hx : l[q]? = some x) : shK n l (q + 1) = paintF (shK n l q) a b x := by
  show paintF (shK n l q) (pairAt n q).1 (pairAt n q).2 (l.getD q 0) = _
  rw [hp, List.getD_eq_getElem?_getD, hx]
  rfl
theorem atP_inj {n a b a' b' : Nat} (hn : n ≤ 8) (hab : a < b) (hb : b < n) (hab' : a' < b') (hb' : b' < n) (h : atP n a b = atP n a' b') : a = a' ∧ b = b' := by
  have h1 := atP_get hn hab hb
  have h2 := atP_get hn hab' hb'
  rw [h, h2] at h1
  simp only [Option.some.injEq, Prod.mk.injEq] at h1
  omega
theorem shK_at {n : Nat} {l : List Int} (hn : n ≤ 8) : ∀ q, q ≤ (allP n).length → ∀ i j, shK n l q i j = if i ≠ j ∧ i < n ∧ j < n ∧ atP n (min i j) (max i j) < q then l.getD (atP n (min i j) (max i j)) 0 else 0
  | 0, _, i, j => by rw [if_neg (by omega)]; rfl
  | q + 1, hq, i, j => by
    obtain ⟨a, b, hab, hb, e, h, hp⟩ := pairAt_of hn (show q < (allP n).length by omega)
    show paintF (shK n l q) (pairAt n q).1 (pairAt n q).2 (l.getD q 0) i j = _
    rw [hp]
    unfold paintF
    simp only
    by_cases hit : (i = a ∧ j = b) ∨ (i = b ∧ j = a)
    · rw [if_pos hit]
      have e1 : min i j = a := by omega
      have e2 : max i j = b := by omega
      rw [e1, e2, ← e, if_pos (by omega)]
    · rw [if_neg hit, shK_at hn q (by omega) i j]
      by_cases hc : i ≠ j ∧ i < n ∧ j < n
      · have hne : atP n (min i j) (max i j) ≠ q := by
          intro h2
          rw [e] at h2
          have := atP_inj hn (by omega) (by omega) hab hb h2
          omega
        by_cases h3 : atP n (min i j) (max i j) < q
        · rw [if_pos ⟨hc.1, hc.2.1, hc.2.2, h3⟩, if_pos ⟨hc.1, hc.2.1, hc.2.2, by omega⟩]
        · rw [if_neg (by omega), if_neg (by omega)]
      · rw [if_neg (by omega), if_neg (by omega)]
/-- the table of a painting -/
def shX (n : Nat) (l : List Int) : Nat → Nat → Int := shK n l (allP n).length
theorem shX_col {n : Nat} {l : List Int} (hn : n ≤ 8) {i j : Nat} (hi : i < n) (hj : j < n) (hij : i ≠ j) : shX n l i j = colX n l i j := by
  unfold shX colX
  rw [shK_at hn _ (Nat.le_refl _), if_pos ⟨hij, hi, hj, atP_lt hn (by omega) (by omega)⟩]
theorem shX_out {n : Nat} {l : List Int} (hn : n ≤ 8) {i j : Nat} (h : ¬ (i ≠ j ∧ i < n ∧ j < n)) : shX n l i j = 0 := by
  unfold shX
  rw [shK_at hn _ (Nat.le_refl _), if_neg (by omega)]

set_option maxHeartbeats 4000000 in
set_option maxRecDepth 100000 in
theorem shadesOf_any (n : Nat) (k : Int) (l : List Int) (A : Option Addr) (c : Nat) (w : World) (hx : isX n k l = true) (hA : CRead w w.heap.size A (icells l)) :
    Calls Try.prog 70 #[.agg #[.int .i64 n, .int .i64 k, .slice A l.length c]] w fun e w' => e = .returned (.agg (shC (shX n l))) ∧ Below w.heap.size w w' := by
  have hn := (isX_parts hx).1
  have hn8 : n ≤ 8 := by omega
  have hlen := isX_len hx
  have hsm := isX_small hx
  rw [Int.toNat_natCast] at hlen
  obtain ⟨F, hF⟩ : ∃ F, shC (shX n l) = F := ⟨_, rfl⟩
  have hFs : F.size = 64 := by rw [← hF]; exact shC_size _
  have hF1 : F.all (·.oneCell') = true := by rw [← hF]; exact shC_one _
  rw [hF]
  have HF := Lib.hid hF
  have HFs := Lib.hid hFs
  have HF1 := Lib.hid hF1
  have Hlen := Lib.hid hlen
  have Hx := Lib.hid hx
  clear hF hFs hF1 hx hlen
  obtain ⟨W, hW⟩ : ∃ W, ((w.alloc (Obj.cells #[.int .i64 n, .int .i64 k, .slice A l.length c] 27)).alloc (Obj.cells (shC fun _ _ => 0) 78)).alloc (Obj.cells (shC fun _ _ => 0) 78) = W := ⟨_, rfl⟩
  have kW : Below w.heap.size w W := by rw [← hW]; go_grown
  have a0 : W.cell? ⟨w.heap.size, 0, none⟩ = some (.int .i64 n) := by rw [← hW]; exact (World.cell?_alloc_lt _ _ _ (by simp; omega)).trans ((World.cell?_alloc_lt _ _ _ (by simp)).trans (by simp))
  have a2 : W.cell? ⟨w.heap.size, 2, none⟩ = some (.slice A l.length c) := by rw [← hW]; exact (World.cell?_alloc_lt _ _ _ (by simp; omega)).trans ((World.cell?_alloc_lt _ _ _ (by simp)).trans (by simp))
  have rowR : W.rowIs (w.heap.size + 1) 78 64 (fun _ => .int .i64 0) := by
    rw [← hW]
    have := (rowIs_sh (w.alloc (Obj.cells #[.int .i64 n, .int .i64 k, .slice A l.length c] 27)) (fun _ _ => 0) 78).alloc (Obj.cells (shC fun _ _ => 0) 78)
    simp only [World.size_alloc] at this
    exact this
  have rowS : W.rowIs (w.heap.size + 2) 78 64 (fun _ => .int .i64 0) := by
    rw [← hW]
    have := rowIs_sh ((w.alloc (Obj.cells #[.int .i64 n, .int .i64 k, .slice A l.length c] 27)).alloc (Obj.cells (shC fun _ _ => 0) 78)) (fun _ _ => 0) 78
    simp only [World.size_alloc] at this
    exact this
  have sW : W.heap.size = w.heap.size + 3 := by rw [← hW]; simp
  have s1 : w.heap.size + 2 < W.heap.size := by omega
  have bR := sh_block (f := fun _ _ => 0) rowR
  have bS := sh_block (f := fun _ _ => 0) rowS
  rw [shC_zero] at hW
  have HW := Lib.hid hW
  clear hW rowR rowS sW
  go_enter Try.func70, Try.ntmps70
  go_upto_region 2 with fail
  rw [HW.out]
  go_wp2_with fail
  refine (everyPair_any n (by omega) _).mono ?_
  rintro e w1 ⟨P1, c1, rfl, own1, hb1⟩
  have s2 := hb1.size
  have b0 := carry hb1 a0 (by omega)
  have b2 := carry hb1 a2 (by omega)
  have k1 := kW.trans (hb1.mono kW.size)
  have br1 := (hb1.block (w.heap.size + 2) s1).trans bS
  have bq1 := (hb1.block (w.heap.size + 1) (by omega)).trans bR
  have Own1 := Lib.hid own1
  clear a0 a2 bR bS own1 hb1
  obtain ⟨N, hN⟩ : ∃ N, (allP n).length = N := ⟨_, rfl⟩
  have HN := Lib.hid hN
  rw [hN]
  clear hN
  go_wp2_with fail
  go_loopw [10] (fun i wr => ∃ q : Nat, q ≤ N ∧ i = .int .i64 q ∧ wr.heap[w.heap.size + 2]? = some (.cells (shC (shK n l q)) 78 (0, 0)) ∧ Below (w.heap.size + 2) w1 wr ∧ w1.heap.size ≤ wr.heap.size ∧ (∀ j, j ≠ w.heap.size + 2 → j < w1.heap.size → wr.heap[j]? = w1.heap[j]?)) (fun i _ => N - (intOf i).toNat)
  case atStart => exact ⟨0, Nat.zero_le _, rfl, br1, Below.refl _ _, Nat.le_refl _, fun _ _ _ => rfl⟩
  case round =>
    obtain ⟨q, hq, rfl, bq, hb, sb, hk⟩ := hrel
    have sq : Below w.heap.size w wr := k1.trans (hb.mono (by omega))
    have e2 := (cell_of_blk (o := 2) (hk w.heap.size (by omega) (by omega))).trans b2
    have Hb := Lib.hid hb
    have Hk := Lib.hid hk
    clear hb hk
    by_cases hlt : q < N
    · obtain ⟨a, b, hab, hbn, hat, hpq, hpair⟩ := pairAt_of hn8 (show q < (allP n).length by rw [HN.out]; exact hlt)
      obtain ⟨b1, off, rfl, hbb, c0, c1⟩ := (CRead.of_own Own1.out).pair hpq
      have hgb := (Own1.out.lt b1 rfl).1
      have d0 := (cell_of_blk (o := off + q * 2) (Hk.out b1 (by omega) hbb)).trans c0
      have d1 := (cell_of_blk (o := off + q * 2 + 1) (Hk.out b1 (by omega) hbb)).trans c1
      obtain ⟨x, hx⟩ := getSome l q (by rw [Hlen.out, HN.out]; exact hlt)
      obtain ⟨bb, off2, rfl, hbb2, c2⟩ := (hA.below sq (Nat.le_refl _)).int hx
      have hqi : (q : Int) < (N : Int) := by omega
      have hql : (q : Int) < (l.length : Int) := by rw [Hlen.out, HN.out]; exact hqi
      have hnext := shK_next hpair hx
      obtain ⟨S, hS⟩ : ∃ S, shC (shK n l q) = S := ⟨_, rfl⟩
      have hSs : S.size = 64 := by rw [← hS]; exact shC_size _
      have call := fun X : World => with_any (shK n l q) a b x (by omega) (by omega) X
      rw [hS] at bq call
      rw [← hnext] at call
      obtain ⟨T, hT⟩ : ∃ T, shC (shK n l (q + 1)) = T := ⟨_, rfl⟩
      have hTs : T.size = 64 := by rw [← hT]; exact shC_size _
      have hT1 : T.all (·.oneCell') = true := by rw [← hT]; exact shC_one _
      rw [hT] at call
      have hi : (Try.prog.info? 78).map (·.size) = some S.size := by rw [hSs]; exact sh_info
      have hi' : (Try.prog.info? 78).map (·.size) = some T.size := by rw [hTs]; exact sh_info
      have Call := Lib.hid call
      have HT := Lib.hid hT
      have HSs := Lib.hid hSs
      have HTs := Lib.hid hTs
      have HT1 := Lib.hid hT1
      have Bq := Lib.hid bq
      clear c0 c1 hx hpq hpair hat hnext hS call hT hSs hTs hT1 bq
      go_upto_region 5 with fail
      obtain ⟨X, hX⟩ : ∃ X, wr.alloc (Obj.cells #[.int .i64 a, .int .i64 b] 85) = X := ⟨_, rfl⟩
      have kX : Below wr.heap.size wr X := by rw [← hX]; exact (Below.refl _ _).alloc (Nat.le_refl _) _
      have m0 : X.cell? ⟨wr.heap.size, 0, none⟩ = some (.int .i64 a) := by rw [← hX]; simp
      have m1 : X.cell? ⟨wr.heap.size, 1, none⟩ = some (.int .i64 b) := by rw [← hX]; simp
      have hwr : w.heap.size + 2 < wr.heap.size := by omega
      have e2X := carry kX e2 (by omega)
      have c2X := carry kX c2 (by have := sq.size; omega)
      have bqX : X.heap[w.heap.size + 2]? = some (.cells S 78 (0, 0)) := (kX.block _ hwr).trans Bq.out
      rw [hX]
      have BqX := Lib.hid bqX
      have KX := Lib.hid kX
      clear hX d0 d1 e2 c2 bqX kX
      refine wp_region_still_tail 7 (by kernel_rfl) (by kernel_rfl) ?_
      simp only [List.take_succ_cons, List.take_zero, List.drop_succ_cons, List.drop_zero]
      refine wpStill_load_row rfl 78 _ rfl (w.heap.size + 2) rfl 78 S (0, 0) _ BqX.out sh_under rfl hi ?_
      repeat still_step
      refine wpStill_nil ?_
      change wpList _ _ _ _ _ (World.drew _)
      clear m0 m1 e2X c2X
      go_wp2_with fail
      refine (Call.out _).mono ?_
      rintro e w2 ⟨rfl, hb2⟩
      have g2 : Below X.heap.size X w2 := (Below.refl _ _).drew.trans hb2
      have g3 : Below wr.heap.size wr w2 := KX.out.trans (g2.mono KX.out.size)
      have bq2 : w2.heap[w.heap.size + 2]? = some (.cells S 78 (0, 0)) := (g2.block _ (by have := KX.out.size; omega)).trans BqX.out
      have Bq2 := Lib.hid bq2
      clear bq2 hb2
      go_wp2_with (first | (refine wpList_store_row rfl 78 _ _ rfl (w.heap.size + 2) T rfl rfl 78 S Bq2.out hi' (by rw [HSs.out, HTs.out]) HT1.out ?_))
      go_roundw
      case rel =>
        refine ⟨q + 1, by omega, by go_num, ?_, below_setRow (Hb.out.trans (g3.mono (by omega))) (Nat.le_refl _) T, ?_, fun j hj hjl => ?_⟩
        · rw [HT.out]
          exact setRow_heap w2 _ S T _ (0, 0) Bq2.out
        · rw [size_setRow]
          have := g3.size
          omega
        · rw [setRow_other _ _ _ _ hj]
          exact (g3.block j (by omega)).trans (Hk.out j hj hjl)
      case measure => simp [intOf]; omega
    · have hqN : q = N := by omega
      subst hqN
      have hge : ¬ ((q : Int) < (q : Int)) := by omega
      have hfin : shC (shK n l q) = F := by rw [← HF.out, ← HN.out]; rfl
      rw [hfin] at bq
      have bg := (Hk.out (w.heap.size + 1) (by omega) (by omega)).trans bq1
      obtain ⟨G, hG⟩ : ∃ G, shC (fun _ _ => 0) = G := ⟨_, rfl⟩
      have hGs : G.size = 64 := by rw [← hG]; exact shC_size _
      rw [hG] at bg
      have hi : (Try.prog.info? 78).map (·.size) = some F.size := by rw [HFs.out]; exact sh_info
      have Bq := Lib.hid bq
      have Bg := Lib.hid bg
      have Sq := Lib.hid sq
      clear bq bg hG hfin sq e2
      go_wp2_with (first | (refine wpList_load_row rfl 78 _ rfl (w.heap.size + 2) rfl 78 F (0, 0) _ Bq.out sh_under rfl hi ?_) | (refine wpList_store_row rfl 78 _ _ rfl (w.heap.size + 1) F rfl rfl 78 G Bg.out hi (by rw [hGs, HFs.out]) HF1.out ?_))
      refine bodyPost_ret (v := .agg F) (results_cell_row rfl _ _ (w.heap.size + 1) 78 F (0, 0) _ rfl (setRow_heap wr (w.heap.size + 1) G F 78 (0, 0) Bg.out) sh_under rfl hi) rfl ?_
      exact ⟨rfl, below_setRow Sq.out (by omega) F⟩
end Go.Proofs.Ytepoabbkalhifaa
/-
  LISTS OF LISTS OF NUMBERS, read; the laws' own comparison of two that are equal.
-/
namespace Go.Proofs.Ytepoabbkalhifaa
open Go.RowKit

/-- a slice of slices of numbers can be read: its headers, and the rows that they name, lie below B -/
def SRead (w : World) (B : Nat) (A : Option Addr) (LL : List (List Int)) : Prop :=
  ∀ i l, LL[i]? = some l → ∃ b off A' c', A = some ⟨b, off, none⟩ ∧ b < B ∧ w.cell? ⟨b, off + i, none⟩ = some (.slice A' l.length c') ∧ CRead w B A' (icells l)
theorem SRead.below {w w' : World} {B B' : Nat} {A : Option Addr} {LL : List (List Int)} (h : SRead w B A LL) (hb : Below B w w') (hB : B ≤ B') : SRead w' B' A LL := by
  intro i l hi
  obtain ⟨b, off, A', c', e, hlt, hc, hr⟩ := h i l hi
  exact ⟨b, off, A', c', e, by omega, carry hb hc hlt, (hr.below hb (Nat.le_refl _)).more hB⟩

set_option maxHeartbeats 2000000 in
set_option maxRecDepth 100000 in
theorem eqIntSS_same (LL : List (List Int)) (A B : Option Addr) (c d : Nat) (w : World) (hl : LL.length ≤ maxLen) (hr : ∀ l ∈ LL, l.length ≤ maxLen)
    (hA : SRead w w.heap.size A LL) (hB : SRead w w.heap.size B LL) :
    Calls Try.prog 39 #[.slice A LL.length c, .slice B LL.length d] w fun e w' => e = .returned (.bool true) ∧ Below w.heap.size w w' := by
  unfold maxLen at hl
  go_enter Try.func39, Try.ntmps39
  go_wp2_with fail
  go_loopw [5] (fun i wr => ∃ k : Nat, k ≤ LL.length ∧ i = .int .i64 k ∧ Below w.heap.size w wr) (fun i _ => LL.length - (intOf i).toNat)
  case atStart => exact ⟨0, Nat.zero_le _, rfl, Below.refl _ _⟩
  case round =>
    obtain ⟨k, hk, rfl, hb⟩ := hrel
    by_cases hlt : k < LL.length
    · obtain ⟨l, hx⟩ := getSome LL k hlt
      obtain ⟨b, off, A1, c1, rfl, hb1, d1, R1⟩ := (hA.below hb hb.size) k l hx
      obtain ⟨b', off', A2, c2, rfl, hb2, d2, R2⟩ := (hB.below hb hb.size) k l hx
      have hll := hr l (List.mem_of_getElem? hx)
      have hki : (k : Int) < (LL.length : Int) := by omega
      clear hx
      go_wp2_with fail
      go_region_law (first | (go_simp; go_at_call 57; refine (eqIntS_any l l A1 A2 c1 c2 wr.drew hll hll (show CRead wr.drew wr.drew.heap.size A1 (icells l) from R1) (show CRead wr.drew wr.drew.heap.size A2 (icells l) from R2)).mono ?_; rw [decide_eq_true rfl]; rintro e w2 ⟨rfl, hb3⟩; have hb4 : Below w.heap.size w w2 := hb.trans ((Below.drew (Below.refl wr.heap.size wr)).trans hb3 |>.mono hb.size)) | fail)
      all_goals (go_wp2_with fail)
      all_goals (go_roundw)
      all_goals first
        | exact ⟨k + 1, by omega, by go_num, hb4⟩
        | (simp [intOf]; omega)
    · have hge : ¬ ((k : Int) < (LL.length : Int)) := by omega
      go_wp2
      go_ret
      exact ⟨rfl, hb⟩
/-- how many numbers lie in the first rows -/
def lens (ns : List Nat) (k : Nat) : Nat := (ns.take k).sum
theorem lens_succ {ns : List Nat} {k n : Nat} (h : ns[k]? = some n) : lens ns (k + 1) = lens ns k + n := by
  unfold lens
  rw [List.take_add_one, h, Option.toList_some, List.sum_append]
  simp
theorem lens_le (ns : List Nat) : ∀ k, lens ns k ≤ ns.sum := by
  intro k
  unfold lens
  have h := congrArg List.sum (List.take_append_drop k ns)
  rw [List.sum_append] at h
  omega
/-- the marks of rows of such lengths, counted on from row to row -/
def rowMarks (k0 : Int) (ns : List Nat) : List (List Int) := (List.range ns.length).map fun i => imarks (k0 + lens ns i) (ns.getD i 0)
theorem rowMarks_length (k0 : Int) (ns : List Nat) : (rowMarks k0 ns).length = ns.length := by simp [rowMarks]
theorem rowMarks_at {k0 : Int} {ns : List Nat} {k n : Nat} (h : ns[k]? = some n) : (rowMarks k0 ns)[k]? = some (imarks (k0 + lens ns k) n) := by
  have hk := (List.getElem?_eq_some_iff.1 h).1
  simp [rowMarks, hk, List.getD_eq_getElem?_getD]
  have := (List.getElem?_eq_some_iff.1 h).2
  rw [this]

set_option maxHeartbeats 2000000 in
set_option maxRecDepth 100000 in
theorem heldIntSS_any (ns : List Nat) (A : Option Addr) (c : Nat) (k0 : Int) (w : World) (hl : ns.length ≤ 1048576) (hs : ns.sum ≤ 1048576) (hk0 : 0 ≤ k0 ∧ k0 ≤ 8388608) (hA : SRead w w.heap.size A (rowMarks k0 ns)) :
    Calls Try.prog 41 #[.slice A ns.length c, .int .i64 k0] w fun e w' => e = .returned (.int .i64 (k0 + ns.sum)) ∧ w = w' := by
  obtain ⟨hk00, hk01⟩ := hk0
  go_enter Try.func41, Try.ntmps41
  go_wp2_with fail
  go_loopw [1, 5] (fun q i wr => ∃ k : Nat, k ≤ ns.length ∧ i = .int .i64 k ∧ q = .int .i64 (k0 + lens ns k) ∧ w = wr) (fun _ i _ => ns.length - (intOf i).toNat)
  case atStart => exact ⟨0, Nat.zero_le _, rfl, by simp [lens], rfl⟩
  case round =>
    obtain ⟨k, hk, rfl, rfl, rfl⟩ := hrel
    have hs1 := lens_le ns k
    by_cases hlt : k < ns.length
    · obtain ⟨n, hx⟩ := getSome ns k hlt
      have hs2 := lens_le ns (k + 1)
      have hsc := lens_succ hx
      obtain ⟨b, off, A1, c1, rfl, hb1, d1, R1⟩ := hA k _ (rowMarks_at hx)
      rw [imarks_length] at d1
      have hki : (k : Int) < (ns.length : Int) := by omega
      have Hsc := Lib.hid hsc
      generalize hm : k0 + (lens ns k : Int) = m at *
      have hm0 : 0 ≤ m := by omega
      have hm1 : m ≤ 16777216 := by omega
      have hnn : n ≤ 1048576 := by omega
      have hneg : ¬ (m + (n : Int) < 0) := by omega
      have Hm := Lib.hid hm
      clear hx hm hsc
      go_wp2_with fail
      refine (heldIntS_any A1 n c1 m _ hnn ⟨hm0, hm1⟩ R1).mono ?_
      rintro e w2 ⟨rfl, rfl⟩
      go_wp2
      go_roundw
      case rel => exact ⟨k + 1, by omega, by go_num, by rw [Hsc.out, ← Hm.out]; congr 1; omega, trivial⟩
      case measure => simp [intOf]; omega
    · have hkl : k = ns.length := by omega
      have hge : ¬ ((k : Int) < (ns.length : Int)) := by omega
      have e : lens ns k = ns.sum := by unfold lens; rw [List.take_of_length_le (by omega)]
      rw [e]
      go_wp2
      go_ret
      exact ⟨rfl, rfl⟩
end Go.Proofs.Ytepoabbkalhifaa
/-
  A LIST OF LISTS OF NUMBERS OF THE CALL's OWN: its headers a row, each of its rows a row, all in blocks of their own; 'laws.markIntSS' by its contract.
-/
namespace Go.Proofs.Ytepoabbkalhifaa
open Go.RowKit

theorem own_apart {w : World} {B B' : Nat} {e e' : TypeId} {s s' n n' : Nat} {v v' : Value} {xs xs' : List Value} (h1 : w.ownsRow B e s v n xs) (h2 : w.ownsRow B' e' s' v' n' xs') (hne : e ≠ e') : v.ownBlock = none ∨ v.ownBlock ≠ v'.ownBlock := by
  rcases h1.2 with ⟨rfl, _⟩ | ⟨g, cap, cur, rfl, _, hh, _⟩
  · left; simp [Value.ownBlock]
  · right
    rcases h2.2 with ⟨rfl, _⟩ | ⟨g', cap', cur', rfl, _, hh', _⟩
    · simp [Value.ownBlock]
    · intro e3
      have e4 : g = g' := by simpa [Value.ownBlock] using e3
      subst e4
      rw [hh] at hh'
      injection hh' with h
      injection h with _ ht
      exact hne ht

/-- n rows of numbers, row i under the slice (R i, N i, C i) -/
structure RowsG (w : World) (B : Nat) (v : Value) (n : Nat) (R : Nat → Option Addr) (C N : Nat → Nat) (F : Nat → List Int) : Prop where
  own : w.ownsRow B 22 1 v n ((List.range n).map fun i => Value.slice (R i) (N i) (C i))
  row : ∀ i, i < n → (F i).length = N i ∧ w.ownsRow B 3 1 (.slice (R i) (N i) (C i)) (N i) (icells (F i))
  apart : ∀ i j, i < n → j < n → i ≠ j → (Value.slice (R i) (N i) (C i)).ownBlock = none ∨ (Value.slice (R i) (N i) (C i)).ownBlock ≠ (Value.slice (R j) (N j) (C j)).ownBlock
section
variable {w w' : World} {B n : Nat} {v : Value} {R : Nat → Option Addr} {C N : Nat → Nat} {F F' : Nat → List Int}
theorem RowsG.congr (h : RowsG w B v n R C N F) (e : ∀ i, i < n → F i = F' i) : RowsG w B v n R C N F' :=
  ⟨h.own, fun i hi => by rw [← e i hi]; exact h.row i hi, h.apart⟩
theorem RowsG.kept (h : RowsG w B v n R C N F) (hg : w.grownBy w' none) : RowsG w' B v n R C N F :=
  ⟨h.own.kept hg (by cases v.ownBlock <;> simp), fun i hi => ⟨(h.row i hi).1, (h.row i hi).2.kept hg (by cases (Value.slice (R i) (N i) (C i)).ownBlock <;> simp)⟩, h.apart⟩
/-- another row i of the same length -/
theorem RowsG.set (h : RowsG w B v n R C N F) {k : Nat} (hk : k < n) {l : List Int} (hl : l.length = N k) (hg : w.grownBy w' (Value.slice (R k) (N k) (C k)).ownBlock) (ho : w'.ownsRow B 3 1 (.slice (R k) (N k) (C k)) (N k) (icells l)) :
    RowsG w' B v n R C N (fun i => if i = k then l else F i) := by
  refine ⟨h.own.kept hg (own_apart h.own (h.row k hk).2 (by decide)), fun i hi => ?_, h.apart⟩
  by_cases e : i = k
  · subst e
    simp only [if_true]
    exact ⟨hl, ho⟩
  · simp only [if_neg e]
    exact ⟨(h.row i hi).1, (h.row i hi).2.kept hg (h.apart i k hi hk e)⟩
theorem RowsG.read {A : Option Addr} {c : Nat} {LL : List (List Int)} (h : RowsG w B (.slice A n c) n R C N F) (hn : LL.length = n) (hL : ∀ i l, LL[i]? = some l → F i = l) : SRead w w.heap.size A LL := by
  intro i l hi
  have hin : i < n := by have := (List.getElem?_eq_some_iff.1 hi).1; omega
  obtain ⟨g, rfl⟩ := own_form h.own (by omega)
  obtain ⟨h1, h2⟩ := h.row i hin
  rw [hL i l hi] at h1 h2
  refine ⟨g, 0, R i, C i, rfl, (own_lt h.own).2, ?_, CRead.of_own h2⟩
  rw [Nat.zero_add, h.own.cellAt i (by omega)]
  simp [hin, h1]
end

set_option maxHeartbeats 2000000 in
set_option maxRecDepth 100000 in
theorem markIntSS_any (ns : List Nat) (A : Option Addr) (c : Nat) (k0 : Int) (B : Nat) (R : Nat → Option Addr) (C : Nat → Nat) (F : Nat → List Int) (w : World) (hl : ns.length ≤ 1048576) (hs : ns.sum ≤ 1048576) (hk0 : 0 ≤ k0 ∧ k0 ≤ 8388608) (hB : B ≤ w.heap.size)
    (h : RowsG w B (.slice A ns.length c) ns.length R C (fun i => ns.getD i 0) F) :
    Calls Try.prog 40 #[.slice A ns.length c, .int .i64 k0] w fun e w' => e = .returned (.int .i64 (k0 + ns.sum)) ∧ RowsG w' B (.slice A ns.length c) ns.length R C (fun i => ns.getD i 0) (fun i => imarks (k0 + lens ns i) (ns.getD i 0)) ∧ Below B w w' := by
  obtain ⟨hk00, hk01⟩ := hk0
  go_enter Try.func40, Try.ntmps40
  go_wp2_with fail
  go_loopw [1, 5] (fun q i wr => ∃ k : Nat, k ≤ ns.length ∧ i = .int .i64 k ∧ q = .int .i64 (k0 + lens ns k) ∧ RowsG wr B (.slice A ns.length c) ns.length R C (fun i => ns.getD i 0) (fun i => if i < k then imarks (k0 + lens ns i) (ns.getD i 0) else F i) ∧ Below B w wr) (fun _ i _ => ns.length - (intOf i).toNat)
  case atStart => exact ⟨0, Nat.zero_le _, rfl, by simp [lens], h.congr fun i _ => by rw [if_neg (Nat.not_lt_zero _)], Below.refl _ _⟩
  case round =>
    clear h
    obtain ⟨k, hk, rfl, rfl, hG, hb⟩ := hrel
    have hs1 := lens_le ns k
    have hBr : B ≤ wr.heap.size := Nat.le_trans hB hb.size
    by_cases hlt : k < ns.length
    · obtain ⟨n, hx⟩ := getSome ns k hlt
      have hs2 := lens_le ns (k + 1)
      have hsc := lens_succ hx
      have hgd : ns.getD k 0 = n := by rw [List.getD_eq_getElem?_getD, hx]; rfl
      obtain ⟨g, rfl⟩ := own_form hG.own (by omega)
      have d1 : wr.cell? ⟨g, k, none⟩ = some (.slice (R k) n (C k)) := by
        rw [hG.own.cellAt k (by omega)]
        simp only [List.getElem?_map, List.getElem?_range hlt, Option.map_some, hgd]
      obtain ⟨h1, h2⟩ := hG.row k hlt
      rw [if_neg (Nat.lt_irrefl k)] at h1 h2
      rw [hgd] at h1 h2
      have hki : (k : Int) < (ns.length : Int) := by omega
      have HG := Lib.hid hG
      have Hsc := Lib.hid hsc
      have Hgd := Lib.hid hgd
      generalize hm : k0 + (lens ns k : Int) = m at *
      have hm0 : 0 ≤ m := by omega
      have hm1 : m ≤ 16777216 := by omega
      have hnn : n ≤ 1048576 := by omega
      have Hm := Lib.hid hm
      clear hx hm hsc hG hgd
      go_wp2_with fail
      refine (markIntS_any (F k) (R k) n (C k) m B _ h1 hnn ⟨hm0, hm1⟩ h2).mono ?_
      rintro e w2 ⟨rfl, own2, hg2⟩
      have hb2 := hb.grown hg2 hBr (fun i hi => (h2.lt i hi).1)
      have G2 := Lib.hid ((HG.out.set hlt (l := imarks m n) (by rw [imarks_length]; exact Hgd.out.symm) (by simp only [Hgd.out]; exact hg2) (by simp only [Hgd.out]; exact own2)).congr (F' := fun i => if i < k + 1 then imarks (k0 + lens ns i) (ns.getD i 0) else F i) fun i _ => by
        by_cases e : i = k
        · subst e
          simp only [if_true, if_pos (Nat.lt_succ_self i), Hm.out, Hgd.out]
        · simp only [if_neg e]
          by_cases h3 : i < k
          · simp only [if_pos h3, if_pos (Nat.lt_succ_of_lt h3)]
          · simp only [if_neg h3, if_neg (show ¬ i < k + 1 by omega)])
      clear own2 hg2 h2 h1
      go_wp2
      go_roundw
      case rel => exact ⟨k + 1, by omega, by go_num, by rw [Hsc.out, ← Hm.out]; congr 1; omega, G2.out, hb2⟩
      case measure => simp [intOf]; omega
    · have hkl : k = ns.length := by omega
      have hge : ¬ ((k : Int) < (ns.length : Int)) := by omega
      have e : lens ns k = ns.sum := by unfold lens; rw [List.take_of_length_le (by omega)]
      rw [e]
      have HG := Lib.hid (hG.congr (F' := fun i => imarks (k0 + lens ns i) (ns.getD i 0)) fun i hi => by rw [if_pos (by omega)])
      clear hG
      go_wp2
      go_ret
      exact ⟨rfl, HG.out, hb⟩
end Go.Proofs.Ytepoabbkalhifaa
/-
  A LIST OF LISTS OF NUMBERS OF THE CALL's OWN: a row of none put behind it, and a number put behind one of its rows.
-/
namespace Go.Proofs.Ytepoabbkalhifaa
open Go.RowKit

section
variable {w w' w2 : World} {B n : Nat} {v v' : Value} {R : Nat → Option Addr} {C N : Nat → Nat} {F : Nat → List Int}
def upN {α : Type} (f : Nat → α) (k : Nat) (x : α) : Nat → α := fun i => if i = k then x else f i
theorem upN_self {α : Type} (f : Nat → α) (k : Nat) (x : α) : upN f k x k = x := by simp [upN]
theorem upN_ne {α : Type} (f : Nat → α) {k i : Nat} (x : α) (h : i ≠ k) : upN f k x i = f i := by simp [upN, h]
/-- behind an append of one header, nil -/
theorem RowsG.push (h : RowsG w B v n R C N F) (hg : w.grownBy w' v.ownBlock) (ho : w'.ownsRow B 22 1 v' (n + 1) (((List.range n).map fun i => Value.slice (R i) (N i) (C i)) ++ [.slice none 0 0])) :
    RowsG w' B v' (n + 1) (upN R n none) (upN C n 0) (upN N n 0) (upN F n []) := by
  refine ⟨?_, fun i hi => ?_, fun i j hi hj hij => ?_⟩
  · rw [List.range_succ, List.map_append, List.map_singleton, upN_self, upN_self, upN_self]
    rw [List.map_congr_left (g := fun i => Value.slice (R i) (N i) (C i)) fun i hi => by
      have : i ≠ n := by have := List.mem_range.1 hi; omega
      rw [upN_ne _ _ this, upN_ne _ _ this, upN_ne _ _ this]]
    exact ho
  · by_cases e : i = n
    · subst e
      simp only [upN_self]
      exact ⟨rfl, World.ownsRow_nil _ _ _ _⟩
    · simp only [upN_ne _ _ e]
      have hin : i < n := by omega
      exact ⟨(h.row i hin).1, (h.row i hin).2.kept hg (own_apart (h.row i hin).2 h.own (by decide))⟩
  · by_cases e : i = n
    · subst e
      simp only [upN_self]
      left; simp [Value.ownBlock]
    · simp only [upN_ne _ _ e]
      by_cases e2 : j = n
      · subst e2
        simp only [upN_self]
        cases hq : (Value.slice (R i) (N i) (C i)).ownBlock with
        | none => exact .inl rfl
        | some b => right; simp [Value.ownBlock]
      · simp only [upN_ne _ _ e2]
        exact h.apart i j (by omega) (by omega) hij
theorem map_range_set {α : Type} (f : Nat → α) (k : Nat) (x : α) (n : Nat) : ((List.range n).map f).set k x = (List.range n).map (upN f k x) := by
  apply List.ext_getElem (by simp)
  intro j h1 h2
  rw [List.getElem_set]
  simp only [List.getElem_map, List.getElem_range]
  by_cases e : k = j
  · subst e; simp [upN]
  · rw [if_neg e, upN_ne _ _ (fun h => e h.symm)]
/-- behind an append of a number to row k and the store of its header -/
theorem RowsG.grow {g c : Nat} (h : RowsG w B (.slice (some ⟨g, 0, none⟩) n c) n R C N F) {k : Nat} (hk : k < n) {x : Int} {b d : Nat}
    (hg : w.grownBy w2 (Value.slice (R k) (N k) (C k)).ownBlock) (ho : w2.ownsRow B 3 1 (.slice (some ⟨b, 0, none⟩) (N k + 1) d) (N k + 1) (icells (F k) ++ [.int .i64 x]))
    (hat : (Value.slice (R k) (N k) (C k)).ownBlock = some b ∨ b = w.heap.size) :
    RowsG (w2.setCell ⟨g, k, none⟩ (.slice (some ⟨b, 0, none⟩) (N k + 1) d)) B (.slice (some ⟨g, 0, none⟩) n c) n (upN R k (some ⟨b, 0, none⟩)) (upN C k d) (upN N k (N k + 1)) (upN F k (F k ++ [x])) := by
  have own2 := h.own.kept hg (own_apart h.own (h.row k hk).2 (by decide))
  have hst := own2.stored k (.slice (some ⟨b, 0, none⟩) (N k + 1) d)
  have hob : (Value.slice (some ⟨g, 0, none⟩) n c).ownBlock = some g := by simp [Value.ownBlock]
  refine ⟨?_, fun i hi => ?_, fun i j hi hj hij => ?_⟩
  · have h1 := hst.1
    rw [map_range_set] at h1
    rw [List.map_congr_left (g := upN (fun i => Value.slice (R i) (N i) (C i)) k (.slice (some ⟨b, 0, none⟩) (N k + 1) d)) fun i _ => by
      by_cases e : i = k
      · subst e; simp only [upN_self]
      · simp only [upN_ne _ _ e]]
    exact h1
  · by_cases e : i = k
    · subst e
      simp only [upN_self]
      refine ⟨by rw [List.length_append, (h.row i hi).1]; rfl, ?_⟩
      rw [icells_append]
      refine World.ownsRow.kept ho hst.2 ?_
      rw [← hob]
      exact own_apart ho own2 (by decide)
    · simp only [upN_ne _ _ e]
      have hr := (h.row i hi).2.kept hg (h.apart i k hi hk e)
      refine ⟨(h.row i hi).1, hr.kept hst.2 ?_⟩
      rw [← hob]
      exact own_apart hr own2 (by decide)
  · have hlt : ∀ i, i < n → ∀ m, (Value.slice (R i) (N i) (C i)).ownBlock = some m → m < w.heap.size := fun i hi m hm => ((h.row i hi).2.lt m hm).2
    have hbn : (Value.slice (some ⟨b, 0, none⟩) (N k + 1) d).ownBlock = some b := by simp [Value.ownBlock]
    by_cases e : i = k
    · subst e
      simp only [upN_self, upN_ne _ _ (fun h => hij h.symm), hbn]
      right
      intro e2
      rcases hat with h1 | h1
      · rcases h.apart i j hi hj hij with h2 | h2
        · rw [h1] at h2; cases h2
        · exact h2 (h1.trans e2)
      · have := hlt j hj b e2.symm
        omega
    · by_cases e2 : j = k
      · subst e2
        simp only [upN_self, upN_ne _ _ e, hbn]
        cases hq : (Value.slice (R i) (N i) (C i)).ownBlock with
        | none => exact .inl rfl
        | some m =>
          right
          intro e3
          have e4 : m = b := by simpa using e3
          subst e4
          rcases hat with h1 | h1
          · rcases h.apart i j hi hj hij with h2 | h2
            · rw [hq] at h2; cases h2
            · exact h2 (hq.trans h1.symm)
          · have := hlt i hi m hq
            omega
      · simp only [upN_ne _ _ e, upN_ne _ _ e2]
        exact h.apart i j hi hj hij
end
end Go.Proofs.Ytepoabbkalhifaa
/-
  LISTS OF LISTS OF NUMBERS AS RESULTS: rows of the call's own, apart from each other; what the laws' marking and counting need of them.
-/
namespace Go.Proofs.Ytepoabbkalhifaa
open Go.RowKit

/-- the rows of a list of lists, each in a block of its own -/
def RowsL (w : World) (B : Nat) (v : Value) (LL : List (List Int)) (R : Nat → Option Addr) (C : Nat → Nat) : Prop :=
  RowsG w B v LL.length R C (fun i => (LL.getD i []).length) (fun i => LL.getD i [])
section
variable {w w' : World} {B n : Nat} {v v' : Value} {R : Nat → Option Addr} {C N : Nat → Nat} {F F' : Nat → List Int} {LL : List (List Int)}
theorem RowsG.below (h : RowsG w B v n R C N F) (hb : Below w.heap.size w w') : RowsG w' B v n R C N F :=
  ⟨own_below h.own hb (Nat.le_refl _), fun i hi => ⟨(h.row i hi).1, own_below (h.row i hi).2 hb (Nat.le_refl _)⟩, h.apart⟩
theorem RowsG.lower {B' : Nat} (h : RowsG w B v n R C N F) (hB : B' ≤ B) : RowsG w B' v n R C N F :=
  ⟨own_lower h.own hB, fun i hi => ⟨(h.row i hi).1, own_lower (h.row i hi).2 hB⟩, h.apart⟩
theorem own_from {e : TypeId} {s m : Nat} {u : Value} {xs : List Value} (h : w.ownsRow B e s u m xs) {x : Value} {lo hi : Nat} (hl : Lies x lo hi) (hB : hi ≤ B) : u.ownBlock = none ∨ u.ownBlock ≠ x.ownBlock := by
  cases e1 : u.ownBlock with
  | none => exact .inl rfl
  | some k =>
    right
    intro e2
    have h1 := (h.lt k e1).1
    have h2 := (hl k e2.symm).2
    omega
theorem RowsG.keptG (h : RowsG w B v n R C N F) {x : Value} {lo hi : Nat} (hg : w.grownBy w' x.ownBlock) (hl : Lies x lo hi) (hB : hi ≤ B) : RowsG w' B v n R C N F :=
  ⟨h.own.kept hg (own_from h.own hl hB), fun i hi => ⟨(h.row i hi).1, (h.row i hi).2.kept hg (own_from (h.row i hi).2 hl hB)⟩, h.apart⟩
theorem RowsL.none (w : World) (B : Nat) : RowsL w B (Value.slice Option.none 0 0) [] (fun _ => Option.none) (fun _ => 0) :=
  ⟨World.ownsRow_nil _ _ _ _, fun _ hi => absurd hi (Nat.not_lt_zero _), fun _ _ hi => absurd hi (Nat.not_lt_zero _)⟩
theorem getD_of {i : Nat} {l : List Int} (h : LL[i]? = some l) : LL.getD i [] = l := by rw [List.getD_eq_getElem?_getD, h]; rfl
theorem RowsL.below (h : RowsL w B v LL R C) (hb : Below w.heap.size w w') : RowsL w' B v LL R C := RowsG.below h hb
theorem RowsL.lower {B' : Nat} (h : RowsL w B v LL R C) (hB : B' ≤ B) : RowsL w B' v LL R C := RowsG.lower h hB
theorem RowsL.keptG (h : RowsL w B v LL R C) {x : Value} {lo hi : Nat} (hg : w.grownBy w' x.ownBlock) (hl : Lies x lo hi) (hB : hi ≤ B) : RowsL w' B v LL R C := RowsG.keptG h hg hl hB
theorem SRead.more {A : Option Addr} {B' : Nat} (h : SRead w B A LL) (hB : B ≤ B') : SRead w B' A LL := by
  intro i l hi
  obtain ⟨b, off, A', c', e, hlt, hc, hr⟩ := h i l hi
  exact ⟨b, off, A', c', e, by omega, hc, hr.more hB⟩
theorem RowsL.read {A : Option Addr} {c : Nat} (h : RowsL w B (.slice A LL.length c) LL R C) : SRead w w.heap.size A LL := RowsG.read h rfl fun _ _ hi => getD_of hi
/-- a row of its own put behind them, and its header -/
theorem RowsL.push (h : RowsL w B v LL R C) {l : List Int} {A : Option Addr} {c : Nat} (hr : w.ownsRow B 3 1 (.slice A l.length c) l.length (icells l))
    (hap : ∀ i, i < LL.length → (Value.slice (R i) (LL.getD i []).length (C i)).ownBlock = Option.none ∨ (Value.slice (R i) (LL.getD i []).length (C i)).ownBlock ≠ (Value.slice A l.length c).ownBlock)
    (hg : w.grownBy w' v.ownBlock) (ho : w'.ownsRow B 22 1 v' (LL.length + 1) (((List.range LL.length).map fun i => Value.slice (R i) (LL.getD i []).length (C i)) ++ [.slice A l.length c])) :
    RowsL w' B v' (LL ++ [l]) (upN R LL.length A) (upN C LL.length c) := by
  have hne : ∀ i, i < LL.length → (LL ++ [l]).getD i [] = LL.getD i [] := fun i hi => by
    rw [List.getD_eq_getElem?_getD, List.getD_eq_getElem?_getD, List.getElem?_append_left hi]
  have heq : (LL ++ [l]).getD LL.length [] = l := by rw [List.getD_eq_getElem?_getD]; simp
  unfold RowsL
  rw [List.length_append, List.length_singleton]
  refine ⟨?_, fun i hi => ?_, fun i j hi hj hij => ?_⟩
  · rw [List.range_succ, List.map_append, List.map_singleton, upN_self, upN_self, heq]
    rw [List.map_congr_left (g := fun i => Value.slice (R i) (LL.getD i []).length (C i)) fun i hi => by
      have := List.mem_range.1 hi
      rw [upN_ne _ _ (by omega), upN_ne _ _ (by omega), hne i this]]
    exact ho
  · by_cases e : i = LL.length
    · subst e
      simp only [upN_self, heq]
      exact ⟨trivial, hr.kept hg (own_apart hr h.own (by decide))⟩
    · have hin : i < LL.length := by omega
      simp only [upN_ne _ _ e, hne i hin]
      exact ⟨trivial, (h.row i hin).2.kept hg (own_apart (h.row i hin).2 h.own (by decide))⟩
  · by_cases e : i = LL.length
    · subst e
      have hjn : j < LL.length := by omega
      simp only [upN_self, upN_ne _ _ (show j ≠ LL.length by omega), heq, hne j hjn]
      cases hq : (Value.slice A l.length c).ownBlock with
      | none => exact .inl rfl
      | some b =>
        right
        intro e2
        rcases hap j hjn with h3 | h3
        · rw [h3] at e2; cases e2
        · rw [hq] at h3; exact h3 e2.symm
    · have hin : i < LL.length := by omega
      by_cases e2 : j = LL.length
      · subst e2
        simp only [upN_self, upN_ne _ _ e, heq, hne i hin]
        exact hap i hin
      · have hjn : j < LL.length := by omega
        simp only [upN_ne _ _ e, upN_ne _ _ e2, hne i hin, hne j hjn]
        exact h.apart i j hin hjn hij
/-- a row made behind a world is apart from the rows of that world -/
theorem RowsL.fresh (h : RowsL w B v LL R C) {x : Value} {lo hi : Nat} (hx : Lies x lo hi) (hlo : w.heap.size ≤ lo) : ∀ i, i < LL.length → (Value.slice (R i) (LL.getD i []).length (C i)).ownBlock = Option.none ∨ (Value.slice (R i) (LL.getD i []).length (C i)).ownBlock ≠ x.ownBlock := by
  intro i hi
  cases e1 : (Value.slice (R i) (LL.getD i []).length (C i)).ownBlock with
  | none => exact .inl rfl
  | some k =>
    right
    intro e2
    have h1 := ((h.row i hi).2.lt k e1).2
    have h2 := (hx k e2.symm).1
    omega
theorem LRows.read {A : Option Addr} {c : Nat} {hs : List Value} (h : LRows w B (.slice A LL.length c) LL hs) : SRead w w.heap.size A LL := by
  intro i l hi
  have hin : i < LL.length := (List.getElem?_eq_some_iff.1 hi).1
  obtain ⟨g, rfl⟩ := own_form h.own (by omega)
  obtain ⟨A', c', e, o⟩ := h.row i l hi
  refine ⟨g, 0, A', c', rfl, (own_lt h.own).2, ?_, CRead.of_own o⟩
  rw [Nat.zero_add, h.own.cellAt i (by omega)]
  exact e
end
/-- how many numbers lie in all rows -/
def sumL (LL : List (List Int)) : Nat := (LL.map List.length).sum
theorem sumL_row {LL : List (List Int)} {l : List Int} (h : l ∈ LL) : l.length ≤ sumL LL := by
  unfold sumL
  induction LL with
  | nil => cases h
  | cons x LL ih =>
    simp only [List.map_cons, List.sum_cons]
    rcases List.mem_cons.1 h with rfl | h
    · omega
    · have := ih h; omega
theorem sumL_le {LL : List (List Int)} {m : Nat} (h : ∀ l ∈ LL, l.length ≤ m) : sumL LL ≤ LL.length * m := by
  unfold sumL
  induction LL with
  | nil => simp
  | cons x LL ih =>
    simp only [List.map_cons, List.sum_cons, List.length_cons]
    have h1 := h x List.mem_cons_self
    have h2 := ih fun l hl => h l (List.mem_cons_of_mem _ hl)
    rw [Nat.add_mul]
    omega
theorem lens_at (LL : List (List Int)) (i : Nat) : (LL.map List.length).getD i 0 = (LL.getD i []).length := by
  rw [List.getD_eq_getElem?_getD, List.getD_eq_getElem?_getD, List.getElem?_map]
  cases LL[i]? <;> rfl
/-- the rows are marked, counted on from k0 -/
def MarkedL (w : World) (B : Nat) (v : Value) (LL : List (List Int)) (k0 : Int) (R : Nat → Option Addr) (C : Nat → Nat) : Prop :=
  RowsG w B v LL.length R C (fun i => (LL.getD i []).length) (fun i => imarks (k0 + lens (LL.map List.length) i) (LL.getD i []).length)
theorem MarkedL.below {w w' : World} {B : Nat} {v : Value} {LL : List (List Int)} {k0 : Int} {R : Nat → Option Addr} {C : Nat → Nat} (h : MarkedL w B v LL k0 R C) (hb : Below w.heap.size w w') : MarkedL w' B v LL k0 R C := RowsG.below h hb
theorem markIntSS_rows (LL : List (List Int)) (A : Option Addr) (c : Nat) (k0 : Int) (B : Nat) (R : Nat → Option Addr) (C : Nat → Nat) (w : World) (hl : LL.length ≤ 1048576) (hs : sumL LL ≤ 1048576) (hk0 : 0 ≤ k0 ∧ k0 ≤ 8388608) (hB : B ≤ w.heap.size)
    (h : RowsL w B (.slice A LL.length c) LL R C) :
    Calls Try.prog 40 #[.slice A LL.length c, .int .i64 k0] w fun e w' => e = .returned (.int .i64 (k0 + sumL LL)) ∧ MarkedL w' B (.slice A LL.length c) LL k0 R C ∧ Below B w w' := by
  have g := markIntSS_any (LL.map List.length) A c k0 B R C (fun i => LL.getD i []) w (by simpa using hl) hs hk0 hB (by simp only [List.length_map, lens_at]; exact h)
  simp only [List.length_map, lens_at] at g
  exact g
theorem heldIntSS_rows (LL : List (List Int)) (A : Option Addr) (c : Nat) (k0 : Int) (B : Nat) (R : Nat → Option Addr) (C : Nat → Nat) (w : World) (hl : LL.length ≤ 1048576) (hs : sumL LL ≤ 1048576) (hk0 : 0 ≤ k0 ∧ k0 ≤ 8388608)
    (h : MarkedL w B (.slice A LL.length c) LL k0 R C) :
    Calls Try.prog 41 #[.slice A LL.length c, .int .i64 k0] w fun e w' => e = .returned (.int .i64 (k0 + sumL LL)) ∧ w = w' := by
  have g := heldIntSS_any (LL.map List.length) A c k0 w (by simpa using hl) hs hk0 (RowsG.read (LL := rowMarks k0 (LL.map List.length)) h (by simp [rowMarks_length]) fun i l hi => by
    have hlt := (List.getElem?_eq_some_iff.1 hi).1
    rw [rowMarks_length, List.length_map] at hlt
    have e := rowMarks_at (k0 := k0) (ns := LL.map List.length) (k := i) (n := (LL.getD i []).length) (by rw [List.getElem?_map, List.getD_eq_getElem?_getD, List.getElem?_eq_getElem hlt]; rfl)
    rw [e] at hi
    exact (Option.some.inj hi))
  simp only [List.length_map] at g
  exact g
/-- A call came back with lists of numbers, and whether it did. -/
def GotRowsOk (w : World) (LL : List (List Int)) (ok : Bool) (e : Ending) (w' : World) : Prop :=
  ∃ A c R C, e = .returned (.tuple #[.slice A LL.length c, .bool ok]) ∧ RowsL w' w.heap.size (.slice A LL.length c) LL R C ∧ Below w.heap.size w w'
/-- the same of the model's: that they can be read is enough -/
def ReadRowsOk (w : World) (LL : List (List Int)) (ok : Bool) (e : Ending) (w' : World) : Prop :=
  ∃ A c, e = .returned (.tuple #[.slice A LL.length c, .bool ok]) ∧ SRead w' w'.heap.size A LL ∧ Below w.heap.size w w'
theorem SRead.nil (w : World) (B : Nat) (A : Option Addr) : SRead w B A [] := fun i l h => by simp at h
end Go.Proofs.Ytepoabbkalhifaa
/-
  TRIPLES IN ORDER, pure: all a < b < c of n people that a test takes, and what is left of them at a place.
-/
namespace Go.Proofs.Ytepoabbkalhifaa

def l1T (P : Nat → Nat → Nat → Bool) (n a b c : Nat) : List (List Int) := ((List.range' c (n - c)).filter (P a b)).map fun c : Nat => [(a : Int), (b : Int), (c : Int)]
def l2T (P : Nat → Nat → Nat → Bool) (n a b : Nat) : List (List Int) := (List.range' b (n - b)).flatMap fun b => l1T P n a b (b + 1)
def l3T (P : Nat → Nat → Nat → Bool) (n a : Nat) : List (List Int) := (List.range' a (n - a)).flatMap fun a => l2T P n a (a + 1)
theorem rangeT {n a : Nat} (h : a < n) : List.range' a (n - a) = a :: List.range' (a + 1) (n - (a + 1)) := by
  rw [show n - a = (n - (a + 1)) + 1 by omega, List.range'_succ]
theorem l1T_step {P : Nat → Nat → Nat → Bool} {n a b c : Nat} (h : c < n) : l1T P n a b c = (if P a b c then [[(a : Int), (b : Int), (c : Int)]] else []) ++ l1T P n a b (c + 1) := by
  unfold l1T
  rw [rangeT h, List.filter_cons]
  split <;> simp
theorem l1T_end {P : Nat → Nat → Nat → Bool} {n a b c : Nat} (h : n ≤ c) : l1T P n a b c = [] := by
  unfold l1T
  rw [show n - c = 0 by omega]
  rfl
theorem l2T_step {P : Nat → Nat → Nat → Bool} {n a b : Nat} (h : b < n) : l2T P n a b = l1T P n a b (b + 1) ++ l2T P n a (b + 1) := by
  unfold l2T
  rw [rangeT h, List.flatMap_cons]
theorem l2T_end {P : Nat → Nat → Nat → Bool} {n a b : Nat} (h : n ≤ b) : l2T P n a b = [] := by
  unfold l2T
  rw [show n - b = 0 by omega]
  rfl
theorem l3T_step {P : Nat → Nat → Nat → Bool} {n a : Nat} (h : a < n) : l3T P n a = l2T P n a (a + 1) ++ l3T P n (a + 1) := by
  unfold l3T
  rw [rangeT h, List.flatMap_cons]
theorem l3T_end {P : Nat → Nat → Nat → Bool} {n a : Nat} (h : n ≤ a) : l3T P n a = [] := by
  unfold l3T
  rw [show n - a = 0 by omega]
  rfl
theorem flat_le {α β : Type} {f : α → List β} {m : Nat} : ∀ (l : List α), (∀ x ∈ l, (f x).length ≤ m) → (l.flatMap f).length ≤ l.length * m
  | [], _ => by simp
  | x :: l, h => by
    rw [List.flatMap_cons, List.length_append, List.length_cons, Nat.add_mul, Nat.one_mul]
    have h1 := h x (by simp)
    have h2 := flat_le l fun y hy => h y (by simp [hy])
    omega
theorem l1T_len (P : Nat → Nat → Nat → Bool) (n a b c : Nat) : (l1T P n a b c).length ≤ n := by
  unfold l1T
  rw [List.length_map]
  have := List.length_filter_le (P a b) (List.range' c (n - c))
  rw [List.length_range'] at this
  omega
theorem l3T_len (P : Nat → Nat → Nat → Bool) (n a : Nat) (hn : n ≤ 8) : (l3T P n a).length ≤ 512 := by
  have h2 : ∀ a b, (l2T P n a b).length ≤ 64 := fun a b => by
    have h := flat_le (f := fun b => l1T P n a b (b + 1)) (m := 8) (List.range' b (n - b)) fun x _ => Nat.le_trans (l1T_len P n a x (x + 1)) hn
    rw [List.length_range'] at h
    unfold l2T
    have : (n - b) * 8 ≤ 8 * 8 := Nat.mul_le_mul_right 8 (by omega)
    omega
  have h := flat_le (f := fun a => l2T P n a (a + 1)) (m := 64) (List.range' a (n - a)) fun x _ => h2 x (x + 1)
  rw [List.length_range'] at h
  unfold l3T
  have : (n - a) * 64 ≤ 8 * 64 := Nat.mul_le_mul_right 64 (by omega)
  omega
theorem l3T_row {P : Nat → Nat → Nat → Bool} {n a : Nat} {l : List Int} (h : l ∈ l3T P n a) : l.length ≤ 3 := by
  unfold l3T l2T l1T at h
  simp only [List.mem_flatMap, List.mem_map] at h
  obtain ⟨x, _, y, _, z, _, rfl⟩ := h
  simp
theorem l3T_sum (P : Nat → Nat → Nat → Bool) (n : Nat) (hn : n ≤ 8) : sumL (l3T P n 0) ≤ 1048576 := by
  have h1 := sumL_le (LL := l3T P n 0) (m := 3) fun l hl => l3T_row hl
  have h2 := l3T_len P n 0 hn
  omega
/-- the three pairs have one colour -/
def oneP (f : Nat → Nat → Int) (a b c : Nat) : Bool := (f a b == f a c) && (f a b == f b c)
end Go.Proofs.Ytepoabbkalhifaa
/-
  'ptThrees' of the model, by its contract.
-/
namespace Go.Proofs.Ytepoabbkalhifaa
open Go.RowKit

/-- all triples of one colour -/
def threesX (n : Nat) (l : List Int) : List (List Int) := l3T (oneP (shX n l)) n 0
theorem Try.infoRowT : (Try.prog.info? 22).map (fun i => (i.zero, i.size, i.bytes)) = some (some (.slice none 0 0), 1, 24) := by kernel_rfl
theorem own_built3 (w : World) (x y z : Value) (e : TypeId) : (w.alloc (.cells #[x, y, z] e)).ownsRow w.heap.size e 1 (.slice (some ⟨w.heap.size, 0, none⟩) 3 3) 3 [x, y, z] :=
  ⟨by simp, .inr ⟨w.heap.size, 3, #[x, y, z], rfl, Nat.le_refl _, heap_alloc_new w _, Nat.le_refl _, by unfold maxLen; omega, rfl, by simp⟩⟩

set_option maxHeartbeats 8000000 in
set_option maxRecDepth 100000 in
theorem ptThrees_any (n : Nat) (k : Int) (l : List Int) (A : Option Addr) (c0 : Nat) (w : World) (hx : isX n k l = true) (hA : CRead w w.heap.size A (icells l)) :
    Calls Try.prog 87 #[.agg #[.int .i64 n, .int .i64 k, .slice A l.length c0]] w fun e w' => ∃ A' c' R C, e = .returned (.slice A' (threesX n l).length c') ∧ RowsL w' w.heap.size (.slice A' (threesX n l).length c') (threesX n l) R C ∧ Below w.heap.size w w' := by
  obtain ⟨i0, hi, hz0, hz1, hz2⟩ := info_parts Try.infoRowT
  have hn := (isX_parts hx).1
  have hn8 : n ≤ 8 := by omega
  obtain ⟨f, hf⟩ : ∃ f, shX n l = f := ⟨_, rfl⟩
  obtain ⟨T, hT⟩ : ∃ T, threesX n l = T := ⟨_, rfl⟩
  have hT' : T = l3T (oneP f) n 0 := by rw [← hT, ← hf]; rfl
  have hTl : T.length ≤ 512 := by rw [hT']; exact l3T_len _ n 0 hn8
  rw [hT]
  obtain ⟨W, hW⟩ : ∃ W, w.alloc (Obj.cells #[.int .i64 n, .int .i64 k, .slice A l.length c0] 27) = W := ⟨_, rfl⟩
  have a0 : W.cell? ⟨w.heap.size, 0, none⟩ = some (.int .i64 n) := by rw [← hW]; simp
  have a1 : W.cell? ⟨w.heap.size, 1, none⟩ = some (.int .i64 k) := by rw [← hW]; simp
  have a2 : W.cell? ⟨w.heap.size, 2, none⟩ = some (.slice A l.length c0) := by rw [← hW]; simp
  have kW : Below w.heap.size w W := by rw [← hW]; go_grown
  have sW : w.heap.size < W.heap.size := by rw [← hW]; simp
  have RA : CRead W W.heap.size A (icells l) := (hA.below kW (Nat.le_refl _)).more kW.size
  have call : ∀ (X : World) (_ : Below W.heap.size W X) (i j : Nat), i < n → j < n → i ≠ j → Calls Try.prog 68 #[.agg #[.int .i64 n, .int .i64 k, .slice A l.length c0], .int .i64 i, .int .i64 j] X fun e w' => e = .returned (.int .i64 (f i j)) ∧ Below X.heap.size X w' := fun X hX i j hi hj hij => by
    rw [← hf, shX_col hn8 hi hj hij]
    exact ptOf_any n k l A c0 i j X hx hi hj hij ((RA.below hX (Nat.le_refl _)).more hX.size)
  have Call := Lib.hid call
  have HW := Lib.hid hW
  have A0 := Lib.hid a0
  have A1 := Lib.hid a1
  have A2 := Lib.hid a2
  have HT := Lib.hid hT'
  have st3 : ∀ a, a < n → l3T (oneP f) n a = l2T (oneP f) n a (a + 1) ++ l3T (oneP f) n (a + 1) := fun a h => l3T_step h
  have st2 : ∀ a b, b < n → l2T (oneP f) n a b = l1T (oneP f) n a b (b + 1) ++ l2T (oneP f) n a (b + 1) := fun a b h => l2T_step h
  have st1 : ∀ a b c, c < n → l1T (oneP f) n a b c = (if oneP f a b c then [[(a : Int), (b : Int), (c : Int)]] else []) ++ l1T (oneP f) n a b (c + 1) := fun a b c h => l1T_step h
  have St3 := Lib.hid st3
  have St2 := Lib.hid st2
  have St1 := Lib.hid st1
  clear call hW a0 a1 a2 hf hT hT' st3 st2 st1 RA hx
  go_enter Try.func87, Try.ntmps87
  go_upto_region 2 with fail
  rw [HW.out]
  go_wp2_with fail
  go_loopw [3, 4] (fun v i wa => ∃ (a : Nat) (LL : List (List Int)) (R : Nat → Option Addr) (C : Nat → Nat), a ≤ n ∧ i = .int .i64 a ∧ RowsL wa W.heap.size v LL R C ∧ Below W.heap.size W wa ∧ LL ++ l3T (oneP f) n a = T) (fun _ i _ => n - (intOf i).toNat)
  case atStart => exact ⟨0, [], _, _, Nat.zero_le _, rfl, RowsL.none _ _, Below.refl _ _, by rw [HT.out]; rfl⟩
  case round =>
    obtain ⟨a, LL, R, C, ha, rfl, hG, hb, hLL⟩ := hrel
    have u0 := carry hb A0.out sW
    have HG := Lib.hid hG
    have Hb := Lib.hid hb
    have HLL := Lib.hid hLL
    clear hG hb hLL
    by_cases hlt : a < n
    · have hai : (a : Int) < n := by omega
      go_wp2_with fail
      clear u0
      go_loopw [3, 5] (fun v i wb => ∃ (b : Nat) (LL : List (List Int)) (R : Nat → Option Addr) (C : Nat → Nat), a < b ∧ b ≤ n ∧ i = .int .i64 b ∧ RowsL wb W.heap.size v LL R C ∧ Below W.heap.size W wb ∧ LL ++ (l2T (oneP f) n a b ++ l3T (oneP f) n (a + 1)) = T) (fun _ i _ => n - (intOf i).toNat)
      case atStart => exact ⟨a + 1, LL, R, C, by omega, by omega, by go_num, HG.out, Hb.out, by rw [← St3.out a hlt]; exact HLL.out⟩
      case round =>
        clear HG Hb HLL
        obtain ⟨b, LL, R, C, hab, hbn, rfl, hG, hb, hLL⟩ := hrel
        have u0 := carry hb A0.out sW
        have HG := Lib.hid hG
        have Hb := Lib.hid hb
        have HLL := Lib.hid hLL
        clear hG hb hLL
        by_cases hbt : b < n
        · have hbi : (b : Int) < n := by omega
          go_wp2_with fail
          clear u0
          go_loopw [3, 6] (fun v i wc => ∃ (c : Nat) (LL : List (List Int)) (R : Nat → Option Addr) (C : Nat → Nat), b < c ∧ c ≤ n ∧ i = .int .i64 c ∧ RowsL wc W.heap.size v LL R C ∧ Below W.heap.size W wc ∧ LL ++ (l1T (oneP f) n a b c ++ (l2T (oneP f) n a (b + 1) ++ l3T (oneP f) n (a + 1))) = T) (fun _ i _ => n - (intOf i).toNat)
          case atStart => exact ⟨b + 1, LL, R, C, by omega, by omega, by go_num, HG.out, Hb.out, by rw [← List.append_assoc (l1T _ _ _ _ _), ← St2.out a b hbt]; exact HLL.out⟩
          case round =>
            clear HG Hb HLL
            obtain ⟨c, LL, R, C, hbc, hcn, rfl, hG, hb, hLL⟩ := hrel
            have u0 := carry hb A0.out sW
            have HG := Lib.hid hG
            have Hb := Lib.hid hb
            have HLL := Lib.hid hLL
            have hLl : LL.length ≤ 512 := by have := congrArg List.length hLL; rw [List.length_append] at this; omega
            clear hG hLL
            by_cases hct : c < n
            · have hci : (c : Int) < n := by omega
              have p0 : ∀ z : Ext wr.heap.size wr, z.val.cell? ⟨w.heap.size, 0, none⟩ = some (.int .i64 n) := fun z => z.cell u0 (by have := hb.size; omega)
              have p1 : ∀ z : Ext wr.heap.size wr, z.val.cell? ⟨w.heap.size, 1, none⟩ = some (.int .i64 k) := fun z => z.cell (carry hb A1.out sW) (by have := hb.size; omega)
              have p2 : ∀ z : Ext wr.heap.size wr, z.val.cell? ⟨w.heap.size, 2, none⟩ = some (.slice A l.length c0) := fun z => z.cell (carry hb A2.out sW) (by have := hb.size; omega)
              have call2 : ∀ (z : Ext wr.heap.size wr) (i j : Nat), i < n → j < n → i ≠ j → Calls Try.prog 68 #[.agg #[.int .i64 n, .int .i64 k, .slice A l.length c0], .int .i64 i, .int .i64 j] z.val fun e w' => e = .returned (.int .i64 (f i j)) ∧ Below z.val.heap.size z.val w' := fun z i j hi hj hij => Call.out z.val (hb.trans (z.2.mono hb.size)) i j hi hj hij
              have Call2 := Lib.hid call2
              have sb := hb.size
              clear call2 hb
              go_wp2_with fail
              cases hq : (f a b == f a c) with
              | false =>
                have hone : oneP f a b c = false := by unfold oneP; rw [hq]; rfl
                refine wp_region_ext wr.heap.size (by kernel_rfl) (by kernel_rfl) ?_
                repeat (go_big_quiet_step ((first | (go_at_call 68; exact Calls.ext_of ((Call2.out _ _ _ (by omega) (by omega) (by omega)).mono fun _ _ h => ⟨h.1, h.2.mono (Ext.size _)⟩)))))
                refine wpQuiet_nil ?_
                rintro w1 ⟨⟨_, hb1⟩, rfl⟩
                clear p0 p1 p2
                have hno := St1.out a b c hct
                rw [hone, if_neg Bool.false_ne_true, List.nil_append] at hno
                have Hno := Lib.hid hno
                have HG2 := Lib.hid (HG.out.below hb1)
                have Hb2 := Lib.hid (Hb.out.trans (hb1.mono sb))
                clear hno hone
                go_wp2
                go_roundw
                case rel => exact ⟨c + 1, LL, R, C, by omega, by omega, by go_num, HG2.out, Hb2.out, by rw [← Hno.out]; exact HLL.out⟩
                case measure => simp [intOf]; omega
              | true =>
                cases hq2 : (f a b == f b c) with
                | false =>
                  have hone : oneP f a b c = false := by unfold oneP; rw [hq, hq2]; rfl
                  refine wp_region_ext wr.heap.size (by kernel_rfl) (by kernel_rfl) ?_
                  repeat (go_big_quiet_step ((first | (go_at_call 68; exact Calls.ext_of ((Call2.out _ _ _ (by omega) (by omega) (by omega)).mono fun _ _ h => ⟨h.1, h.2.mono (Ext.size _)⟩)))))
                  refine wpQuiet_nil ?_
                  rintro w1 ⟨⟨_, hb1⟩, rfl⟩
                  clear p0 p1 p2
                  have hno := St1.out a b c hct
                  rw [hone, if_neg Bool.false_ne_true, List.nil_append] at hno
                  have Hno := Lib.hid hno
                  have HG2 := Lib.hid (HG.out.below hb1)
                  have Hb2 := Lib.hid (Hb.out.trans (hb1.mono sb))
                  clear hno hone
                  go_wp2
                  go_roundw
                  case rel => exact ⟨c + 1, LL, R, C, by omega, by omega, by go_num, HG2.out, Hb2.out, by rw [← Hno.out]; exact HLL.out⟩
                  case measure => simp [intOf]; omega
                | true =>
                  have hone : oneP f a b c = true := by unfold oneP; rw [hq, hq2]; rfl
                  refine wp_region_ext wr.heap.size (by kernel_rfl) (by kernel_rfl) ?_
                  repeat (go_big_quiet_step ((first | (go_at_call 68; exact Calls.ext_of ((Call2.out _ _ _ (by omega) (by omega) (by omega)).mono fun _ _ h => ⟨h.1, h.2.mono (Ext.size _)⟩)))))
                  refine wpQuiet_nil ?_
                  rintro w1 ⟨⟨_, hb1⟩, rfl⟩
                  clear p0 p1 p2
                  have hno := St1.out a b c hct
                  rw [hone, if_pos rfl] at hno
                  have Hno := Lib.hid hno
                  have s1 := hb1.size
                  have hG2 := HG.out.below hb1
                  have hb2 := Hb.out.trans (hb1.mono sb)
                  have hoW := hG2.own
                  have HG2 := Lib.hid hG2
                  have Hb2 := Lib.hid hb2
                  clear hno hone hG2 hb2 hb1
                  go_wp2_with (at_builtin; refine wpList_append_own _ rfl _ _ 53 rfl W.heap.size 22 i0 (.slice none 0 0) 1 24 Try.underlying53 hi hz0 hz1 hz2 rfl (by decide) _ _ _ rfl ((hoW.alloc _).alloc _) ⟨w1.heap.size + 1, 0, none⟩ 1 1 [.slice (some ⟨w1.heap.size, 0, none⟩) 3 3] rfl rfl (one_cell (by simp)) (one_one rfl) (by unfold maxLen; omega) (by omega) (by simp; omega) ?_; intro v1 w3 hown3 hg3 _)
                  have hb3 : Below W.heap.size W w3 := ((Hb2.out.alloc (by omega) _).alloc (by simp; omega) _).grown hg3 (by simp; omega) (fun b hb => (hoW.lt b hb).1)
                  have row1 := own_built3 w1 (.int .i64 a) (.int .i64 b) (.int .i64 c) 3
                  have ch3 := RowsL.push (l := [(a : Int), (b : Int), (c : Int)]) (HG2.out.below (((Below.refl w1.heap.size w1).alloc (Nat.le_refl _) _).alloc (by simp) _)) (own_lower (row1.alloc _) (by omega)) (HG2.out.fresh (own_lies row1) (Nat.le_refl _)) hg3 hown3
                  have Ch3 := Lib.hid ch3
                  have Hb3 := Lib.hid hb3
                  clear ch3 hb3 hown3 hg3 hoW row1
                  go_roundw
                  case rel => exact ⟨c + 1, _, _, _, by omega, by omega, by go_num, Ch3.out, Hb3.out, by rw [List.append_assoc, ← List.append_assoc [_], ← Hno.out]; exact HLL.out⟩
                  case measure => simp [intOf]; omega
            · have hcn2 : c = n := by omega
              have hge : ¬ ((c : Int) < n) := by omega
              have hlf : LL ++ (l2T (oneP f) n a (b + 1) ++ l3T (oneP f) n (a + 1)) = T := by have h := HLL.out; rw [l1T_end (by omega), List.nil_append] at h; exact h
              have Hlf := Lib.hid hlf
              clear hlf hb
              subst hcn2
              go_wp2
              go_roundw
              case rel => exact ⟨b + 1, LL, R, C, by omega, by omega, by go_num, HG.out, Hb.out, Hlf.out⟩
              case measure => simp [intOf]; omega
        · have hge : ¬ ((b : Int) < n) := by omega
          have hlf : LL ++ l3T (oneP f) n (a + 1) = T := by have h := HLL.out; rw [l2T_end (by omega), List.nil_append] at h; exact h
          have Hlf := Lib.hid hlf
          clear hlf
          go_wp2
          go_roundw
          case rel => exact ⟨a + 1, LL, R, C, by omega, by go_num, HG.out, Hb.out, Hlf.out⟩
          case measure => simp [intOf]; omega
    · have hge : ¬ ((a : Int) < n) := by omega
      have hlf : LL = T := by have h := HLL.out; rw [l3T_end (by omega), List.append_nil] at h; exact h
      subst hlf
      have hsh := HG.out.own
      obtain ⟨Av, cv, rfl, _⟩ := own_shape hsh
      have kw := kW.trans (Hb.out.mono (by omega))
      clear hsh
      go_wp2
      go_ret
      exact ⟨Av, cv, rfl, ⟨R, C, HG.out.lower (by omega)⟩, kw⟩
end Go.Proofs.Ytepoabbkalhifaa
