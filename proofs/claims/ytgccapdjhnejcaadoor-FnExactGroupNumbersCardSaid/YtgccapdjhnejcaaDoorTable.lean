/-
  THE MODEL's TABLE OF A PARTY, AND THE PARTY OF A TABLE, by their contracts.
-/
import Derived.Test.YtgccapdjhnejcaaDoorTab
import Derived.StillTailTactics
namespace Go.Proofs.YtgccapdjhnejcaaDoor
open Go.RowKit

theorem Tryd.infoRow : (Tryd.prog.info? 97).map (fun i => (i.zero, i.size, i.bytes)) = some (some (.slice none 0 0), 1, 24) := by kernel_rfl

set_option maxHeartbeats 2000000 in
set_option maxRecDepth 100000 in
theorem paTable_any (p : Int) (l : PL) (A : Option Addr) (c : Nat) (w : World) (hp : isP p l = true) (hA : CRead w w.heap.size A (pcells l)) :
    Calls Tryd.prog 49 #[.agg #[.int .i64 p, .slice A l.length c]] w (GotTab w p.toNat (adj l)) := by
  obtain ⟨i0, hi, hz0, hz1, hz2⟩ := info_parts Tryd.infoRow
  obtain ⟨i1, hj, hy0, hy1, hy2⟩ := info_parts Tryd.infoBool
  obtain ⟨n, rfl⟩ : ∃ n : Nat, p = n := ⟨p.toNat, by have := isP_range hp; omega⟩
  have hn := isP_range hp
  have hlen : l.length ≤ 66 := by have h1 := isP_length hp; have h2 := people_sq hn.1 hn.2; omega
  simp only [Int.toNat_natCast]
  have Hp := Lib.hid hp
  clear hp
  generalize hB : w.heap.size + 1 = B
  have hBw : w.heap.size < B := by omega
  have HB := Lib.hid hB
  have hB0 : w.heap.size + 1 ≤ B := by omega
  have hB1 : B ≤ w.heap.size + 1 := by omega
  clear hB
  go_enter Tryd.func49, Tryd.ntmps49
  go_wp2
  go_loopw [3, 4] (fun v i wr => ∃ k : Nat, ∃ G, k ≤ n ∧ i = .int .i64 k ∧ TabG wr B v k n G (fun _ _ => false) ∧ Below B (w.alloc (Obj.cells #[.int .i64 (n : Int), .slice A l.length c] 31)) wr) (fun _ i _ => n - (intOf i).toNat)
  case atStart => exact ⟨0, fun _ => 0, Nat.zero_le _, rfl, TabG.nil _ _ _ _ _, Below.refl _ _⟩
  case round =>
    obtain ⟨k, G, hk, rfl, htab, hb⟩ := hrel
    have hs := hb.size
    simp only [World.size_alloc] at hs
    have u0 : wr.cell? ⟨w.heap.size, 0, none⟩ = some (.int .i64 n) := carry hb (by simp) hBw
    have u1 : wr.cell? ⟨w.heap.size, 1, none⟩ = some (.slice A l.length c) := carry hb (by simp) hBw
    by_cases hlt : k < n
    · have hki : (k : Int) < n := by omega
      go_wp2_with (first
        | (at_make; refine wpList_make_row _ rfl _ _ 97 rfl 4 i1 (.bool false) Tryd.underlying97 hj hy0 hy1 rfl _ _ n rfl rfl (by rw [hy2]; omega) (by omega) ?_)
        | (at_builtin; refine wpList_append_own _ rfl _ _ 57 rfl B 97 i0 (.slice none 0 0) 1 24 Tryd.underlying57 hi hz0 hz1 hz2 rfl (by decide) _ _ _ rfl ((htab.own.alloc _).alloc _) ⟨wr.heap.size + 1, 0, none⟩ 1 1 [.slice (some ⟨wr.heap.size, 0, none⟩) n n] rfl rfl (one_cell (by simp)) (one_one rfl) (by unfold maxLen; omega) (by omega) (by simp; omega) ?_; intro v' w1 hown' hgrow _; have htab' := htab.push (by omega) hgrow hown'))
      have hb1 : Below B (w.alloc (Obj.cells #[.int .i64 (n : Int), .slice A l.length c] 31)) w1 := ((hb.alloc (by omega) _).alloc (by simp; omega) _).grown hgrow (by simp; omega) (fun b hb => (htab.own.lt b hb).1)
      clear hown' hgrow
      go_roundw
      case rel => exact ⟨k + 1, _, by omega, by go_num, htab', hb1⟩
      case measure => simp [intOf]; omega
    · have hkl : n = k := by omega
      subst hkl
      have hge : ¬ ((n : Int) < n) := by omega
      obtain ⟨A', c', rfl, _⟩ := own_shape htab.own
      go_wp2
      go_loopw [22] (fun i wx => ∃ m : Nat, m ≤ l.length ∧ i = .int .i64 m ∧ TabG wx B (.slice A' n c') n n G (adj (l.take m)) ∧ Below B (w.alloc (Obj.cells #[.int .i64 (n : Int), .slice A l.length c] 31)) wx) (fun i _ => l.length - (intOf i).toNat)
      case atStart => exact ⟨0, Nat.zero_le _, rfl, by simpa [adj_nil] using htab, hb⟩
      case round =>
        clear htab hb u0 u1 hs
        obtain ⟨m, hm, rfl, htab, hb⟩ := hrel
        have hs := hb.size
        simp only [World.size_alloc] at hs
        have hbw : Below w.heap.size w wr := Below.trans (b := _) (by go_grown) (hb.mono (by omega))
        by_cases hmt : m < l.length
        · obtain ⟨⟨x, y⟩, hx⟩ := getSome l m hmt
          obtain ⟨h0, h1, h2⟩ := goodAt_pair (isP_good Hp.out hmt) hx
          obtain ⟨a, rfl⟩ : ∃ a : Nat, x = a := ⟨x.toNat, by omega⟩
          obtain ⟨b, rfl⟩ : ∃ b : Nat, y = b := ⟨y.toNat, by omega⟩
          obtain ⟨bb, off, rfl, hbb, c0, c1⟩ := (hA.below hbw (Nat.le_refl _)).pair hx
          obtain ⟨g, rfl⟩ := own_form htab.own (by omega)
          have hmi : (m : Int) < (l.length : Int) := by omega
          have han : a < n := by omega
          have hbn : b < n := by omega
          have ha : (a : Int) < n := by omega
          have hb' : (b : Int) < n := h2
          have hGa := htab.blk han
          have hGb := htab.blk hbn
          have Hx := Lib.hid hx
          clear hx
          go_wp2
          generalize hW : wr.alloc (Obj.cells #[.int .i64 (a : Int), .int .i64 (b : Int)] 99) = W
          have tW : TabG W B (.slice (some ⟨g, 0, none⟩) n c') n n G (adj (l.take m)) := by rw [← hW]; exact htab.alloc _
          have bW : Below B (w.alloc (Obj.cells #[.int .i64 (n : Int), .slice (some ⟨bb, off, none⟩) l.length c] 31)) W := by rw [← hW]; exact hb.alloc (by omega) _
          have e0 : W.cell? ⟨wr.heap.size, 0, none⟩ = some (.int .i64 a) := by rw [← hW]; simp
          have e1 : W.cell? ⟨wr.heap.size, 1, none⟩ = some (.int .i64 b) := by rw [← hW]; simp
          clear hW
          have t1 := tW.set (b := b) han true
          have t2 := t1.set (b := a) hbn true
          rw [← adj_snoc] at t2
          have d0 := tW.outer han
          have d1 := tW.cell han hbn
          have d2 := tW.frozen han b
          have d3 := t1.outer hbn
          have d4 := t1.cell hbn han
          have d5 := t1.frozen hbn a
          have e2 : (W.setCell ⟨G a, b, none⟩ (.bool true)).cell? ⟨wr.heap.size, 0, none⟩ = some (.int .i64 a) := by rw [World.cell?_setCell_other _ _ _ _ (by simp)]; exact e0
          have e3 : (W.setCell ⟨G a, b, none⟩ (.bool true)).cell? ⟨wr.heap.size, 1, none⟩ = some (.int .i64 b) := by rw [World.cell?_setCell_other _ _ _ _ (by simp)]; exact e1
          have T2 := Lib.hid t2
          clear t1 t2 tW htab
          refine wp_region_still_tail 8 (by kernel_rfl) (by kernel_rfl) ?_
          simp only [List.take_succ_cons, List.take_zero, List.drop_succ_cons, List.drop_zero]
          repeat still_step
          refine wpStill_nil ?_
          change wpList _ _ _ _ _ (World.drew _)
          go_wp2
          generalize hW2 : (W.setCell ⟨G a, b, none⟩ (.bool true)).drew = W2
          have f0 : W2.cell? ⟨wr.heap.size, 0, none⟩ = some (.int .i64 a) := by rw [← hW2]; exact e2
          have f1 : W2.cell? ⟨wr.heap.size, 1, none⟩ = some (.int .i64 b) := by rw [← hW2]; exact e3
          have f3 : W2.cell? ⟨g, b, none⟩ = some (.slice (some ⟨G b, 0, none⟩) n n) := by rw [← hW2]; exact d3
          have f4 : W2.cell? ⟨G b, a, none⟩ = some (.bool (upd (adj (l.take m)) a b true b a)) := by rw [← hW2]; exact d4
          have f5 : W2.frozen? ⟨G b, a, none⟩ = false := by rw [← hW2]; exact d5
          have b2 : Below B (w.alloc (Obj.cells #[.int .i64 (n : Int), .slice (some ⟨bb, off, none⟩) l.length c] 31)) (W2.setCell ⟨G b, a, none⟩ (.bool true)).drew := by
            rw [← hW2]
            exact (((bW.setCell (p := ⟨G a, b, none⟩) hGa.1 _).drew).setCell (p := ⟨G b, a, none⟩) hGb.1 _).drew
          have t3 : TabG (W2.setCell ⟨G b, a, none⟩ (.bool true)).drew B (.slice (some ⟨g, 0, none⟩) n c') n n G (adj (l.take m ++ [((a : Int), (b : Int))])) := by
            rw [← hW2]
            exact T2.out.of_blocks ⟨rfl, rfl, rfl, Nat.le_refl _, fun _ _ _ => rfl⟩
          have B2 := Lib.hid b2
          have T3 := Lib.hid t3
          clear hW2 d0 d1 d2 d3 d4 d5 e0 e1 e2 e3 T2 bW b2 t3
          refine wp_region_still_tail 8 (by kernel_rfl) (by kernel_rfl) ?_
          simp only [List.take_succ_cons, List.take_zero, List.drop_succ_cons, List.drop_zero]
          repeat still_step
          refine wpStill_nil ?_
          change wpList _ _ _ _ _ (World.drew _)
          go_wp2
          go_roundw
          case rel =>
            refine ⟨m + 1, by omega, by go_num, ?_, B2.out⟩
            rw [List.take_add_one, Hx.out, Option.toList_some]
            exact T3.out
          case measure => simp [intOf]; omega
        · have hml : m = l.length := by omega
          subst hml
          have hgm : ¬ ((l.length : Int) < l.length) := by omega
          go_wp2
          go_ret
          rw [List.take_length] at htab
          exact ⟨A', c', G, rfl, htab.lower (by omega), hbw⟩
end Go.Proofs.YtgccapdjhnejcaaDoor
