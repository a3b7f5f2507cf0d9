/-
  'impl.treeByOnes', by its contract.
-/
import Derived.Test.YtaemodpolopcfaaTreeF
import Derived.Test.YtaemodpolopcfaaTwo
import Derived.Test.YtaemodpolopcfaaBox
import Derived.Test.YtaemodpolopcfaaRenamed
import Derived.Deep.RegionLaw
import Derived.Deep.AppendLies
namespace Go.Proofs.Ytaemodpolopcfaa
open Go.RowKit

theorem BoxRel.apart {B g : Nat} {w0 wr : World} {n : Int} {v : Value} {L : PL} (h : BoxRel B w0 wr n g v L) {p : Addr} (hB : B ≤ p.block) (hg : p.block ≠ g) (hv : v.ownBlock ≠ some p.block) (u : Value) : BoxRel B w0 (wr.setCell p u) n g v L :=
  ⟨h.below.setCell hB _, h.gB, by rw [heap_setCell_other _ _ _ _ (fun e => hg e.symm)]; exact h.box, h.own.kept (row := some p.block) ⟨rfl, rfl, rfl, by simp, fun k _ hk => heap_setCell_other _ _ _ _ (fun e => hk (by rw [e]))⟩ (.inr hv)⟩
theorem leftF_step {l : List Int} {a b : Nat} {x : Int} (hab : a ≠ b) (h1 : l[a]? = some 1) (hx : l[b]? = some x) (j : Nat) : leftF (stepL l a b) j = if j = b then x - 1 else if j = a then 0 else leftF l j := by
  have ha := (List.getElem?_eq_some_iff.1 h1).1
  have hb := (List.getElem?_eq_some_iff.1 hx).1
  rw [stepL_at hab h1 hx]
  unfold leftF
  simp only [List.getD_eq_getElem?_getD]
  by_cases h2 : j = b
  · rw [if_pos h2, h2, List.getElem?_set_self (by simpa using hb)]
    rfl
  · rw [if_neg h2, List.getElem?_set_ne (fun e => h2 e.symm)]
    by_cases h3 : j = a
    · rw [if_pos h3, h3, List.getElem?_set_self ha]
      rfl
    · rw [if_neg h3, List.getElem?_set_ne (fun e => h3 e.symm)]
/-- the first one with 1 left, as the program looks for it -/
theorem index_one {l : List Int} {a : Nat} (h : IsA l a) (hl : l.length ≤ 12) : Lib.idxOf ((List.range 12).map (leftF l)) 1 = a := by
  have hal := (List.getElem?_eq_some_iff.1 h.1).1
  have hd : ∀ j, j < 12 → ((List.range 12).map (leftF l)).getD j 0 = leftF l j := fun j hj => by
    rw [List.getD_eq_getElem?_getD, List.getElem?_map, List.getElem?_range hj]
    rfl
  have h1 := Lib.idxOf_hit ((List.range 12).map (leftF l)) 12 a 1 (by omega) (by simp) (by rw [hd a (by omega)]; exact leftF_at h.1) (fun j hj => by
    rw [hd j (by omega)]
    intro e
    by_cases hjl : j < l.length
    · obtain ⟨y, hy⟩ := getSome l j hjl
      rw [leftF_at hy] at e
      exact h.2 j hj (by rw [hy, e])
    · omega)
  rwa [List.take_of_length_le (by simp)] at h1

set_option maxHeartbeats 8000000 in
set_option maxRecDepth 100000 in
theorem treeByOnes_any (q : List Int) (A : Option Addr) (c : Nat) (w : World) (ht : treeI q = true) (hA : CRead w w.heap.size A (icells q)) :
    Calls Try.prog 74 #[.slice A q.length c] w (GotParty w (q.length : Int) (sortP (stP q (q.length - 1)))) := by
  obtain ⟨i0, hi, hz0, hz1, hz2⟩ := info_parts Try.infoPair
  have h12 := isNums_len (treeI_parts ht).1
  have h2 := (treeI_parts ht).2.1
  have Ht := Lib.hid ht
  clear ht
  generalize hW : w.alloc (Obj.cells #[.int .i64 0, .slice none 0 0] 29) = W
  have X0 : W.cell? ⟨w.heap.size, 0, none⟩ = some (.int .i64 0) := by rw [← hW]; simp
  have X1 : W.cell? ⟨w.heap.size, 1, none⟩ = some (.slice none 0 0) := by rw [← hW]; simp
  have Z0 : W.frozen? ⟨w.heap.size, 0, none⟩ = false := by rw [← hW]; simp
  have Z1 : W.frozen? ⟨w.heap.size, 1, none⟩ = false := by rw [← hW]; simp
  have kW : Below w.heap.size w W := by rw [← hW]; go_grown
  have sW : W.heap.size = w.heap.size + 1 := by rw [← hW]; simp
  have sW1 : w.heap.size < W.heap.size := by omega
  have HW := Lib.hid hW
  have HX0 := Lib.hid X0
  have HX1 := Lib.hid X1
  have HZ0 := Lib.hid Z0
  have HZ1 := Lib.hid Z1
  have rel0 : BoxRel W.heap.size W (W.alloc (Obj.cells #[.int .i64 (q.length : Int), .slice none 0 0] 29)) (q.length : Int) W.heap.size (.slice none 0 0) [] :=
    ⟨(Below.refl _ _).alloc (Nat.le_refl _) _, Nat.le_refl _, heap_alloc_new W _, World.ownsRow_nil _ _ _ _⟩
  have kX : Below w.heap.size w (W.alloc (Obj.cells #[.int .i64 (q.length : Int), .slice none 0 0] 29)) := kW.alloc kW.size _
  have RX := (hA.below kX (Nat.le_refl _)).more kX.size
  clear X0 X1 Z0 Z1
  generalize hX : W.alloc (Obj.cells #[.int .i64 (q.length : Int), .slice none 0 0] 29) = X at *
  have HX := Lib.hid hX
  rw [sW] at rel0
  have sW3 : W.heap.size ≤ w.heap.size + 1 := by omega
  clear hX hW sW
  go_enter Try.func74, Try.ntmps74
  go_wp2_with fail
  rw [HW.out, HX.out]
  refine (leftOf_any q A c _ h12 (by omega) RX).mono ?_
  rintro e w3 ⟨rfl, hb3⟩
  have rel3 := rel0.kept hb3 rel0.le
  have row3 := World.rowIs_alloc w3 #[.int .i64 (leftF q 0), .int .i64 (leftF q 1), .int .i64 (leftF q 2), .int .i64 (leftF q 3), .int .i64 (leftF q 4), .int .i64 (leftF q 5), .int .i64 (leftF q 6), .int .i64 (leftF q 7), .int .i64 (leftF q 8), .int .i64 (leftF q 9), .int .i64 (leftF q 10), .int .i64 (leftF q 11)] 100 (fun j => .int .i64 (leftF (stL q 0) j)) (fun m hm => agg12_at (leftF q) (by simpa using hm))
  have rel4 : BoxRel (w.heap.size + 1) W (w3.alloc (Obj.cells #[.int .i64 (leftF q 0), .int .i64 (leftF q 1), .int .i64 (leftF q 2), .int .i64 (leftF q 3), .int .i64 (leftF q 4), .int .i64 (leftF q 5), .int .i64 (leftF q 6), .int .i64 (leftF q 7), .int .i64 (leftF q 8), .int .i64 (leftF q 9), .int .i64 (leftF q 10), .int .i64 (leftF q 11)] 100)) (q.length : Int) (w.heap.size + 1) (.slice none 0 0) (stP q 0) := rel3.kept (by go_grown) rel3.le
  have hgab := rel3.lt
  clear rel0 rel3 hb3
  go_wp2
  generalize w3.alloc (Obj.cells #[.int .i64 (leftF q 0), .int .i64 (leftF q 1), .int .i64 (leftF q 2), .int .i64 (leftF q 3), .int .i64 (leftF q 4), .int .i64 (leftF q 5), .int .i64 (leftF q 6), .int .i64 (leftF q 7), .int .i64 (leftF q 8), .int .i64 (leftF q 9), .int .i64 (leftF q 10), .int .i64 (leftF q 11)] 100) = w4 at *
  generalize w3.heap.size = ab at *
  have hgw : w.heap.size < w.heap.size + 1 := Nat.lt_succ_self _
  generalize w.heap.size + 1 = g at *
  go_loopw [15] (fun i wr => ∃ (k : Nat) (v : Value), k ≤ q.length - 1 ∧ i = .int .i64 k ∧ BoxRel g W wr (q.length : Int) g v (stP q k) ∧ wr.rowIs ab 100 12 (fun j => .int .i64 (leftF (stL q k) j))) (fun i _ => q.length - (intOf i).toNat)
  case atStart => exact ⟨0, _, Nat.zero_le _, rfl, rel4, row3⟩
  case round =>
    clear rel4 row3
    obtain ⟨k, v, hk, rfl, rel, row⟩ := hrel
    have hlt2 := rel.lt
    have hle := rel.le
    have gX : Below W.heap.size W wr := rel.below.mono sW3
    by_cases hlt : k + 1 < q.length
    · have hki : (k : Int) < (q.length : Int) - 1 := by omega
      obtain ⟨_, hIsA, hIsB⟩ := tree_left Ht.out k hlt
      obtain ⟨u, KB⟩ := kindB hIsB
      have hLl := stL_length q k
      obtain ⟨u', KF⟩ := kindF KB (by omega)
      obtain ⟨ha, hb2, hab, h1, ⟨x, hx, hx0, hx22⟩, hLr⟩ := tree_step Ht.out hlt
      have HnP := Lib.hid (show stP q (k + 1) = stP q k ++ [pairI (stA q k) (stB q k)] from rfl)
      have Hnx := Lib.hid (show stL q (k + 1) = stepL (stL q k) (stA q k) (stB q k) from rfl)
      have Hst := Lib.hid (leftF_step hab h1 hx)
      have hidx := index_one hIsA (by omega)
      have hPl := stP_length q k
      generalize stL q k = L at *
      generalize stA q k = a at *
      generalize stB q k = b at *
      have hF1 : leftF L a = 1 := leftF_at h1
      have hFb : leftF L b = x := leftF_at hx
      have KF' := Lib.hid KF
      clear KB KF hIsA hIsB hLr h1 hx hLl
      have hcx := indexI_any ab 0 12 12 ((List.range 12).map (leftF L)) 1 wr (by simp) (by omega) (fun j hj => by
        have hj' : j < 12 := by simpa using hj
        rw [Nat.zero_add, row.cell hj', List.getD_eq_getElem?_getD, List.getElem?_map, List.getElem?_range hj']
        rfl)
      rw [hidx] at hcx
      clear hidx
      go_wp2_with fail
      refine hcx.mono ?_
      clear hcx
      rintro e w5 ⟨rfl, rfl⟩
      have r0 := row.cell (i := 0) (by omega)
      have r1 := row.cell (i := 1) (by omega)
      have r2 := row.cell (i := 2) (by omega)
      have r3 := row.cell (i := 3) (by omega)
      have r4 := row.cell (i := 4) (by omega)
      have r5 := row.cell (i := 5) (by omega)
      have r6 := row.cell (i := 6) (by omega)
      have r7 := row.cell (i := 7) (by omega)
      have r8 := row.cell (i := 8) (by omega)
      have r9 := row.cell (i := 9) (by omega)
      have r10 := row.cell (i := 10) (by omega)
      have r11 := row.cell (i := 11) (by omega)
      go_wp2_with fail
      refine (friendOfOne_any (leftF L) a b u' _ KF'.out).mono ?_
      rintro e w6 ⟨rfl, hb6⟩
      have rel6 := rel.kept hb6 rel.le
      have row6 := row.of_block (hb6.block ab row.lt)
      have hne6 := row_ne_own rel6.own row6 (by decide)
      have hag : ab ≠ g := by omega
      have e1 : w6.cell? ⟨ab, a, none⟩ = some (.int .i64 1) := by rw [row6.cell (by omega), hF1]
      have z1 := row6.frozen a
      have rowA := row6.set a (.int .i64 0)
      have e2 : (w6.setCell ⟨ab, a, none⟩ (.int .i64 0)).cell? ⟨ab, b, none⟩ = some (.int .i64 x) := by rw [rowA.cell (by omega), if_neg (fun e => hab e.symm), hFb]
      have z2 := rowA.frozen b
      have relA := rel6.apart (p := ⟨ab, a, none⟩) (by simp; omega) (by simpa using hag) hne6 (.int .i64 0)
      have rowB := rowA.set b (.int .i64 (x - 1))
      have relB := relA.apart (p := ⟨ab, b, none⟩) (by simp; omega) (by simpa using hag) hne6 (.int .i64 (x - 1))
      have h512 : a < 12 := by omega
      have h612 : b < 12 := by omega
      clear r0 r1 r2 r3 r4 r5 r6 r7 r8 r9 r10 r11 rel row row6 rel6 rowA relA
      have rowC : ((w6.setCell ⟨ab, a, none⟩ (.int .i64 0)).setCell ⟨ab, b, none⟩ (.int .i64 (x - 1))).rowIs ab 100 12 (fun j => .int .i64 (leftF (stL q (k + 1)) j)) := rowB.congr fun j _ => by
        rw [Hnx.out, Hst.out]
        by_cases h3 : j = b
        · rw [if_pos h3, if_pos h3]
        · rw [if_neg h3, if_neg h3]
          by_cases h4 : j = a
          · rw [if_pos h4, if_pos h4]
          · rw [if_neg h4, if_neg h4]
      clear rowB
      have hlen : (stP q k).length ≤ 66 := by omega
      clear hPl
      go_wp2_with fail
      clear e1 z1 e2 z2
      generalize (w6.setCell ⟨ab, a, none⟩ (.int .i64 0)).setCell ⟨ab, b, none⟩ (.int .i64 (x - 1)) = w7 at *
      have q1 := relB.cells.2.1
      have hg7 := relB.lt
      have own7 := relB.own
      have hle7 := relB.le
      go_region_law (first | (go_simp; go_at_call 62; refine (pairOf_any a b w7.drew).mono ?_; rintro e w2 ⟨rfl, hb2⟩; have hX2 : Below w7.heap.size w7 w2 := (Below.refl _ _).drew.trans hb2; have r1 := carry hX2 q1 hg7; have row2 := rowC.of_block (hX2.block ab rowC.lt); have own2 := own_below own7 hX2 (Nat.le_refl _); have s2 := hX2.size; have kq : ∀ o : Obj, (w2.alloc o).cell? ⟨g, 1, none⟩ = some v := fun o => (World.cell?_alloc_lt w2 _ _ (by simp; omega)).trans r1) | (refine step_append_lies _ (by rfl) _ _ _ (by rfl) g 72 i0 _ 2 16 Try.underlying27 hi hz0 hz1 hz2 (by rfl) (by decide) v (stP q k).length (pcells (stP q k)) (by rfl) (own2.alloc _) ⟨w2.heap.size, 0, none⟩ 1 1 [.int .i64 (min (a : Int) b), .int .i64 (max (a : Int) b)] (by rfl) rfl (two_cells (by simp) (by simp)) (two_one rfl rfl) (by decide) (by unfold maxLen; omega) (by omega) (by simp; omega) (w2.heap.size + 1) (by simp) ?_; intro g3 c3 w3 own3 gr3 hat3 hlt3; have row3 := (row2.alloc _).of_block (gr3.block ab (row2.alloc _).lt (fun e => hne6 e.symm)); have hr1 := relB.push (hX2.alloc (by omega) _) gr3 own3; obtain ⟨_, y0, y1, y2, y3, y4⟩ := relB.grown (hX2.alloc (by omega) _) gr3; have y21 := y2 1; clear y2))
      all_goals (go_wp2_with fail)
      all_goals (go_roundw)
      all_goals first
        | exact ⟨k + 1, _, by omega, by go_num, by rw [HnP.out]; exact hr1, row3.setOther hag _⟩
        | (simp [intOf]; omega)
    · have hkl : k = q.length - 1 := by omega
      have hge : ¬ ((k : Int) < (q.length : Int) - 1) := by omega
      have hnl : (stP q k).length ≤ 66 := by rw [stP_length]; omega
      obtain ⟨A', c', rfl, _⟩ := own_shape rel.own
      have r0 := carry gX HX0.out sW1
      have r1 := carry gX HX1.out sW1
      have r2 := (gX.frozen (p := ⟨w.heap.size, 0, none⟩) sW1).trans HZ0.out
      have r3 := (gX.frozen (p := ⟨w.heap.size, 1, none⟩) sW1).trans HZ1.out
      obtain ⟨b0, b1, b2⟩ := rel.cells
      have Hkl := Lib.hid hkl
      have Rel := Lib.hid rel
      clear hkl rel row b2
      go_wp2_with fail
      refine (sortP_any (stP q k) A' c' g wr (by omega) Rel.out.own).mono ?_
      rintro e w4 ⟨rfl, own4, _, s4, gr4⟩
      have Rel4 := Lib.hid (Rel.out.sorted (M := sortP (stP q k)) gr4 (by rw [sortP_length]; exact own4))
      have bx := Rel4.out.cells
      obtain ⟨o0, o1, _⟩ := bx
      have g4 : Below W.heap.size W w4 := Rel4.out.below.mono sW3
      have k4 : Below w.heap.size w w4 := kW.trans (g4.mono kW.size)
      have t0 := carry g4 HX0.out sW1
      have t1 := carry g4 HX1.out sW1
      have t2 := (g4.frozen (p := ⟨w.heap.size, 0, none⟩) sW1).trans HZ0.out
      have t3 := (g4.frozen (p := ⟨w.heap.size, 1, none⟩) sW1).trans HZ1.out
      have hne : ¬ g = w.heap.size := by omega
      have Hsl := Lib.hid (show (sortP (stP q k)).length = (stP q k).length from sortP_length _)
      clear r0 r1 r2 r3 own4 gr4
      go_wp2
      refine bodyPost_ret (v := .agg #[.int .i64 q.length, .slice A' (stP q k).length c']) (by simp [results, Try.results74, go_sem, t0, t1]) rfl ?_
      rw [← Hkl.out]
      refine ⟨A', c', by rw [Hsl.out], ?_, (k4.setCell (p := ⟨w.heap.size, 0, none⟩) (by simp) _).setCell (p := ⟨w.heap.size, 1, none⟩) (by simp) _⟩
      have ho := Rel4.out.own
      rw [Hsl.out] at ho ⊢
      exact own_lower (ownsRow_setCell_below (ownsRow_setCell_below ho (a := ⟨w.heap.size, 0, none⟩) (by simp; omega) _) (a := ⟨w.heap.size, 1, none⟩) (by simp; omega) _) (by omega)
end Go.Proofs.Ytaemodpolopcfaa
