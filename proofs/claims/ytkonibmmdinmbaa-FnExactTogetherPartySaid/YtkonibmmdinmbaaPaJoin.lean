/-
  'paJoin': the model's two parties in one, by its contract.
-/
import Derived.Test.YtkonibmmdinmbaaJoinT
namespace Go.Proofs.Ytkonibmmdinmbaa
open Go.RowKit

def joinP (x : Bool) (p s : Nat) (l m : PL) : PL := tabP (p + s) (joinT p (adj l) (adj m) x)
def resJoin (x : Bool) (p : Int) (l : PL) (s : Int) (m : PL) : Int × PL × Bool := if isP p l && isP s m && decide (p + s ≤ 12) then (p + s, joinP x p.toNat s.toNat l m, true) else (0, [], false)
theorem joinP_len {p s : Nat} (h : p + s ≤ 12) (x : Bool) (l m : PL) : (joinP x p s l m).length ≤ 66 := filter_length_le h _

set_option maxHeartbeats 4000000 in
set_option maxRecDepth 100000 in
theorem paJoin_any (x : Bool) (p s : Int) (l m : PL) (A B : Option Addr) (c d : Nat) (w : World) (hl : l.length ≤ 1048576) (hm : m.length ≤ 1048576) (hA : CRead w w.heap.size A (pcells l)) (hB : CRead w w.heap.size B (pcells m)) :
    Calls Try.prog 105 #[.agg #[.int .i64 p, .slice A l.length c], .agg #[.int .i64 s, .slice B m.length d], .bool x] w (GotPartyOk w (resJoin x p l s m).1 (resJoin x p l s m).2.1 (resJoin x p l s m).2.2) := by
  generalize hW : ((w.alloc (Obj.cells #[.int .i64 p, .slice A l.length c] 29)).alloc (Obj.cells #[.int .i64 s, .slice B m.length d] 29)).alloc (Obj.cells #[.int .i64 0, .slice none 0 0] 29) = W
  have a0 : W.cell? ⟨w.heap.size, 0, none⟩ = some (.int .i64 p) := by rw [← hW]; exact (World.cell?_alloc_lt _ _ _ (by simp <;> omega)).trans (by simp)
  have a1 : W.cell? ⟨w.heap.size, 1, none⟩ = some (.slice A l.length c) := by rw [← hW]; exact (World.cell?_alloc_lt _ _ _ (by simp <;> omega)).trans (by simp)
  have b0 : W.cell? ⟨w.heap.size + 1, 0, none⟩ = some (.int .i64 s) := by rw [← hW]; exact (World.cell?_alloc_lt _ _ _ (by simp <;> omega)).trans (by simp)
  have b1 : W.cell? ⟨w.heap.size + 1, 1, none⟩ = some (.slice B m.length d) := by rw [← hW]; exact (World.cell?_alloc_lt _ _ _ (by simp <;> omega)).trans (by simp)
  have x0 : W.heap[w.heap.size + 1 + 1]? = some (.cells #[.int .i64 0, .slice none 0 0] 29 (0, 0)) := by
    have := heap_alloc_new ((w.alloc (Obj.cells #[.int .i64 p, .slice A l.length c] 29)).alloc (Obj.cells #[.int .i64 s, .slice B m.length d] 29)) (Obj.cells #[.int .i64 0, .slice none 0 0] 29)
    rw [hW] at this
    simpa using this
  have X0 : W.cell? ⟨w.heap.size + 1 + 1, 0, none⟩ = some (.int .i64 0) := by rw [cell_of_row _ _ _ _ _ _ x0]; rfl
  have X1 : W.cell? ⟨w.heap.size + 1 + 1, 1, none⟩ = some (.slice none 0 0) := by rw [cell_of_row _ _ _ _ _ _ x0]; rfl
  have X2 : ∀ j, W.frozen? ⟨w.heap.size + 1 + 1, j, none⟩ = false := fun j => frozen_of_row _ _ j _ _ x0
  have kW : Below w.heap.size w W := by rw [← hW]; go_grown
  have sW : W.heap.size = w.heap.size + 3 := by rw [← hW]; simp
  have sW1 : w.heap.size < W.heap.size := by omega
  have sW2 : w.heap.size + 1 < W.heap.size := by omega
  have sW3 : w.heap.size + 1 + 1 < W.heap.size := by omega
  have RA := (hA.below kW (Nat.le_refl _)).more kW.size
  have RB := (hB.below kW (Nat.le_refl _)).more kW.size
  clear sW x0
  have Z0 := X2 0
  have Z1 := X2 1
  clear X2
  cases hp : isP p l with
  | false =>
    have e : resJoin x p l s m = (0, [], false) := by simp [resJoin, hp]
    rw [e]
    have Hp := Lib.hid hp
    have HW := Lib.hid hW
    clear hp e hW
    go_enter Try.func105, Try.ntmps105
    go_wp2_with fail
    rw [HW.out]
    refine (paGood_any _ _ _ _ _ hl RA).mono ?_
    rw [Hp.out]
    rintro e w2 ⟨rfl, hb2⟩
    have y0 := carry hb2 X0 sW3
    have y1 := carry hb2 X1 sW3
    have y2 := (hb2.frozen (p := ⟨w.heap.size + 1 + 1, 0, none⟩) sW3).trans Z0
    have y3 := (hb2.frozen (p := ⟨w.heap.size + 1 + 1, 1, none⟩) sW3).trans Z1
    have k2 := kW.trans (hb2.mono kW.size)
    clear a0 a1 b0 b1 X0 X1 Z0 Z1
    go_wp2
    refine bodyPost_ret (v := .tuple #[.agg #[.int .i64 0, .slice none 0 0], .bool false]) (by simp [results, Try.results105, go_sem, y0, y1]) rfl ?_
    exact ⟨none, 0, rfl, World.ownsRow_nil _ _ _ _, (k2.setCell (p := ⟨w.heap.size + 1 + 1, 0, none⟩) (by simp; omega) _).setCell (p := ⟨w.heap.size + 1 + 1, 1, none⟩) (by simp; omega) _⟩
  | true =>
    cases hs : isP s m with
    | false =>
      have e : resJoin x p l s m = (0, [], false) := by simp [resJoin, hs]
      rw [e]
      have Hp := Lib.hid hp
      have Hs := Lib.hid hs
      have HW := Lib.hid hW
      clear hp hs e hW
      go_enter Try.func105, Try.ntmps105
      go_wp2_with fail
      rw [HW.out]
      refine (paGood_any _ _ _ _ _ hl RA).mono ?_
      rw [Hp.out]
      rintro e w2 ⟨rfl, hb2⟩
      have s2 := hb2.size
      have c0 := carry hb2 a0 sW1
      have c1 := carry hb2 a1 sW1
      have d0 := carry hb2 b0 sW2
      have d1 := carry hb2 b1 sW2
      go_wp2_with fail
      refine (paGood_any _ _ _ _ _ hm ((RB.below hb2 (Nat.le_refl _)).more s2)).mono ?_
      rw [Hs.out]
      rintro e w3 ⟨rfl, hb3⟩
      have g3 := hb2.trans (hb3.mono s2)
      have s3 := g3.size
      clear c0 c1 d0 d1
      have c0 := carry g3 a0 sW1
      have c1 := carry g3 a1 sW1
      have d0 := carry g3 b0 sW2
      have d1 := carry g3 b1 sW2
      have y0 := carry g3 X0 sW3
      have y1 := carry g3 X1 sW3
      have y2 := (g3.frozen (p := ⟨w.heap.size + 1 + 1, 0, none⟩) sW3).trans Z0
      have y3 := (g3.frozen (p := ⟨w.heap.size + 1 + 1, 1, none⟩) sW3).trans Z1
      have k3 := kW.trans (g3.mono kW.size)
      clear a0 a1 b0 b1 X0 X1 Z0 Z1 hb2 hb3 s2
      go_wp2
      refine bodyPost_ret (v := .tuple #[.agg #[.int .i64 0, .slice none 0 0], .bool false]) (by simp [results, Try.results105, go_sem, y0, y1]) rfl ?_
      exact ⟨none, 0, rfl, World.ownsRow_nil _ _ _ _, (k3.setCell (p := ⟨w.heap.size + 1 + 1, 0, none⟩) (by simp; omega) _).setCell (p := ⟨w.heap.size + 1 + 1, 1, none⟩) (by simp; omega) _⟩
    | true =>
      have hn := isP_range hp
      have hn' := isP_range hs
      by_cases hps : p + s ≤ 12
      · have e : resJoin x p l s m = (p + s, joinP x p.toNat s.toNat l m, true) := by simp [resJoin, hp, hs, hps]
        rw [e]
        obtain ⟨p', rfl⟩ : ∃ p' : Nat, p = p' := ⟨p.toNat, by omega⟩
        obtain ⟨s', rfl⟩ : ∃ s' : Nat, s = s' := ⟨s.toNat, by omega⟩
        simp only [Int.toNat_natCast]
        have hps' : p' + s' ≤ 12 := by omega
        have hnil : isP ((p' : Int) + (s' : Int)) [] = true := by simp [isP]; omega
        have Hnil := Lib.hid hnil
        have Hp := Lib.hid hp
        have Hs := Lib.hid hs
        have HW := Lib.hid hW
        clear hp hs e hW hnil
        go_enter Try.func105, Try.ntmps105
        go_wp2_with fail
        rw [HW.out]
        refine (paGood_any _ _ _ _ _ hl RA).mono ?_
        rw [Hp.out]
        rintro e w2 ⟨rfl, hb2⟩
        have s2 := hb2.size
        have c0 := carry hb2 a0 sW1
        have c1 := carry hb2 a1 sW1
        have d0 := carry hb2 b0 sW2
        have d1 := carry hb2 b1 sW2
        go_wp2_with fail
        refine (paGood_any _ _ _ _ _ hm ((RB.below hb2 (Nat.le_refl _)).more s2)).mono ?_
        rw [Hs.out]
        rintro e w3 ⟨rfl, hb3⟩
        have g3 := hb2.trans (hb3.mono s2)
        have s3 := g3.size
        clear c0 c1 d0 d1
        have c0 := carry g3 a0 sW1
        have c1 := carry g3 a1 sW1
        have d0 := carry g3 b0 sW2
        have d1 := carry g3 b1 sW2
        have y0 := carry g3 X0 sW3
        have y1 := carry g3 X1 sW3
        have y2 := (g3.frozen (p := ⟨w.heap.size + 1 + 1, 0, none⟩) sW3).trans Z0
        have y3 := (g3.frozen (p := ⟨w.heap.size + 1 + 1, 1, none⟩) sW3).trans Z1
        have k3 := kW.trans (g3.mono kW.size)
        clear a0 a1 b0 b1 X0 X1 Z0 Z1 hb2 hb3 s2
        clear HW
        have c0' := c0
        have d0' := d0
        have d1' := d1
        have y0' := y0
        have y1' := y1
        have y2' := y2
        have y3' := y3
        go_wp2_with fail
        refine (paPeople_yes _ (by omega) (by omega) _).mono ?_
        rintro e w4 ⟨rfl, rfl⟩
        go_wp2_with fail
        refine (paTable_any _ [] none 0 _ Hnil.out CRead.nil).mono ?_
        rw [show ((p' : Int) + (s' : Int)).toNat = p' + s' from by omega, adj_nil]
        rintro e w4 ⟨A4, c4, G, rfl, tab4, hb4⟩
        have g4 := g3.trans (hb4.mono s3)
        have s4 := hb4.size
        have f0 := carry hb4 c0 (by omega)
        have f1 := carry hb4 c1 (by omega)
        clear c0 c1
        go_wp2_with fail
        refine (paTable_any _ l A c _ Hp.out ((RA.below g4 (Nat.le_refl _)).more g4.size)).mono ?_
        rw [Int.toNat_natCast]
        rintro e w5 ⟨A5, c5, G5, rfl, tab5, hb5⟩
        have tab4' := tab4.below hb5 (Nat.le_refl _)
        have g5 : Below w3.heap.size w3 w5 := hb4.trans (hb5.mono s4)
        have hG : ∀ i, i < p' + s' → G i < w4.heap.size := fun i hi => (tab4.blk hi).2
        have s5 := g5.size
        have s5' := hb5.size
        have e0 := carry g5 c0' (by omega)
        have e1 := carry g5 d1' (by omega)
        clear tab4 hb4 hb5 f0 f1 d0 d1 y0 y1 y2 y3 g4
        go_wp2
        clear e0 e1
        go_loopw [43] (fun i wr => ∃ a : Nat, a ≤ p' ∧ i = .int .i64 a ∧ TabG wr w3.heap.size (.slice A4 (p' + s') c4) (p' + s') (p' + s') G (fillA p' (adj l) a) ∧ TabG wr w4.heap.size (.slice A5 p' c5) p' p' G5 (adj l) ∧ Below w3.heap.size w3 wr) (fun i _ => p' - (intOf i).toNat)
        case atStart => exact ⟨0, Nat.zero_le _, rfl, by rw [fillA_start]; exact tab4', tab5, g5⟩
        case round =>
          clear tab4' tab5 g5 s5
          obtain ⟨a, ha, rfl, tab, tabp, hb⟩ := hrel
          by_cases hlt : a < p'
          · have hai : (a : Int) < (p' : Int) := by omega
            obtain ⟨gg, rfl⟩ := own_form tab.own (by omega)
            obtain ⟨gp, rfl⟩ := own_form tabp.own (by omega)
            have q0 := tabp.outer hlt
            have q1 := tab.outer (show a < p' + s' by omega)
            have hai2 : (a : Int) < (p' : Int) + (s' : Int) := by omega
            have hrun := fun ty => copy_run tab tabp (show a < p' + s' by omega) hlt 0 (by omega) ty (p' + s') (p' + s') (by omega)
            have t1 := (tab.copy (show a < p' + s' by omega) 0 p' (adj l a)).congr (fun i j _ _ => by rw [fillA_next])
            have t2 := tabp.apart (grownBy_setCells (G a) ((List.range p').map fun j => Value.bool (adj l a j)) 0 wr) (hG a (by omega))
            have hb1 := below_setCells (tab.blk (show a < p' + s' by omega)).1 ((List.range p').map fun j => Value.bool (adj l a j)) 0 _ hb
            have T1 := Lib.hid t1
            have T2 := Lib.hid t2
            have HB1 := Lib.hid hb1
            clear t1 t2 hb1 tab tabp hb
            go_wp2
            go_roundw
            case rel => exact ⟨a + 1, by omega, by go_num, T1.out, T2.out, HB1.out⟩
            case measure => simp [intOf]; omega
          · have hap : a = p' := by omega
            subst hap
            have hge : ¬ ((a : Int) < (a : Int)) := by omega
            have s6 := hb.size
            have e0 := carry hb c0' (by omega)
            have e1 := carry hb d0' (by omega)
            have e2 := carry hb d1' (by omega)
            have kwr := k3.trans (hb.mono (by omega))
            clear tabp
            go_wp2_with fail
            refine (paTable_any _ m B d _ Hs.out ((RB.below (g3.trans (hb.mono s3)) (Nat.le_refl _)).more (g3.trans (hb.mono s3)).size)).mono ?_
            rw [Int.toNat_natCast]
            rintro e w7 ⟨A7, c7, G7, rfl, tab7, hb7⟩
            have tab' := (tab.below hb7 (Nat.le_refl _)).congr (t' := fillB a (adj l) (adj m) 0) (fun i j _ _ => by rw [fillB_start])
            have hG7 : ∀ i, i < a + s' → G i < wr.heap.size := fun i hi => (tab.blk hi).2
            have g7 : Below w3.heap.size w3 w7 := hb.trans (hb7.mono s6)
            have s7 := hb7.size
            clear tab e0 e1 e2
            generalize hB7 : wr.heap.size = B7 at *
            have hB7' : w3.heap.size ≤ B7 := by omega
            clear hb hb7 hB7
            go_wp2
            go_loopw [58] (fun i wr => ∃ k : Nat, k ≤ s' ∧ i = .int .i64 k ∧ TabG wr w3.heap.size (.slice A4 (a + s') c4) (a + s') (a + s') G (fillB a (adj l) (adj m) k) ∧ TabG wr B7 (.slice A7 s' c7) s' s' G7 (adj m) ∧ Below w3.heap.size w3 wr) (fun i _ => s' - (intOf i).toNat)
            case atStart => exact ⟨0, Nat.zero_le _, rfl, tab', tab7, g7⟩
            case round =>
              clear tab' tab7 g7 s7
              obtain ⟨k, hk, rfl, tab, tabp, hb⟩ := hrel
              have s8 := hb.size
              have e0 := carry hb c0' (by omega)
              by_cases hlt2 : k < s'
              · have hki : (k : Int) < (s' : Int) := by omega
                obtain ⟨gg, rfl⟩ := own_form tab.own (by omega)
                obtain ⟨gp, rfl⟩ := own_form tabp.own (by omega)
                have q0 := tabp.outer hlt2
                have q1 := tab.outer (show a + k < a + s' by omega)
                have hai2 : (a : Int) + (k : Int) < (a : Int) + (s' : Int) := by omega
                have hs0 : ¬ s' = 0 := by omega
                have hale : (a : Int) ≤ (a : Int) + (s' : Int) := by omega
                have hi0 : (0 : Int) ≤ (a : Int) + (k : Int) := by omega
                have hwr : IntKind.i64.wrap ((a : Int) + (k : Int)) = (a : Int) + (k : Int) := by simp [IntKind.wrap, IntKind.bits, IntKind.signed]; omega
                have hi2 : ((a : Int) + (k : Int)).toNat = a + k := by omega
                have hrun := fun ty => copy_run tab.drew tabp.drew (show a + k < a + s' by omega) hlt2 a (by omega) ty s' s' (by omega)
                have t1 := (tab.drew.copy (show a + k < a + s' by omega) a s' (adj m k)).congr (fillB_next a s' (adj l) (adj m) k rfl)
                have t2 := tabp.drew.apart (grownBy_setCells (G (a + k)) ((List.range s').map fun j => Value.bool (adj m k j)) a wr.drew) (hG7 (a + k) (by omega))
                have hb1 := below_setCells (tab.blk (show a + k < a + s' by omega)).1 ((List.range s').map fun j => Value.bool (adj m k j)) a _ hb.drew
                have T1 := Lib.hid t1
                have T2 := Lib.hid t2
                have HB1 := Lib.hid hb1
                clear t1 t2 hb1 tab tabp hb
                go_wp2
                refine wp_region_still_tail 11 (by kernel_rfl) (by kernel_rfl) ?_
                simp only [List.take_succ_cons, List.take_zero, List.drop_succ_cons, List.drop_zero]
                repeat still_step
                refine wpStill_nil ?_
                change wpList _ _ _ _ _ (World.drew _)
                go_wp2
                go_roundw
                case rel => exact ⟨k + 1, by omega, by go_num, T1.out, T2.out, HB1.out⟩
                case measure => simp [intOf]; omega
              · have hks : k = s' := by omega
                subst hks
                have hge : ¬ ((k : Int) < (k : Int)) := by omega
                have tab1 := tab.congr (t' := fillC a (adj l) (adj m) x 0 a) (fillC_start a k (adj l) (adj m) x rfl)
                clear tab tabp
                go_wp2
                clear e0
                go_loopw [13] (fun i wr => ∃ u : Nat, u ≤ a ∧ i = .int .i64 u ∧ TabG wr w3.heap.size (.slice A4 (a + k) c4) (a + k) (a + k) G (fillC a (adj l) (adj m) x u a) ∧ Below w3.heap.size w3 wr) (fun i _ => a - (intOf i).toNat)
                case atStart => exact ⟨0, Nat.zero_le _, rfl, tab1, hb⟩
                case round =>
                  clear tab1 hb s8
                  obtain ⟨u, hu, rfl, tab, hb⟩ := hrel
                  have s8 := hb.size
                  have e0 := carry hb c0' (by omega)
                  by_cases hlu : u < a
                  · have hui : (u : Int) < (a : Int) := by omega
                    have Tab := Lib.hid tab
                    have Hb := Lib.hid hb
                    clear tab hb
                    go_wp2
                    clear e0
                    go_loopw [14] (fun i wx => ∃ b : Nat, a ≤ b ∧ b ≤ a + k ∧ i = .int .i64 b ∧ TabG wx w3.heap.size (.slice A4 (a + k) c4) (a + k) (a + k) G (fillC a (adj l) (adj m) x u b) ∧ Below w3.heap.size w3 wx) (fun i _ => a + k - (intOf i).toNat)
                    case atStart => exact ⟨a, Nat.le_refl _, by omega, rfl, Tab.out, Hb.out⟩
                    case round =>
                      clear Tab Hb s8
                      obtain ⟨b, hab, hbn, rfl, tab, hb⟩ := hrel
                      by_cases hbt : b < a + k
                      · have hbi : (b : Int) < (a : Int) + (k : Int) := by omega
                        have hun : u < a + k := by omega
                        have hui2 : (u : Int) < (a : Int) + (k : Int) := by omega
                        obtain ⟨gg, rfl⟩ := own_form tab.own (by omega)
                        have t1 := tab.set (b := b) hun x
                        have t2 := t1.set (b := u) hbt x
                        rw [fillC_next a (adj l) (adj m) x hlu hab] at t2
                        have q0 := tab.outer hun
                        have q1 := tab.cell hun hbt
                        have q2 := tab.frozen hun b
                        have q3 := t1.outer hbt
                        have q4 := t1.cell hbt hun
                        have q5 := t1.frozen hbt u
                        have hb1 := (hb.setCell (p := ⟨G u, b, none⟩) (tab.blk hun).1 (.bool x)).setCell (p := ⟨G b, u, none⟩) (tab.blk hbt).1 (.bool x)
                        have T2 := Lib.hid t2
                        have HB1 := Lib.hid hb1
                        clear t1 t2 hb1 tab hb
                        go_wp2
                        go_roundw
                        case rel => exact ⟨b + 1, by omega, by omega, by go_num, T2.out, HB1.out⟩
                        case measure => simp [intOf]; omega
                      · have hbe : b = a + k := by omega
                        subst hbe
                        have hge2 : ¬ (((a + k : Nat) : Int) < (a : Int) + (k : Int)) := by omega
                        have tab2 := tab.congr (t' := fillC a (adj l) (adj m) x (u + 1) a) (fillC_row a (adj l) (adj m) x u)
                        clear tab
                        go_wp2
                        go_roundw
                        case rel => exact ⟨u + 1, by omega, by go_num, tab2, hb⟩
                        case measure => simp [intOf]; omega
                  · have hua : u = a := by omega
                    subst hua
                    have hge2 : ¬ ((u : Int) < (u : Int)) := by omega
                    have tab2 := tab.congr (t' := joinT u (adj l) (adj m) x) (fillC_all u (adj l) (adj m) x u)
                    have y0 := carry hb y0' (by omega)
                    have y1 := carry hb y1' (by omega)
                    have z0 := (hb.frozen (p := ⟨w.heap.size + 1 + 1, 0, none⟩) (by simp; omega)).trans y2'
                    have z1 := (hb.frozen (p := ⟨w.heap.size + 1 + 1, 1, none⟩) (by simp; omega)).trans y3'
                    clear tab
                    go_wp2_with fail
                    refine (paOf_any (u + k) _ A4 c4 G _ _ (by omega) tab2).mono ?_
                    rintro e w9 ⟨A9, c9, rfl, own9, hb9⟩
                    have v0 := carry hb9 y0 (by omega)
                    have v1 := carry hb9 y1 (by omega)
                    have v2 := (hb9.frozen (p := ⟨w.heap.size + 1 + 1, 0, none⟩) (by simp; omega)).trans z0
                    have v3 := (hb9.frozen (p := ⟨w.heap.size + 1 + 1, 1, none⟩) (by simp; omega)).trans z1
                    have s9 := hb9.size
                    have k9 := k3.trans ((hb.trans (hb9.mono s8)).mono (by omega))
                    have Hb := Lib.hid hb
                    clear y0 y1 z0 z1 e0 tab2 hb
                    go_wp2
                    refine bodyPost_ret (v := .tuple #[.agg #[.int .i64 ((u : Int) + (k : Int)), .slice A9 (joinP x u k l m).length c9], .bool true]) (by simp [results, Try.results105, go_sem, v0, v1, joinP]) rfl ?_
                    exact ⟨A9, c9, rfl, own_lower (ownsRow_setCell_below (ownsRow_setCell_below own9 (a := ⟨w.heap.size + 1 + 1, 0, none⟩) (by simp; omega) _) (a := ⟨w.heap.size + 1 + 1, 1, none⟩) (by simp; omega) _) (by omega),
                      (k9.setCell (p := ⟨w.heap.size + 1 + 1, 0, none⟩) (by simp; omega) _).setCell (p := ⟨w.heap.size + 1 + 1, 1, none⟩) (by simp; omega) _⟩
      · have e : resJoin x p l s m = (0, [], false) := by simp [resJoin, hps]
        rw [e]
        have Hp := Lib.hid hp
        have Hs := Lib.hid hs
        have HW := Lib.hid hW
        clear hp hs e hW
        go_enter Try.func105, Try.ntmps105
        go_wp2_with fail
        rw [HW.out]
        refine (paGood_any _ _ _ _ _ hl RA).mono ?_
        rw [Hp.out]
        rintro e w2 ⟨rfl, hb2⟩
        have s2 := hb2.size
        have c0 := carry hb2 a0 sW1
        have c1 := carry hb2 a1 sW1
        have d0 := carry hb2 b0 sW2
        have d1 := carry hb2 b1 sW2
        go_wp2_with fail
        refine (paGood_any _ _ _ _ _ hm ((RB.below hb2 (Nat.le_refl _)).more s2)).mono ?_
        rw [Hs.out]
        rintro e w3 ⟨rfl, hb3⟩
        have g3 := hb2.trans (hb3.mono s2)
        have s3 := g3.size
        clear c0 c1 d0 d1
        have c0 := carry g3 a0 sW1
        have c1 := carry g3 a1 sW1
        have d0 := carry g3 b0 sW2
        have d1 := carry g3 b1 sW2
        have y0 := carry g3 X0 sW3
        have y1 := carry g3 X1 sW3
        have y2 := (g3.frozen (p := ⟨w.heap.size + 1 + 1, 0, none⟩) sW3).trans Z0
        have y3 := (g3.frozen (p := ⟨w.heap.size + 1 + 1, 1, none⟩) sW3).trans Z1
        have k3 := kW.trans (g3.mono kW.size)
        clear a0 a1 b0 b1 X0 X1 Z0 Z1 hb2 hb3 s2
        go_wp2_with fail
        refine (paPeople_no _ (by omega) _).mono ?_
        rintro e w4 ⟨rfl, rfl⟩
        clear c0 c1 d0 d1
        go_wp2
        refine bodyPost_ret (v := .tuple #[.agg #[.int .i64 0, .slice none 0 0], .bool false]) (by simp [results, Try.results105, go_sem, y0, y1]) rfl ?_
        exact ⟨none, 0, rfl, World.ownsRow_nil _ _ _ _, (k3.setCell (p := ⟨w.heap.size + 1 + 1, 0, none⟩) (by simp; omega) _).setCell (p := ⟨w.heap.size + 1 + 1, 1, none⟩) (by simp; omega) _⟩
end Go.Proofs.Ytkonibmmdinmbaa
