/-
  'paRename' of the model, by its contract.
-/
import Derived.Test.YtaemodpolopcfaaNameP
import Derived.Test.YtaemodpolopcfaaJoinT
import Derived.Test.YtaemodpolopcfaaNumsW
namespace Go.Proofs.Ytaemodpolopcfaa
open Go.RowKit

set_option maxHeartbeats 4000000 in
set_option maxRecDepth 100000 in
theorem paRename_any (p : Int) (l : PL) (A : Option Addr) (c : Nat) (q : List Int) (B : Option Addr) (d : Nat) (w : World) (hp : isP p l = true) (hc : isNamingI p q = true) (hA : CRead w w.heap.size A (pcells l)) (hB : CRead w w.heap.size B (icells q)) :
    Calls Try.prog 48 #[.agg #[.int .i64 p, .slice A l.length c], .slice B q.length d] w (GotParty w p (sortP (namesP l q))) := by
  have hn := isP_range hp
  obtain ⟨n, rfl⟩ : ∃ n : Nat, p = n := ⟨p.toNat, by omega⟩
  have hql := (isNamingI_parts hc).1
  have hqn : q.length = n := by omega
  have hnil : isP (n : Int) [] = true := by simp [isP]; omega
  have Hnil := Lib.hid hnil
  have Htab := Lib.hid (tabP_named hp hc)
  have Hp := Lib.hid hp
  have Hc := Lib.hid hc
  have Hmem := Lib.hid (isNamingI_parts hc).2.1
  have hn12 : n ≤ 12 := by omega
  rw [hqn]
  clear hp hc hnil hql
  generalize hW : (w.alloc (Obj.cells #[.int .i64 (n : Int), .slice A l.length c] 29)).alloc (Obj.cells #[.int .i64 0, .slice none 0 0] 29) = W
  have a0 : W.cell? ⟨w.heap.size, 0, none⟩ = some (.int .i64 n) := by rw [← hW]; simp
  have a1 : W.cell? ⟨w.heap.size, 1, none⟩ = some (.slice A l.length c) := by rw [← hW]; simp
  have X0 : W.cell? ⟨w.heap.size + 1, 0, none⟩ = some (.int .i64 0) := by rw [← hW]; simp
  have X1 : W.cell? ⟨w.heap.size + 1, 1, none⟩ = some (.slice none 0 0) := by rw [← hW]; simp
  have Z0 : W.frozen? ⟨w.heap.size + 1, 0, none⟩ = false := by rw [← hW]; simp
  have Z1 : W.frozen? ⟨w.heap.size + 1, 1, none⟩ = false := by rw [← hW]; simp
  have kW : Below w.heap.size w W := by rw [← hW]; go_grown
  have sW1 : w.heap.size < W.heap.size := by rw [← hW]; simp only [World.size_alloc]; omega
  have sW2 : w.heap.size + 1 < W.heap.size := by rw [← hW]; simp
  have RA := (hA.below kW (Nat.le_refl _)).more kW.size
  have HW := Lib.hid hW
  clear hW
  go_enter Try.func48, Try.ntmps48
  go_wp2_with fail
  rw [HW.out]
  refine (paTable_any (n : Int) l A c _ Hp.out RA).mono ?_
  rw [Int.toNat_natCast]
  rintro e w2 ⟨A2, c2, G, rfl, tab2, hb2⟩
  have s2 := hb2.size
  have k2 := kW.trans (hb2.mono kW.size)
  have c0 := carry hb2 a0 sW1
  have y0 := carry hb2 X0 sW2
  have y1 := carry hb2 X1 sW2
  have y2 := (hb2.frozen (p := ⟨w.heap.size + 1, 0, none⟩) sW2).trans Z0
  have y3 := (hb2.frozen (p := ⟨w.heap.size + 1, 1, none⟩) sW2).trans Z1
  clear a0 a1 X0 X1 Z0 Z1 HW
  go_wp2_with fail
  refine (paTable_any (n : Int) [] none 0 _ Hnil.out CRead.nil).mono ?_
  rw [Int.toNat_natCast]
  rintro e w3 ⟨A3, c3, G3, rfl, tab3, hb3⟩
  have tab3' := tab3.congr (t' := namedTo q (adj l) 0 0) (fun i j _ _ => by rw [namedTo_start]; exact congrFun (congrFun adj_nil i) j)
  have s3 := hb3.size
  clear tab3
  go_wp2
  clear c0
  go_loopw [17] (fun i wr => ∃ a : Nat, a ≤ n ∧ i = .int .i64 a ∧ TabG wr w2.heap.size (.slice A3 n c3) n n G3 (namedTo q (adj l) a 0) ∧ Below w2.heap.size w2 wr) (fun i _ => n - (intOf i).toNat)
  case atStart => exact ⟨0, Nat.zero_le _, rfl, tab3', hb3⟩
  case round =>
    clear tab3' hb3 s3
    obtain ⟨a, ha, rfl, tab, hb⟩ := hrel
    have hs := hb.size
    by_cases hlt : a < n
    · have hai : (a : Int) < (n : Int) := by omega
      have Tab := Lib.hid tab
      have Hb := Lib.hid hb
      clear tab hb hs
      go_wp2
      go_loopw [22] (fun i wr => ∃ b : Nat, b ≤ n ∧ i = .int .i64 b ∧ TabG wr w2.heap.size (.slice A3 n c3) n n G3 (namedTo q (adj l) a b) ∧ Below w2.heap.size w2 wr) (fun i _ => n - (intOf i).toNat)
      case atStart => exact ⟨0, Nat.zero_le _, rfl, Tab.out, Hb.out⟩
      case round =>
        clear Tab Hb
        obtain ⟨b, hbn, rfl, tab, hb⟩ := hrel
        have hs := hb.size
        by_cases hlb : b < n
        · obtain ⟨x, hx⟩ := getSome q a (by omega)
          obtain ⟨y, hy⟩ := getSome q b (by omega)
          have kwr := k2.trans (hb.mono (by omega))
          obtain ⟨bb, off, rfl, hbb, u0⟩ := (hB.below kwr (Nat.le_refl _)).int hx
          obtain ⟨bb', off', e', _, u1⟩ := (hB.below kwr (Nat.le_refl _)).int hy
          simp only [Option.some.injEq, Addr.mk.injEq, and_true] at e'
          obtain ⟨rfl, rfl⟩ := e'
          have hx0 := Hmem.out x (List.mem_of_getElem? hx)
          have hy0 := Hmem.out y (List.mem_of_getElem? hy)
          obtain ⟨x', rfl⟩ : ∃ a : Nat, x = a := ⟨x.toNat, by omega⟩
          obtain ⟨y', rfl⟩ : ∃ a : Nat, y = a := ⟨y.toNat, by omega⟩
          have hbi : (b : Int) < (n : Int) := by omega
          have hxn : x' < n := by omega
          have hyn : y' < n := by omega
          have hxi : (x' : Int) < (n : Int) := by omega
          have hyi : (y' : Int) < (n : Int) := by omega
          have tabo := tab2.below hb (Nat.le_refl _)
          obtain ⟨gg, rfl⟩ := own_form tab.own (by omega)
          obtain ⟨go, rfl⟩ := own_form tabo.own (by omega)
          have d0 := tab.outer hxn
          have d1 := tab.cell hxn hyn
          have d2 := tab.frozen hxn y'
          have e0 := tabo.outer hlt
          have e1 := tabo.cell hlt hlb
          have t1 := ((tab.drew).set (b := y') hxn (adj l a b)).congr (namedTo_next Hc.out (adj l) hx hy)
          have hb1 := (hb.drew).setCell (p := ⟨G3 x', y', none⟩) (tab.blk hxn).1 (.bool (adj l a b))
          have T1 := Lib.hid t1
          have HB1 := Lib.hid hb1
          clear t1 hb1 tab hb tabo hx hy hx0 hy0
          go_wp2
          refine wp_region_still_tail 19 (by kernel_rfl) (by kernel_rfl) ?_
          simp only [List.take_succ_cons, List.take_zero, List.drop_succ_cons, List.drop_zero]
          repeat still_step
          refine wpStill_nil ?_
          change wpList _ _ _ _ _ (World.drew _)
          go_wp2
          go_roundw
          case rel => exact ⟨b + 1, by omega, by go_num, T1.out, HB1.out⟩
          case measure => simp [intOf]; omega
        · have hbe : b = n := by omega
          subst hbe
          have hge : ¬ ((b : Int) < (b : Int)) := by omega
          have tab1 := tab.congr (namedTo_row Hc.out (adj l) a)
          clear tab
          go_wp2
          go_roundw
          case rel => exact ⟨a + 1, by omega, by go_num, tab1, hb⟩
          case measure => simp [intOf]; omega
    · have hae : a = n := by omega
      subst hae
      have hge : ¬ ((a : Int) < (a : Int)) := by omega
      have tab1 := tab.congr (namedTo_all Hc.out (adj l))
      have z0 := carry hb y0 (by omega)
      have z1 := carry hb y1 (by omega)
      have z2 := (hb.frozen (p := ⟨w.heap.size + 1, 0, none⟩) (by simp; omega)).trans y2
      have z3 := (hb.frozen (p := ⟨w.heap.size + 1, 1, none⟩) (by simp; omega)).trans y3
      have kwr := k2.trans (hb.mono (by omega))
      clear y0 y1 y2 y3 tab hb
      go_wp2_with fail
      refine (paOf_any a _ A3 c3 G3 _ _ hn12 tab1).mono ?_
      rw [Htab.out]
      rintro e w5 ⟨A5, c5, rfl, hown5, hb5⟩
      have y0 := carry hb5 z0 (by omega)
      have y1 := carry hb5 z1 (by omega)
      have y2 := (hb5.frozen (p := ⟨w.heap.size + 1, 0, none⟩) (by simp; omega)).trans z2
      have y3 := (hb5.frozen (p := ⟨w.heap.size + 1, 1, none⟩) (by simp; omega)).trans z3
      have k5 := kwr.trans (hb5.mono kwr.size)
      clear z0 z1 z2 z3 hb5 tab1
      go_wp2
      refine bodyPost_ret (v := .agg #[.int .i64 (a : Int), .slice A5 (sortP (namesP l q)).length c5]) (by simp [results, Try.results48, go_sem, y0, y1]) rfl ?_
      exact ⟨A5, c5, rfl, own_lower (ownsRow_setCell_below (ownsRow_setCell_below hown5 (a := ⟨w.heap.size + 1, 0, none⟩) (by simp; omega) _) (a := ⟨w.heap.size + 1, 1, none⟩) (by simp; omega) _) kwr.size, (k5.setCell (p := ⟨w.heap.size + 1, 0, none⟩) (by simp) _).setCell (p := ⟨w.heap.size + 1, 1, none⟩) (by simp) _⟩
end Go.Proofs.Ytaemodpolopcfaa
