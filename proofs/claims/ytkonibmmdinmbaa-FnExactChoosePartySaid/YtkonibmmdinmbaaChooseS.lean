/-
  'paChoose' and 'ChooseParty' of the model, by their contracts.
-/
import Derived.Test.YtkonibmmdinmbaaChooseI
import Derived.Test.YtkonibmmdinmbaaOfR
import Derived.Test.YtkonibmmdinmbaaNumsW
namespace Go.Proofs.Ytkonibmmdinmbaa
open Go.RowKit

theorem bcells_next (f : Nat → Bool) (k : Nat) : bcells ((List.range (k + 1)).map f) = bcells ((List.range k).map f) ++ [.bool (f k)] := by simp [bcells, List.range_succ]

set_option maxHeartbeats 4000000 in
set_option maxRecDepth 100000 in
theorem paChoose_any (p : Int) (l : PL) (A : Option Addr) (c : Nat) (q : List Int) (B : Option Addr) (d : Nat) (w : World) (hp : isP p l = true) (hc : isChoiceI p q = true) (hA : CRead w w.heap.size A (pcells l)) (hB : CRead w w.heap.size B (icells q)) :
    Calls Try.prog 93 #[.agg #[.int .i64 p, .slice A l.length c], .slice B q.length d] w (GotParty w (q.length : Int) (chooseP l q)) := by
  obtain ⟨i0, hi, hz0, hz1, hz2⟩ := info_parts Try.infoRow
  obtain ⟨i1, hib, hb0z, hb1z, hb2z⟩ := info_parts Try.infoBool
  have hn := isP_range hp
  have hq12 : q.length ≤ 12 := by rcases isChoiceI_long hc with h | h; (· omega); (· simp [h])
  have Htab := Lib.hid (tabP_choose hp hc)
  have Hp := Lib.hid hp
  have Hmem := Lib.hid (isChoiceI_mem hc)
  clear hp hc
  generalize hW : (w.alloc (Obj.cells #[.int .i64 p, .slice A l.length c] 29)).alloc (Obj.cells #[.int .i64 0, .slice none 0 0] 29) = W
  have a0 : W.cell? ⟨w.heap.size, 0, none⟩ = some (.int .i64 p) := by rw [← hW]; simp
  have a1 : W.cell? ⟨w.heap.size, 1, none⟩ = some (.slice A l.length c) := by rw [← hW]; simp
  have X0 : W.cell? ⟨w.heap.size + 1, 0, none⟩ = some (.int .i64 0) := by rw [← hW]; simp
  have X1 : W.cell? ⟨w.heap.size + 1, 1, none⟩ = some (.slice none 0 0) := by rw [← hW]; simp
  have Z0 : W.frozen? ⟨w.heap.size + 1, 0, none⟩ = false := by rw [← hW]; simp
  have Z1 : W.frozen? ⟨w.heap.size + 1, 1, none⟩ = false := by rw [← hW]; simp
  have kW : Below w.heap.size w W := by rw [← hW]; go_grown
  have sW1 : w.heap.size < W.heap.size := by rw [← hW]; simp only [World.size_alloc]; omega
  have sW2 : w.heap.size + 1 < W.heap.size := by rw [← hW]; simp
  have RA := (hA.below kW (Nat.le_refl _)).more kW.size
  have HW := Lib.hid hW
  clear hW
  go_enter Try.func93, Try.ntmps93
  go_wp2_with fail
  rw [HW.out]
  refine (paTable_any p l A c _ Hp.out RA).mono ?_
  rintro e w2 ⟨A2, c2, G, rfl, tab2, hb2⟩
  have s2 := hb2.size
  have k2 := kW.trans (hb2.mono kW.size)
  have y0 := carry hb2 X0 sW2
  have y1 := carry hb2 X1 sW2
  have y2 := (hb2.frozen (p := ⟨w.heap.size + 1, 0, none⟩) sW2).trans Z0
  have y3 := (hb2.frozen (p := ⟨w.heap.size + 1, 1, none⟩) sW2).trans Z1
  obtain ⟨n, rfl⟩ : ∃ n : Nat, p = n := ⟨p.toNat, by omega⟩
  rw [Int.toNat_natCast] at tab2 ⊢
  clear a0 a1 X0 X1 Z0 Z1 HW hb2
  go_wp2
  go_loopw [6, 16] (fun v i wr => ∃ m : Nat, m ≤ q.length ∧ i = .int .i64 m ∧ ChT wr w2.heap.size v m q.length (chosenT l q) ∧ Below w2.heap.size w2 wr) (fun _ i _ => q.length - (intOf i).toNat)
  case atStart => exact ⟨0, Nat.zero_le _, rfl, ChT.nil _ _ _ _, Below.refl _ _⟩
  case round =>
    obtain ⟨m, hm, rfl, hch, hb⟩ := hrel
    obtain ⟨wo, rfl⟩ : ∃ wo : World, wo = wr := ⟨wr, rfl⟩
    have hs := hb.size
    have kwr := k2.trans (hb.mono (by omega))
    by_cases hlt : m < q.length
    · obtain ⟨x, hx⟩ := getSome q m hlt
      obtain ⟨bb, off, rfl, hbb, c0⟩ := (hB.below kwr (Nat.le_refl _)).int hx
      have hx0 := Hmem.out x (List.mem_of_getElem? hx)
      obtain ⟨a, rfl⟩ : ∃ a : Nat, x = a := ⟨x.toNat, by omega⟩
      have hmi : (m : Int) < (q.length : Int) := by omega
      have ha : a < n := by omega
      have hai : (a : Int) < (n : Int) := by omega
      have Ha := Lib.hid (show gI q m = a from by have := gI_at hx (by omega); omega)
      obtain ⟨rows, hrl, hro⟩ := hch.own
      have Hch := Lib.hid hch
      have Hb := Lib.hid hb
      clear hx hch hb
      go_wp2
      go_loopw [9, 22] (fun v' i wr => ∃ k : Nat, k ≤ q.length ∧ i = .int .i64 k ∧ wr.ownsRow wo.heap.size 4 1 v' k (bcells ((List.range k).map (chosenT l q m))) ∧ Below wo.heap.size wo wr) (fun _ i _ => q.length - (intOf i).toNat)
      case atStart => exact ⟨0, Nat.zero_le _, rfl, World.ownsRow_nil _ _ _ _, Below.refl _ _⟩
      case round =>
        obtain ⟨k, hk, rfl, hown, hbx⟩ := hrel
        have hsx := hbx.size
        by_cases hkt : k < q.length
        · obtain ⟨y, hy⟩ := getSome q k hkt
          obtain ⟨bb', off', e', _, c1⟩ := (hB.below (kwr.trans (hbx.mono (by omega))) (Nat.le_refl _)).int hy
          simp only [Option.some.injEq, Addr.mk.injEq, and_true] at e'
          obtain ⟨rfl, rfl⟩ := e'
          have hy0 := Hmem.out y (List.mem_of_getElem? hy)
          obtain ⟨b, rfl⟩ : ∃ b : Nat, y = b := ⟨y.toNat, by omega⟩
          have hkj : (k : Int) < (q.length : Int) := by omega
          have hbn : b < n := by omega
          have hbi : (b : Int) < (n : Int) := by omega
          have tab := tab2.below (Hb.out.trans (hbx.mono (by omega))) (Nat.le_refl _)
          obtain ⟨gg, rfl⟩ := own_form tab.own (by omega)
          have d0 := tab.outer ha
          have d1 := tab.cell ha hbn
          have Hv := Lib.hid (show adj l a b = chosenT l q m k from by unfold chosenT; rw [Ha.out, show gI q k = b from by have := gI_at hy (by omega); omega])
          generalize hval : adj l a b = val at d1 Hv
          have Hval := Lib.hid hval
          clear hy tab hval hx0 hy0
          go_wp2_with (at_builtin; refine wpList_append_own _ rfl _ _ 120 rfl wo.heap.size 4 i1 (.bool false) 1 1 Try.underlying120 hib hb0z hb1z hb2z rfl (by decide) _ _ _ rfl (hown.alloc _) ⟨wr.heap.size, 0, none⟩ 1 1 [.bool val] rfl rfl (one_cell (by simp)) (one_one rfl) (by unfold maxLen; omega) (by omega) (by simp; omega) ?_; intro v1 w3 hown3 hg3 _)
          have hb3 : Below wo.heap.size wo w3 := (hbx.alloc hsx _).grown hg3 (by simp; omega) (fun b hb => (hown.lt b hb).1)
          go_roundw
          case rel => exact ⟨k + 1, by omega, by go_num, by rw [bcells_next, ← Hv.out]; exact hown3, hb3⟩
          case measure => simp [intOf]; omega
        · have hkl : k = q.length := by omega
          subst hkl
          have hge : ¬ ((q.length : Int) < (q.length : Int)) := by omega
          obtain ⟨Ar, cr, rfl, _⟩ := own_shape hown
          have hrow := own_lower hown (show w2.heap.size ≤ wo.heap.size by omega)
          have ch2 := Hch.out.below hbx
          have ho2 := own_below hro hbx (Nat.le_refl _)
          go_wp2_with (at_builtin; refine wpList_append_own _ rfl _ _ 91 rfl w2.heap.size 120 i0 (.slice none 0 0) 1 24 Try.underlying91 hi hz0 hz1 hz2 rfl (by decide) _ _ _ rfl (ho2.alloc _) ⟨wr.heap.size, 0, none⟩ 1 1 [.slice Ar q.length cr] rfl rfl (one_cell (by simp)) (one_one rfl) (by unfold maxLen; omega) (by omega) (by simp; omega) ?_; intro v1 w3 hown3 hg3 _)
          have hb3 : Below w2.heap.size w2 w3 := ((Hb.out.trans (hbx.mono (by omega))).alloc (by omega) _).grown hg3 (by simp; omega) (fun b hb => (ho2.lt b hb).1)
          have ch3 := ch2.push hrow ho2 hg3 hown3
          go_roundw
          case rel => exact ⟨m + 1, by omega, by go_num, ch3, hb3⟩
          case measure => simp [intOf]; omega
    · have hml : m = q.length := by omega
      subst hml
      have hge : ¬ ((q.length : Int) < (q.length : Int)) := by omega
      obtain ⟨rows, hrl, hro⟩ := hch.own
      obtain ⟨Av, cv, rfl, _⟩ := own_shape hro
      have ht := hch.tabR
      have z0 := carry hb y0 (by omega)
      have z1 := carry hb y1 (by omega)
      have z2 := (hb.frozen (p := ⟨w.heap.size + 1, 0, none⟩) (by simp; omega)).trans y2
      have z3 := (hb.frozen (p := ⟨w.heap.size + 1, 1, none⟩) (by simp; omega)).trans y3
      clear y0 y1 y2 y3 hch hro
      go_wp2_with fail
      refine (paOfR_any q.length (chosenT l q) Av cv wo hq12 ht).mono ?_
      rw [Htab.out]
      rintro e w5 ⟨A5, c5, rfl, hown5, hb5⟩
      have y0 := carry hb5 z0 (by omega)
      have y1 := carry hb5 z1 (by omega)
      have y2 := (hb5.frozen (p := ⟨w.heap.size + 1, 0, none⟩) (by simp; omega)).trans z2
      have y3 := (hb5.frozen (p := ⟨w.heap.size + 1, 1, none⟩) (by simp; omega)).trans z3
      have k5 := kwr.trans (hb5.mono (by omega))
      have Hk := Lib.hid k5
      clear z0 z1 z2 z3 hb hb5 ht
      go_wp2
      refine bodyPost_ret (v := .agg #[.int .i64 (q.length : Int), .slice A5 (chooseP l q).length c5]) (by simp [results, Try.results93, go_sem, y0, y1]) rfl ?_
      exact ⟨A5, c5, rfl, ownsRow_setCell_below (ownsRow_setCell_below hown5 (a := ⟨w.heap.size + 1, 0, none⟩) (by simp; omega) _) (a := ⟨w.heap.size + 1, 1, none⟩) (by simp; omega) _ |> fun h => own_lower h (by omega), (Hk.out.setCell (p := ⟨w.heap.size + 1, 0, none⟩) (by simp) _).setCell (p := ⟨w.heap.size + 1, 1, none⟩) (by simp) _⟩
end Go.Proofs.Ytkonibmmdinmbaa
