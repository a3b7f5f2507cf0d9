/-
  THE PROGRAM's 'PartsParty', by its contract: a party that grows part by part.
-/
import Derived.Test.YtgccapdjhnejcaaPartsS
import Derived.Test.YtgccapdjhnejcaaBT
namespace Go.Proofs.Ytgccapdjhnejcaa
open Go.RowKit

/-- a good beginning and one size more -/
theorem together_part {q : List Int} {k : Nat} {x : Int} (h1 : ∀ y ∈ q.take k, 1 ≤ y) (h12 : sumI (q.take k) ≤ 12) (hx : q[k]? = some x) (hx1 : 1 ≤ x) (hx2 : x ≤ 12 - sumI (q.take k)) :
    resTogetherParty (sumI (q.take k)) (partsP (q.take k)) x [] = (sumI (q.take (k + 1)), partsP (q.take (k + 1)), true) := by
  have hl := partL_length (l := q.take k) (fun y hy => by have := h1 y hy; omega) 0
  have e2 : q.take (k + 1) = q.take k ++ [x] := by rw [List.take_add_one, hx, Option.toList_some]
  have e3 : sumI (q.take (k + 1)) = sumI (q.take k) + x := by rw [e2, sumI_snoc]
  have hp := partsP_isP (q := q.take k) (by omega)
  rw [hl] at hp
  have hn : isP x [] = true := by simp [isP]; omega
  have hj := partsP_next (q := q.take k) (s := x) (by omega)
  unfold resTogetherParty resJoin
  rw [hp, hn, e3, if_pos (by simp; omega), e2, ← hj]
  unfold joinP
  rw [show (sumI (q.take k)).toNat = (partL 0 (q.take k)).length from by omega]

set_option maxHeartbeats 4000000 in
set_option maxRecDepth 100000 in
theorem implPartsParty_any (q : List Int) (A : Option Addr) (c : Nat) (w : World) (hl : q.length ≤ 1048576) (hA : CRead w w.heap.size A (icells q)) :
    Calls Try.prog 18 #[.slice A q.length c] w (GotPartyOk w (resPartsParty q).1 (resPartsParty q).2.1 (resPartsParty q).2.2) := by
  by_cases h0 : q.length = 0
  · have hq : q = [] := List.eq_nil_of_length_eq_zero h0
    subst hq
    have e : resPartsParty [] = (0, [], false) := by simp [resPartsParty, goodS]
    rw [e]
    clear e h0
    go_enter Try.func18, Try.ntmps18
    go_wp2
    refine bodyPost_ret (v := .tuple #[.agg #[.int .i64 0, .slice none 0 0], .bool false]) (by simp [results, Try.results18, go_sem]) rfl ?_
    exact ⟨none, 0, rfl, World.ownsRow_nil _ _ _ _, by go_grown⟩
  · have hpos : ((q.length : Int) == 0) = false := by simp only [beq_eq_false_iff_ne, ne_eq]; omega
    obtain ⟨⟨rp, rl, rok⟩, hres⟩ : ∃ r, resPartsParty q = r := ⟨_, rfl⟩
    rw [hres]
    have Hres := Lib.hid hres
    clear hres
    go_enter Try.func18, Try.ntmps18
    go_wp2
    go_loopw [13] (fun i wr => ∃ (k : Nat) (v : Value), k ≤ q.length ∧ i = .int .i64 k ∧ (∀ y ∈ q.take k, 1 ≤ y) ∧ sumI (q.take k) ≤ 12 ∧ 0 ≤ sumI (q.take k) ∧
      wr.heap[w.heap.size]? = some (.cells #[.int .i64 0, .slice none 0 0] 31 (0, 0)) ∧ wr.heap[w.heap.size + 1]? = some (.cells #[.int .i64 (sumI (q.take k)), v] 31 (0, 0)) ∧
      wr.ownsRow (w.heap.size + 2) 59 2 v (partsP (q.take k)).length (pcells (partsP (q.take k))) ∧ Below w.heap.size w wr) (fun i _ => q.length - (intOf i).toNat)
    case atStart =>
      refine ⟨0, .slice none 0 0, Nat.zero_le _, rfl, fun y hy => by simp at hy, by simp [sumI_nil], by simp [sumI_nil], ?_, ?_, World.ownsRow_nil _ _ _ _, by go_grown⟩
      · rw [Below.heap_alloc _ _ _ (by simp)]
        exact heap_alloc_new w _
      · have := heap_alloc_new (w.alloc (.cells #[.int .i64 0, .slice none 0 0] 31)) (.cells #[.int .i64 0, .slice none 0 0] 31)
        simpa [sumI_nil] using this
    case round =>
      obtain ⟨k, v, hk, rfl, hk1, hk12, hk0, hx0, hx1, hown, hb⟩ := hrel
      have hs1 := lt_of_heap hx1
      obtain ⟨Ap, cp, rfl, _⟩ := own_shape hown
      have b0 : wr.cell? ⟨w.heap.size + 1, 0, none⟩ = some (.int .i64 (sumI (q.take k))) := by rw [cell_of_row _ _ _ _ _ _ hx1]; rfl
      have b1 : wr.cell? ⟨w.heap.size + 1, 1, none⟩ = some (.slice Ap (partsP (q.take k)).length cp) := by rw [cell_of_row _ _ _ _ _ _ hx1]; rfl
      have f0 := fun j => frozen_of_row _ _ j _ _ hx1
      have a0 : wr.cell? ⟨w.heap.size, 0, none⟩ = some (.int .i64 0) := by rw [cell_of_row _ _ _ _ _ _ hx0]; rfl
      have a1 : wr.cell? ⟨w.heap.size, 1, none⟩ = some (.slice none 0 0) := by rw [cell_of_row _ _ _ _ _ _ hx0]; rfl
      have g0 := fun j => frozen_of_row _ _ j _ _ hx0
      have f00 := f0 0
      have f01 := f0 1
      have g00 := g0 0
      have g01 := g0 1
      by_cases hlt : k < q.length
      · obtain ⟨x, hx⟩ := getSome q k hlt
        obtain ⟨b, off, rfl, hbb, c0⟩ := (hA.below hb (Nat.le_refl _)).int hx
        have hki : (k : Int) < (q.length : Int) := by omega
        by_cases hgood : 1 ≤ x ∧ x ≤ 12 - sumI (q.take k)
        · obtain ⟨hg1, hg2⟩ := hgood
          have hT := together_part hk1 hk12 hx hg1 hg2
          have e2 : q.take (k + 1) = q.take k ++ [x] := by rw [List.take_add_one, hx, Option.toList_some]
          have hk1' : ∀ y ∈ q.take (k + 1), 1 ≤ y := by rw [e2]; intro y hy; rcases List.mem_append.1 hy with h | h; exact hk1 y h; simp at h; omega
          have e3 : sumI (q.take (k + 1)) = sumI (q.take k) + x := by rw [e2, sumI_snoc]
          have hlen : (partsP (q.take k)).length ≤ 1048576 := by
            have hL := partL_length (l := q.take k) (fun y hy => by have := hk1 y hy; omega) 0
            have := filter_length_le (n := (partL 0 (q.take k)).length) (by omega) (fun r => partF (partL 0 (q.take k)) r.1.toNat r.2.toNat)
            show (tabP _ _).length ≤ 1048576
            unfold tabP
            omega
          have hRP := CRead.of_own hown
          have n1 : ¬ (x < 1) := by omega
          have n2 : ¬ (12 - sumI (q.take k) < x) := by omega
          have HT := Lib.hid hT
          have K1 := Lib.hid hk1'
          have K2 : sumI (q.take (k + 1)) ≤ 12 := by omega
          have K3 : 0 ≤ sumI (q.take (k + 1)) := by omega
          obtain ⟨s, hs⟩ : ∃ s, sumI (q.take k) = s := ⟨_, rfl⟩
          obtain ⟨L, hL⟩ : ∃ L, partsP (q.take k) = L := ⟨_, rfl⟩
          rw [hs] at b0 n2 hk0 hk12 HT
          rw [hL] at b1 hlen hRP HT
          have HX1 := Lib.hid hx1
          clear hT e2 hk1' e3 hx1 hown hs hL f0 g0 hk1 hx
          go_wp2_with fail
          refine (implTogetherParty_any s L Ap cp x [] none 0 _ hlen hRP (Nat.zero_le _) CRead.nil).mono ?_
          rw [HT.out]
          rintro e w2 ⟨A2, c2, rfl, own2, hb2⟩
          have s2 := hb2.size
          have y0 := (hb2.block w.heap.size (by omega)).trans hx0
          have y1 := (hb2.frozen (p := ⟨w.heap.size + 1, 0, none⟩) (by simp; omega)).trans f00
          have y2 := (hb2.frozen (p := ⟨w.heap.size + 1, 1, none⟩) (by simp; omega)).trans f01
          have z0 := carry hb2 b0 (by omega)
          have z1 := carry hb2 b1 (by omega)
          have Y0 := Lib.hid y0
          have O2 := Lib.hid own2
          have B2 := Lib.hid hb2
          clear b0 b1 f00 f01 a0 a1 g00 g01 y0 own2 hb2 hx0 hRP c0
          go_wp2
          go_roundw
          case rel =>
            have q0 := (B2.out.block (w.heap.size + 1) (by omega)).trans HX1.out
            have q1 := heap_setCell_same w2 (w.heap.size + 1) 0 _ _ (.int .i64 (sumI (q.take (k + 1)))) q0
            have q2 := heap_setCell_same _ (w.heap.size + 1) 1 _ _ (.slice A2 (partsP (q.take (k + 1))).length c2) q1
            refine ⟨k + 1, _, by omega, by go_num, K1.out, K2, K3, ?_, q2, ?_, ?_⟩
            · rw [heap_setCell_other _ _ _ _ (by simp), heap_setCell_other _ _ _ _ (by simp)]
              exact Y0.out
            · exact own_lower (ownsRow_setCell_below (ownsRow_setCell_below O2.out (a := ⟨w.heap.size + 1, 0, none⟩) (by simp; omega) _) (a := ⟨w.heap.size + 1, 1, none⟩) (by simp; omega) _) (by omega)
            · exact ((hb.trans (B2.out.mono hb.size)).setCell (p := ⟨w.heap.size + 1, 0, none⟩) (by simp) _).setCell (p := ⟨w.heap.size + 1, 1, none⟩) (by simp) _
          case measure => simp [intOf]; omega
        · have hbad : goodS q = false := goodS_no hx (by omega)
          have e : (rp, rl, rok) = (0, [], false) := by rw [← Hres.out]; simp [resPartsParty, hbad]
          simp only [Prod.mk.injEq] at e
          obtain ⟨rfl, rfl, rfl⟩ := e
          have hor : x < 1 ∨ ¬ (x < 1) ∧ 12 - sumI (q.take k) < x := by omega
          clear hbad hx hgood f0 g0
          rcases hor with hlo | ⟨hlo, hhi⟩
          · go_wp2
            refine bodyPost_ret (v := .tuple #[.agg #[.int .i64 0, .slice none 0 0], .bool false]) (by simp [results, Try.results18, go_sem, a0, a1]) rfl ?_
            exact ⟨none, 0, rfl, World.ownsRow_nil _ _ _ _, (hb.setCell (p := ⟨w.heap.size, 0, none⟩) (by simp) _).setCell (p := ⟨w.heap.size, 1, none⟩) (by simp) _⟩
          · go_wp2
            refine bodyPost_ret (v := .tuple #[.agg #[.int .i64 0, .slice none 0 0], .bool false]) (by simp [results, Try.results18, go_sem, a0, a1]) rfl ?_
            exact ⟨none, 0, rfl, World.ownsRow_nil _ _ _ _, (hb.setCell (p := ⟨w.heap.size, 0, none⟩) (by simp) _).setCell (p := ⟨w.heap.size, 1, none⟩) (by simp) _⟩
      · have hkl : k = q.length := by omega
        subst hkl
        rw [List.take_length] at hk1 hk12 hk0 hown b0 b1
        have hge : ¬ ((q.length : Int) < (q.length : Int)) := by omega
        have hg : goodS q = true := goodS_of (fun h => h0 (by rw [h]; rfl)) hk1 hk12
        have e : (rp, rl, rok) = (sumI q, partsP q, true) := by rw [← Hres.out]; simp [resPartsParty, hg]
        simp only [Prod.mk.injEq] at e
        obtain ⟨e1, e2, e3⟩ := e
        have E1 := Lib.hid e1
        have E2 := Lib.hid e2
        have E3 := Lib.hid e3
        clear e1 e2 e3 hg hk1 f0 g0 hx1
        go_wp2
        refine bodyPost_ret (v := .tuple #[.agg #[.int .i64 (sumI q), .slice Ap (partsP q).length cp], .bool true]) (by simp [results, Try.results18, go_sem, a0, a1]) rfl ?_
        rw [E1.out, E2.out, E3.out]
        exact ⟨Ap, cp, rfl, own_lower (ownsRow_setCell_below (ownsRow_setCell_below hown (a := ⟨w.heap.size, 0, none⟩) (by simp) _) (a := ⟨w.heap.size, 1, none⟩) (by simp) _) (by omega),
          (hb.setCell (p := ⟨w.heap.size, 0, none⟩) (by simp) _).setCell (p := ⟨w.heap.size, 1, none⟩) (by simp) _⟩
end Go.Proofs.Ytgccapdjhnejcaa
