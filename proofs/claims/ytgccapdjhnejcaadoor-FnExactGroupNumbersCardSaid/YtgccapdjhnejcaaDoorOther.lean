/-
  THE MODEL's PARTY WITH FRIENDS AND STRANGERS EXCHANGED, by its contract.
-/
import Derived.Test.YtgccapdjhnejcaaDoorOf
namespace Go.Proofs.YtgccapdjhnejcaaDoor
open Go.RowKit

def otherP (n : Nat) (l : PL) : PL := (allP n).filter fun q => !l.contains q
theorem tabP_congr {n : Nat} {t t' : Nat → Nat → Bool} (h : ∀ i j, i < j → j < n → t i j = t' i j) : tabP n t = tabP n t' := by
  unfold tabP
  refine List.filter_congr fun q hq => ?_
  have := mem_allP.1 hq
  exact h _ _ (by omega) (by omega)
theorem tabP_contains {n : Nat} {l : PL} (f : Bool → Bool) (h : isP n l = true) : tabP n (fun i j => f (adj l i j)) = (allP n).filter fun q => f (l.contains q) := by
  unfold tabP
  refine List.filter_congr fun q hq => ?_
  have hm := mem_allP.1 hq
  show f (adj l q.1.toNat q.2.toNat) = _
  rw [adj_pair h (i := q.1.toNat) (j := q.2.toNat) (by omega)]
  have e : (((q.1.toNat : Nat) : Int), ((q.2.toNat : Nat) : Int)) = q := by
    obtain ⟨x, y⟩ := q
    simp only [Prod.mk.injEq]
    simp at hm
    omega
  rw [e]
theorem tabP_other {n : Nat} {l : PL} (h : isP n l = true) : tabP n (fun i j => !adj l i j) = otherP n l := tabP_contains (fun b => !b) h
theorem tabP_same {n : Nat} {l : PL} (h : isP n l = true) : tabP n (adj l) = l := (tabP_contains (fun b => b) h).trans (isP_filter h)

/-- the table in the middle of being turned -/
def turnT (t : Nat → Nat → Bool) (a b : Nat) : Nat → Nat → Bool := fun i j => if i < a ∨ i = a ∧ j < b then !t i j else t i j
theorem turnT_start (t : Nat → Nat → Bool) : turnT t 0 0 = t := by funext i j; simp [turnT]
theorem turnT_next (t : Nat → Nat → Bool) (a b : Nat) : upd (turnT t a b) a b (!t a b) = turnT t a (b + 1) := by
  funext i j
  unfold upd turnT
  by_cases h : i = a ∧ j = b
  · obtain ⟨rfl, rfl⟩ := h
    simp
  · rw [if_neg h]
    have : (i < a ∨ i = a ∧ j < b) ↔ (i < a ∨ i = a ∧ j < b + 1) := by omega
    simp only [this]
theorem turnT_row {n : Nat} (t : Nat → Nat → Bool) (a : Nat) : ∀ i j, i < n → j < n → turnT t a n i j = turnT t (a + 1) 0 i j := by
  intro i j hi hj
  unfold turnT
  have : (i < a ∨ i = a ∧ j < n) ↔ (i < a + 1 ∨ i = a + 1 ∧ j < 0) := by omega
  simp only [this]
theorem turnT_all {n : Nat} (t : Nat → Nat → Bool) : ∀ i j, i < n → j < n → turnT t n 0 i j = !t i j := by
  intro i j hi hj
  unfold turnT
  rw [if_pos (.inl hi)]
theorem turnT_at (t : Nat → Nat → Bool) (a b : Nat) : turnT t a b a b = t a b := by unfold turnT; rw [if_neg (by omega)]

set_option maxHeartbeats 2000000 in
set_option maxRecDepth 100000 in
theorem paOther_any (p : Int) (l : PL) (A : Option Addr) (c : Nat) (w : World) (hp : isP p l = true) (hA : CRead w w.heap.size A (pcells l)) :
    Calls Tryd.prog 81 #[.agg #[.int .i64 p, .slice A l.length c]] w (GotParty w p (otherP p.toNat l)) := by
  obtain ⟨n, rfl⟩ : ∃ n : Nat, p = n := ⟨p.toNat, by have := isP_range hp; omega⟩
  have hn := isP_range hp
  have hn12 : n ≤ 12 := by omega
  simp only [Int.toNat_natCast]
  have Hp := Lib.hid hp
  clear hp
  go_enter Tryd.func81, Tryd.ntmps81
  go_wp2_with fail
  refine (paTable_any _ _ _ _ _ Hp.out ((hA.below (B' := w.heap.size) (by go_grown) (Nat.le_refl _)).more (by go_size))).mono ?_
  simp only [Int.toNat_natCast]
  rintro e w1 ⟨A1, c1, G, rfl, tab1, hb1⟩
  simp only [World.size_alloc] at hb1 tab1
  have s1 := hb1.size
  simp only [World.size_alloc] at s1
  have x0 : w1.cell? ⟨w.heap.size + 1, 0, none⟩ = some (.int .i64 0) := carry hb1 (by simp) (by omega)
  have x1 : w1.cell? ⟨w.heap.size + 1, 1, none⟩ = some (.slice none 0 0) := carry hb1 (by simp) (by omega)
  have z0 : w1.frozen? ⟨w.heap.size + 1, 0, none⟩ = false := (hb1.frozen (p := ⟨w.heap.size + 1, 0, none⟩) (by simp)).trans (by simp)
  have z1 : w1.frozen? ⟨w.heap.size + 1, 1, none⟩ = false := (hb1.frozen (p := ⟨w.heap.size + 1, 1, none⟩) (by simp)).trans (by simp)
  have k1 : Below (w.heap.size + 2) w1 w1 := Below.refl _ _
  have kw : Below w.heap.size w w1 := Below.trans (b := _) (by go_grown) (hb1.mono (by omega))
  go_wp2
  go_loopw [10] (fun i wr => ∃ a : Nat, a ≤ n ∧ i = .int .i64 a ∧ TabG wr (w.heap.size + 2) (.slice A1 n c1) n n G (turnT (adj l) a 0) ∧ Below (w.heap.size + 2) w1 wr) (fun i _ => n - (intOf i).toNat)
  case atStart => exact ⟨0, Nat.zero_le _, rfl, by rw [turnT_start]; exact tab1, k1⟩
  case round =>
    obtain ⟨a, ha, rfl, tab, hb⟩ := hrel
    by_cases hlt : a < n
    · have hai : (a : Int) < n := by omega
      have Tab := Lib.hid tab
      have Hb := Lib.hid hb
      clear tab hb tab1
      go_wp2
      go_loopw [15] (fun i wx => ∃ b : Nat, b ≤ n ∧ i = .int .i64 b ∧ TabG wx (w.heap.size + 2) (.slice A1 n c1) n n G (turnT (adj l) a b) ∧ Below (w.heap.size + 2) w1 wx) (fun i _ => n - (intOf i).toNat)
      case atStart => exact ⟨0, Nat.zero_le _, rfl, Tab.out, Hb.out⟩
      case round =>
        clear Tab Hb
        obtain ⟨b, hbn, rfl, tab, hb⟩ := hrel
        by_cases hbt : b < n
        · have hbi : (b : Int) < n := by omega
          obtain ⟨g, rfl⟩ := own_form tab.own (by omega)
          have d0 := tab.outer hlt
          have d1 := tab.cell hlt hbt
          rw [turnT_at] at d1
          have d2 := tab.frozen hlt b
          have hG := tab.blk hlt
          have t1 := tab.set (b := b) hlt (!adj l a b)
          rw [turnT_next] at t1
          have T1 := Lib.hid t1
          have Hb := Lib.hid hb
          clear t1 tab hb
          go_wp2
          refine wp_region_still_tail 14 (by kernel_rfl) (by kernel_rfl) ?_
          simp only [List.take_succ_cons, List.take_zero, List.drop_succ_cons, List.drop_zero]
          repeat still_step
          refine wpStill_nil ?_
          change wpList _ _ _ _ _ (World.drew _)
          go_wp2
          go_roundw
          case rel =>
            refine ⟨b + 1, by omega, by go_num, ?_, ?_⟩
            · exact T1.out.of_blocks ⟨rfl, rfl, rfl, Nat.le_refl _, fun _ _ _ => rfl⟩
            · exact (Hb.out.setCell (p := ⟨G a, b, none⟩) hG.1 _).drew
          case measure => simp [intOf]; omega
        · have hbn' : n = b := by omega
          subst hbn'
          have hge : ¬ ((n : Int) < n) := by omega
          go_wp2
          go_roundw
          case rel => exact ⟨a + 1, by omega, by go_num, tab.congr (turnT_row _ _), hb⟩
          case measure => simp [intOf]; omega
    · have hal : n = a := by omega
      subst hal
      have hge : ¬ ((n : Int) < n) := by omega
      have tab2 := tab.congr (turnT_all _)
      have y0 := carry hb x0 (by omega)
      have y1 := carry hb x1 (by omega)
      have y2 := (hb.frozen (p := ⟨w.heap.size + 1, 0, none⟩) (by simp)).trans z0
      have y3 := (hb.frozen (p := ⟨w.heap.size + 1, 1, none⟩) (by simp)).trans z1
      have hs := hb.size
      have kr := kw.trans (hb.mono (by omega))
      clear x0 x1 z0 z1
      go_wp2_with fail
      refine (paOf_any _ _ _ _ _ _ _ hn12 tab2).mono ?_
      rw [tabP_other Hp.out]
      rintro e w2 ⟨A2, c2, rfl, own2, hb2⟩
      have o0 := carry hb2 y0 (by omega)
      have o1 := carry hb2 y1 (by omega)
      have o2 := (hb2.frozen (p := ⟨w.heap.size + 1, 0, none⟩) (by simp; omega)).trans y2
      have o3 := (hb2.frozen (p := ⟨w.heap.size + 1, 1, none⟩) (by simp; omega)).trans y3
      have hs2 := hb2.size
      clear y0 y1 y2 y3
      go_wp2
      refine bodyPost_ret (v := .agg #[.int .i64 n, .slice A2 (otherP n l).length c2]) (by simp [results, Tryd.results81, go_sem, o0, o1]) rfl ?_
      exact ⟨A2, c2, rfl, own_lower (ownsRow_setCell_below (ownsRow_setCell_below own2 (a := ⟨w.heap.size + 1, 0, none⟩) (by simp; omega) _) (a := ⟨w.heap.size + 1, 1, none⟩) (by simp; omega) _) (by omega),
        ((kr.trans (hb2.mono (by omega))).setCell (p := ⟨w.heap.size + 1, 0, none⟩) (by simp) _).setCell (p := ⟨w.heap.size + 1, 1, none⟩) (by simp) _⟩
end Go.Proofs.YtgccapdjhnejcaaDoor
