/-
  'AddPair' and 'DropPair': the model's, by its contract.
-/
import Derived.Test.YtgkfnckgpbjbdaaOther
import Derived.Test.YtgkfnckgpbjbdaaAre
namespace Go.Proofs.Ytgkfnckgpbjbdaa
open Go.RowKit

/-- the pairs of a party in which one pair's friendship is set -/
def changed (n : Nat) (l : PL) (a b : Int) (x : Bool) : PL := (allP n).filter fun q => if q = (min a b, max a b) then x else l.contains q
def resChange (x : Bool) (p : Int) (l : PL) (a b : Int) : Int × PL × Bool := if isTwo p l a b = true ∧ areF l a b = !x then (p, changed p.toNat l a b x, true) else (0, [], false)
theorem resChange_len (x : Bool) (p : Int) (l : PL) (a b : Int) : (resChange x p l a b).2.1.length ≤ 1048576 := by
  unfold resChange
  split
  · rename_i h
    have := isP_range (isTwo_parts h.1).1
    exact Nat.le_trans (filter_length_le (n := p.toNat) (by omega) _) (by omega)
  · simp
def resAddPair := resChange true
def resDropPair := resChange false
theorem resAddPair_len (p : Int) (l : PL) (a b : Int) : (resAddPair p l a b).2.1.length ≤ 1048576 := resChange_len _ _ _ _ _
theorem resDropPair_len (p : Int) (l : PL) (a b : Int) : (resDropPair p l a b).2.1.length ≤ 1048576 := resChange_len _ _ _ _ _
theorem tabP_changed {n : Nat} {l : PL} (h : isP n l = true) {a b : Nat} (_hab : a ≠ b) (x : Bool) : tabP n (upd (upd (adj l) a b x) b a x) = changed n l a b x := by
  unfold tabP changed
  refine List.filter_congr fun q hq => ?_
  have hm := mem_allP.1 hq
  obtain ⟨u, v⟩ := q
  obtain ⟨i, rfl⟩ : ∃ i : Nat, u = i := ⟨u.toNat, by simp at hm; omega⟩
  obtain ⟨j, rfl⟩ : ∃ j : Nat, v = j := ⟨v.toNat, by simp at hm; omega⟩
  simp only at hm
  have hij : i < j := by omega
  simp only [Int.toNat_natCast, upd, adj_pair h hij]
  by_cases h1 : i = b ∧ j = a
  · rw [if_pos h1, if_pos]
    simp only [Prod.mk.injEq]
    omega
  · by_cases h2 : i = a ∧ j = b
    · rw [if_neg h1, if_pos h2, if_pos]
      simp only [Prod.mk.injEq]
      omega
    · rw [if_neg h1, if_neg h2, if_neg]
      simp only [Prod.mk.injEq]
      omega

set_option maxHeartbeats 2000000 in
set_option maxRecDepth 100000 in
theorem paChange_any (x : Bool) (p : Int) (l : PL) (A : Option Addr) (c : Nat) (a b : Int) (w : World) (hl : l.length ≤ 1048576) (hA : CRead w w.heap.size A (pcells l)) :
    Calls Try.prog 83 #[.agg #[.int .i64 p, .slice A l.length c], .int .i64 a, .int .i64 b, .bool x] w (GotPartyOk w (resChange x p l a b).1 (resChange x p l a b).2.1 (resChange x p l a b).2.2) := by
  have hr : CRead ((w.alloc (Obj.cells #[.int .i64 p, .slice A l.length c] 29)).alloc (Obj.cells #[.int .i64 0, .slice none 0 0] 29)) ((w.alloc (Obj.cells #[.int .i64 p, .slice A l.length c] 29)).alloc (Obj.cells #[.int .i64 0, .slice none 0 0] 29)).heap.size A (pcells l) := (hA.below (B' := w.heap.size) (by go_grown) (Nat.le_refl _)).more (by go_size)
  cases h2 : isTwo p l a b with
  | false =>
    have e : resChange x p l a b = (0, [], false) := by simp [resChange, h2]
    rw [e]
    have H2 := Lib.hid h2
    clear h2 e
    go_enter Try.func83, Try.ntmps83
    go_wp2_with fail
    refine (paTwo_any _ _ _ _ _ _ _ hl hr).mono ?_
    rw [H2.out]
    rintro e w2 ⟨rfl, hb2⟩
    simp only [World.size_alloc] at hb2
    have x0 : w2.cell? ⟨w.heap.size + 1, 0, none⟩ = some (.int .i64 0) := carry hb2 (by simp) (by omega)
    have x1 : w2.cell? ⟨w.heap.size + 1, 1, none⟩ = some (.slice none 0 0) := carry hb2 (by simp) (by omega)
    have z0 : w2.frozen? ⟨w.heap.size + 1, 0, none⟩ = false := (hb2.frozen (p := ⟨w.heap.size + 1, 0, none⟩) (by simp)).trans (by simp)
    have z1 : w2.frozen? ⟨w.heap.size + 1, 1, none⟩ = false := (hb2.frozen (p := ⟨w.heap.size + 1, 1, none⟩) (by simp)).trans (by simp)
    have k2 : Below w.heap.size w w2 := Below.trans (b := _) (by go_grown) (hb2.mono (by omega))
    go_wp2
    refine bodyPost_ret (v := .tuple #[.agg #[.int .i64 0, .slice none 0 0], .bool false]) (by simp [results, Try.results83, go_sem, x0, x1]) rfl ?_
    exact ⟨none, 0, rfl, World.ownsRow_nil _ _ _ _, (k2.setCell (p := ⟨w.heap.size + 1, 0, none⟩) (by simp) _).setCell (p := ⟨w.heap.size + 1, 1, none⟩) (by simp) _⟩
  | true =>
    obtain ⟨hp, ⟨ha0, ha1⟩, ⟨hb0, hb1⟩, hab⟩ := isTwo_parts h2
    have hn := isP_range hp
    obtain ⟨n, rfl⟩ : ∃ n : Nat, p = n := ⟨p.toNat, by omega⟩
    obtain ⟨i, rfl⟩ : ∃ i : Nat, a = i := ⟨a.toNat, by omega⟩
    obtain ⟨j, rfl⟩ : ∃ j : Nat, b = j := ⟨b.toNat, by omega⟩
    have hin : i < n := by omega
    have hjn : j < n := by omega
    have hij : i ≠ j := by omega
    have hin' : (i : Int) < n := by omega
    have hjn' : (j : Int) < n := by omega
    have hadj := adj_areF hp (i := i) (j := j) hij
    have htab := tabP_changed hp hij x
    obtain ⟨r, hres⟩ : ∃ r, resChange x n l i j = r := ⟨_, rfl⟩
    have hr' : r = if areF l i j = !x then ((n : Int), changed n l i j x, true) else (0, [], false) := by rw [← hres]; simp [resChange, h2]
    rw [hres]
    obtain ⟨y, hy⟩ : ∃ y, areF l i j = y := ⟨_, rfl⟩
    rw [hy] at hadj hr'
    have H2 := Lib.hid h2
    have Hp := Lib.hid hp
    have Hadj := Lib.hid hadj
    have Htab := Lib.hid htab
    have Hr := Lib.hid hr'
    clear h2 hp hadj hab htab hres hr' hy
    go_enter Try.func83, Try.ntmps83
    go_wp2_with fail
    refine (paTwo_any _ _ _ _ _ _ _ hl hr).mono ?_
    rw [H2.out]
    rintro e w2 ⟨rfl, hb2⟩
    simp only [World.size_alloc] at hb2
    have a0 : w2.cell? ⟨w.heap.size, 0, none⟩ = some (.int .i64 n) := carry hb2 (by simp) (by omega)
    have a1 : w2.cell? ⟨w.heap.size, 1, none⟩ = some (.slice A l.length c) := carry hb2 (by simp) (by omega)
    have x0 : w2.cell? ⟨w.heap.size + 1, 0, none⟩ = some (.int .i64 0) := carry hb2 (by simp) (by omega)
    have x1 : w2.cell? ⟨w.heap.size + 1, 1, none⟩ = some (.slice none 0 0) := carry hb2 (by simp) (by omega)
    have z0 : w2.frozen? ⟨w.heap.size + 1, 0, none⟩ = false := (hb2.frozen (p := ⟨w.heap.size + 1, 0, none⟩) (by simp)).trans (by simp)
    have z1 : w2.frozen? ⟨w.heap.size + 1, 1, none⟩ = false := (hb2.frozen (p := ⟨w.heap.size + 1, 1, none⟩) (by simp)).trans (by simp)
    have k2 : Below w.heap.size w w2 := Below.trans (b := _) (by go_grown) (hb2.mono (by omega))
    have s2 := hb2.size
    simp only [World.size_alloc] at s2
    go_wp2_with fail
    refine (paTable_any _ _ _ _ _ Hp.out ((hA.below k2 (Nat.le_refl _)).more k2.size)).mono ?_
    simp only [Int.toNat_natCast]
    rintro e w3 ⟨A3, c3, G, rfl, tab, hb3⟩
    obtain ⟨g, rfl⟩ := own_form tab.own (by omega)
    have d0 := tab.outer hin
    have d1 := tab.cell hin hjn
    rw [Hadj.out] at d1
    have y0 := carry hb3 x0 (by omega)
    have y1 := carry hb3 x1 (by omega)
    have y2 := (hb3.frozen (p := ⟨w.heap.size + 1, 0, none⟩) (by simp; omega)).trans z0
    have y3 := (hb3.frozen (p := ⟨w.heap.size + 1, 1, none⟩) (by simp; omega)).trans z1
    have s3 := hb3.size
    have k3 := k2.trans (hb3.mono k2.size)
    clear a0 a1 x0 x1 z0 z1
    by_cases hyx : y = x
    · subst hyx
      have er : r = (0, [], false) := by rw [Hr.out, if_neg (by cases y <;> simp)]
      have Er := Lib.hid er
      clear er
      go_wp2
      refine bodyPost_ret (v := .tuple #[.agg #[.int .i64 0, .slice none 0 0], .bool false]) (by simp [results, Try.results83, go_sem, y0, y1]) rfl ?_
      rw [Er.out]
      exact ⟨none, 0, rfl, World.ownsRow_nil _ _ _ _, (k3.setCell (p := ⟨w.heap.size + 1, 0, none⟩) (by simp) _).setCell (p := ⟨w.heap.size + 1, 1, none⟩) (by simp) _⟩
    · have er : r = ((n : Int), changed n l i j x, true) := by rw [Hr.out, if_pos (by revert hyx; cases y <;> cases x <;> simp)]
      have Er := Lib.hid er
      clear er
      have hGi := tab.blk hin
      have hGj := tab.blk hjn
      have t1 := tab.set (b := j) hin x
      have t2 := t1.set (b := i) hjn x
      have d2 := tab.frozen hin j
      have d3 := t1.outer hjn
      have d4 := t1.cell hjn hin
      have d5 := t1.frozen hjn i
      have T2 := Lib.hid t2
      clear t1 t2 tab
      have hyx' : (y == x) = false := beq_eq_false_iff_ne.2 hyx
      have K3 : Below w.heap.size w ((w3.setCell ⟨G i, j, none⟩ (.bool x)).setCell ⟨G j, i, none⟩ (.bool x)) := (k3.setCell (p := ⟨G i, j, none⟩) (by simp; omega) _).setCell (p := ⟨G j, i, none⟩) (by simp; omega) _
      generalize hW : (w3.setCell ⟨G i, j, none⟩ (.bool x)).setCell ⟨G j, i, none⟩ (.bool x) = W at T2 K3
      have v0 : W.cell? ⟨w.heap.size + 1, 0, none⟩ = some (.int .i64 0) := by rw [← hW, World.cell?_setCell_other _ _ _ _ (by simp <;> omega), World.cell?_setCell_other _ _ _ _ (by simp <;> omega)]; exact y0
      have v1 : W.cell? ⟨w.heap.size + 1, 1, none⟩ = some (.slice none 0 0) := by rw [← hW, World.cell?_setCell_other _ _ _ _ (by simp <;> omega), World.cell?_setCell_other _ _ _ _ (by simp <;> omega)]; exact y1
      have v2 : W.frozen? ⟨w.heap.size + 1, 0, none⟩ = false := by rw [← hW]; simpa using y2
      have v3 : W.frozen? ⟨w.heap.size + 1, 1, none⟩ = false := by rw [← hW]; simpa using y3
      have sW : w.heap.size + 1 < W.heap.size := by rw [← hW]; simp; omega
      have HW := Lib.hid hW
      clear hW
      go_wp2_with fail
      rw [HW.out]
      refine (paOf_any n _ _ _ G _ _ (by omega) T2.out).mono ?_
      rw [Htab.out]
      clear HW y0 y1 y2 y3 d0 d1 d2 d3 d4 d5
      rintro e w4 ⟨A4, c4, rfl, own4, hb4⟩
      have u0 := carry hb4 v0 (by omega)
      have u1 := carry hb4 v1 (by omega)
      have u2 := (hb4.frozen (p := ⟨w.heap.size + 1, 0, none⟩) (by simp; omega)).trans v2
      have u3 := (hb4.frozen (p := ⟨w.heap.size + 1, 1, none⟩) (by simp; omega)).trans v3
      have s4 := hb4.size
      clear v0 v1 v2 v3
      go_wp2
      refine bodyPost_ret (v := .tuple #[.agg #[.int .i64 n, .slice A4 (changed n l i j x).length c4], .bool true]) (by simp [results, Try.results83, go_sem, u0, u1]) rfl ?_
      rw [Er.out]
      exact ⟨A4, c4, rfl, own_lower (ownsRow_setCell_below (ownsRow_setCell_below own4 (a := ⟨w.heap.size + 1, 0, none⟩) (by simp; omega) _) (a := ⟨w.heap.size + 1, 1, none⟩) (by simp; omega) _) (by omega),
        ((K3.trans (hb4.mono K3.size)).setCell (p := ⟨w.heap.size + 1, 0, none⟩) (by simp) _).setCell (p := ⟨w.heap.size + 1, 1, none⟩) (by simp) _⟩

set_option maxHeartbeats 1000000 in
theorem specAddPair_any (p : Int) (l : PL) (A : Option Addr) (c : Nat) (a b : Int) (w : World) (hl : l.length ≤ 1048576) (hA : CRead w w.heap.size A (pcells l)) :
    Calls Try.prog 40 #[.agg #[.int .i64 p, .slice A l.length c], .int .i64 a, .int .i64 b] w (GotPartyOk w (resAddPair p l a b).1 (resAddPair p l a b).2.1 (resAddPair p l a b).2.2) := by
  obtain ⟨⟨rp, rl, rb⟩, hres⟩ : ∃ r, resAddPair p l a b = r := ⟨_, rfl⟩
  rw [hres]
  have Hres := Lib.hid (show resChange true p l a b = (rp, rl, rb) from hres)
  clear hres
  go_enter Try.func40, Try.ntmps40
  go_wp2_with fail
  refine (paChange_any true p l A c a b _ hl ((hA.below (B' := w.heap.size) (by go_grown) (Nat.le_refl _)).more (by go_size))).mono ?_
  rw [Hres.out]
  rintro e w2 ⟨A2, c2, rfl, own2, hb2⟩
  simp only [World.size_alloc] at hb2 own2
  have x0 : w2.cell? ⟨w.heap.size + 1, 0, none⟩ = some (.int .i64 0) := carry hb2 (by simp) (by omega)
  have x1 : w2.cell? ⟨w.heap.size + 1, 1, none⟩ = some (.slice none 0 0) := carry hb2 (by simp) (by omega)
  have z0 : w2.frozen? ⟨w.heap.size + 1, 0, none⟩ = false := (hb2.frozen (p := ⟨w.heap.size + 1, 0, none⟩) (by simp)).trans (by simp)
  have z1 : w2.frozen? ⟨w.heap.size + 1, 1, none⟩ = false := (hb2.frozen (p := ⟨w.heap.size + 1, 1, none⟩) (by simp)).trans (by simp)
  have k2 : Below w.heap.size w w2 := Below.trans (b := _) (by go_grown) (hb2.mono (by omega))
  have s2 := hb2.size
  simp only [World.size_alloc] at s2
  go_wp2
  refine bodyPost_ret (v := .tuple #[.agg #[.int .i64 rp, .slice A2 rl.length c2], .bool rb]) (by simp [results, Try.results40, go_sem, x0, x1]) rfl ?_
  exact ⟨A2, c2, rfl, own_lower (ownsRow_setCell_below (ownsRow_setCell_below own2 (a := ⟨w.heap.size + 1, 0, none⟩) (by simp) _) (a := ⟨w.heap.size + 1, 1, none⟩) (by simp) _) (by omega),
    (k2.setCell (p := ⟨w.heap.size + 1, 0, none⟩) (by simp) _).setCell (p := ⟨w.heap.size + 1, 1, none⟩) (by simp) _⟩

set_option maxHeartbeats 1000000 in
theorem specDropPair_any (p : Int) (l : PL) (A : Option Addr) (c : Nat) (a b : Int) (w : World) (hl : l.length ≤ 1048576) (hA : CRead w w.heap.size A (pcells l)) :
    Calls Try.prog 42 #[.agg #[.int .i64 p, .slice A l.length c], .int .i64 a, .int .i64 b] w (GotPartyOk w (resDropPair p l a b).1 (resDropPair p l a b).2.1 (resDropPair p l a b).2.2) := by
  obtain ⟨⟨rp, rl, rb⟩, hres⟩ : ∃ r, resDropPair p l a b = r := ⟨_, rfl⟩
  rw [hres]
  have Hres := Lib.hid (show resChange false p l a b = (rp, rl, rb) from hres)
  clear hres
  go_enter Try.func42, Try.ntmps42
  go_wp2_with fail
  refine (paChange_any false p l A c a b _ hl ((hA.below (B' := w.heap.size) (by go_grown) (Nat.le_refl _)).more (by go_size))).mono ?_
  rw [Hres.out]
  rintro e w2 ⟨A2, c2, rfl, own2, hb2⟩
  simp only [World.size_alloc] at hb2 own2
  have x0 : w2.cell? ⟨w.heap.size + 1, 0, none⟩ = some (.int .i64 0) := carry hb2 (by simp) (by omega)
  have x1 : w2.cell? ⟨w.heap.size + 1, 1, none⟩ = some (.slice none 0 0) := carry hb2 (by simp) (by omega)
  have z0 : w2.frozen? ⟨w.heap.size + 1, 0, none⟩ = false := (hb2.frozen (p := ⟨w.heap.size + 1, 0, none⟩) (by simp)).trans (by simp)
  have z1 : w2.frozen? ⟨w.heap.size + 1, 1, none⟩ = false := (hb2.frozen (p := ⟨w.heap.size + 1, 1, none⟩) (by simp)).trans (by simp)
  have k2 : Below w.heap.size w w2 := Below.trans (b := _) (by go_grown) (hb2.mono (by omega))
  have s2 := hb2.size
  simp only [World.size_alloc] at s2
  go_wp2
  refine bodyPost_ret (v := .tuple #[.agg #[.int .i64 rp, .slice A2 rl.length c2], .bool rb]) (by simp [results, Try.results42, go_sem, x0, x1]) rfl ?_
  exact ⟨A2, c2, rfl, own_lower (ownsRow_setCell_below (ownsRow_setCell_below own2 (a := ⟨w.heap.size + 1, 0, none⟩) (by simp) _) (a := ⟨w.heap.size + 1, 1, none⟩) (by simp) _) (by omega),
    (k2.setCell (p := ⟨w.heap.size + 1, 0, none⟩) (by simp) _).setCell (p := ⟨w.heap.size + 1, 1, none⟩) (by simp) _⟩

end Go.Proofs.Ytgkfnckgpbjbdaa
