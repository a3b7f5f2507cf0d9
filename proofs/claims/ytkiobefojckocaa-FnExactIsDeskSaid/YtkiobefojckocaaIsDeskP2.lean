/-
  Texts put together for the claims of 'IsDesk' (pack 2): Desk, OpenD, LawIsDesk, Head, Facts.
-/
import Derived.Test.YtkiobefojckocaaIsDeskP1
import Derived.Deep.RegionHeld3
import Derived.Test.YtkiobefojckocaaRows
/-
  DESKS: the laws' own small functions at them (size, copy, comparison), 'IsDesk' of the model and of the program, by their contracts.
-/
namespace Go.Proofs.Ytkiobefojckocaa
open Go.RowKit

/-- a desk as a value -/
abbrev deskV (p q : Int) (A B : Option Addr) (n m c d : Nat) : Value := .agg #[.int .i64 p, .slice A n c, .int .i64 q, .slice B m d]
def resIsDesk (p : Int) (l : PL) (q : Int) (m : PL) : Bool := isP p l && isP q m

theorem alloc_lt (w : World) (o : Obj) (j : Nat) (h : j < w.heap.size) : (w.alloc o).heap[j]? = w.heap[j]? := (World.grownBy_alloc w o none).block j h (by simp)
theorem blk_set {w : World} {b : Nat} {cs : Array Value} {t : TypeId} {fr : Nat × Nat} (h : w.heap[b]? = some (Obj.cells cs t fr)) (i : Nat) (u : Value) : (w.setCell ⟨b, i, none⟩ u).heap[b]? = some (Obj.cells (cs.setIfInBounds i u) t fr) := by
  simp [World.setCell, Array.getElem?_modify, h]
set_option maxHeartbeats 2000000 in
set_option maxRecDepth 100000 in
theorem szDesk_any (p q : Int) (A B : Option Addr) (n m c d : Nat) (left : Int) (hn : n ≤ maxLen) (hm : m ≤ maxLen) (h0 : 0 ≤ left) (h1 : left ≤ 1048576) (w : World) :
    Calls Try.prog 16 #[deskV p q A B n m c d, .int .i64 left] w fun e w' => ∃ r : Int, e = .returned (.int .i64 r) ∧ Below w.heap.size w w' ∧ (0 ≤ r → n ≤ 1048576 ∧ m ≤ 1048576) := by
  by_cases h : szI left n < 0
  · have hneg : szI left n = -1 := by unfold szI at h ⊢; split <;> simp_all
    have Hn := Lib.hid hneg
    clear hneg
    go_enter Try.func16, Try.ntmps16
    go_wp2_with fail
    refine (szParty_any _ _ _ _ _ hn h0 h1 _).mono ?_
    rintro e w2 ⟨rfl, hb2⟩
    rw [Hn.out]
    simp only [World.size_alloc] at hb2
    go_wp2
    go_ret
    exact ⟨-1, rfl, Below.trans (b := _) (by go_grown) (hb2.mono (by omega)), fun h => by omega⟩
  · have hl1 := szI_len _ _ h
    have hhi := szI_hi left n h0
    obtain ⟨k, hk⟩ : ∃ k, szI left n = k := ⟨_, rfl⟩
    rw [hk] at h hhi
    have Hk := Lib.hid hk
    by_cases h2 : szI k m < 0
    · have hneg : szI k m = -1 := by unfold szI at h2 ⊢; split <;> simp_all
      have Hn := Lib.hid hneg
      clear hneg hk
      go_enter Try.func16, Try.ntmps16
      go_wp2_with fail
      refine (szParty_any _ _ _ _ _ hn h0 h1 _).mono ?_
      rintro e w2 ⟨rfl, hb2⟩
      rw [Hk.out]
      have s2 := hb2.size
      have a0 : w2.cell? ⟨w.heap.size, 2, none⟩ = some (.int .i64 q) := carry hb2 (by simp) (by simp)
      have a1 : w2.cell? ⟨w.heap.size, 3, none⟩ = some (.slice B m d) := carry hb2 (by simp) (by simp)
      simp only [World.size_alloc] at hb2 s2
      go_wp2_with fail
      refine (szParty_any _ _ _ _ _ hm (by omega) (by omega) _).mono ?_
      rintro e w3 ⟨rfl, hb3⟩
      rw [Hn.out]
      go_wp2
      go_ret
      exact ⟨-1, rfl, (Below.trans (b := _) (by go_grown) (hb2.mono (by omega))).trans (hb3.mono (by omega)), fun h => by omega⟩
    · have hl2 := szI_len _ _ h2
      have hhi2 := szI_hi k m (by omega)
      obtain ⟨k2, hk2⟩ : ∃ k2, szI k m = k2 := ⟨_, rfl⟩
      rw [hk2] at h2 hhi2
      have Hk2 := Lib.hid hk2
      clear hk hk2
      go_enter Try.func16, Try.ntmps16
      go_wp2_with fail
      refine (szParty_any _ _ _ _ _ hn h0 h1 _).mono ?_
      rintro e w2 ⟨rfl, hb2⟩
      rw [Hk.out]
      have s2 := hb2.size
      have a0 : w2.cell? ⟨w.heap.size, 2, none⟩ = some (.int .i64 q) := carry hb2 (by simp) (by simp)
      have a1 : w2.cell? ⟨w.heap.size, 3, none⟩ = some (.slice B m d) := carry hb2 (by simp) (by simp)
      simp only [World.size_alloc] at hb2 s2
      go_wp2_with fail
      refine (szParty_any _ _ _ _ _ hm (by omega) (by omega) _).mono ?_
      rintro e w3 ⟨rfl, hb3⟩
      rw [Hk2.out]
      go_wp2
      go_ret
      exact ⟨k2, rfl, (Below.trans (b := _) (by go_grown) (hb2.mono (by omega))).trans (hb3.mono (by omega)), fun _ => by omega⟩
set_option maxHeartbeats 2000000 in
set_option maxRecDepth 100000 in
theorem toDesk_any (p q : Int) (l m : PL) (A B : Option Addr) (c d : Nat) (w : World) (hl : l.length ≤ 1048576) (hm : m.length ≤ 1048576) (hA : CRead w w.heap.size A (pcells l)) (hB : CRead w w.heap.size B (pcells m)) :
    Calls Try.prog 18 #[deskV p q A B l.length m.length c d] w fun e w' => ∃ A' B' c' d', e = .returned (deskV p q A' B' l.length m.length c' d') ∧
      CRead w' w'.heap.size A' (pcells l) ∧ CRead w' w'.heap.size B' (pcells m) ∧ Below w.heap.size w w' := by
  generalize hn : l.length = n at *
  generalize hk : m.length = k at *
  have Hn := Lib.hid hn
  have Hk := Lib.hid hk
  clear hn hk
  have tA := fun (Y : World) (hY : Below w.heap.size w Y) => toParty_any p l A c Y (by rw [Hn.out]; exact hl) ((hA.below hY (Nat.le_refl _)).more hY.size)
  have tB := fun (Y : World) (hY : Below w.heap.size w Y) => toParty_any q m B d Y (by rw [Hk.out]; exact hm) ((hB.below hY (Nat.le_refl _)).more hY.size)
  rw [Hn.out] at tA
  rw [Hk.out] at tB
  have TA := Lib.hid tA
  have TB := Lib.hid tB
  clear tA tB hA hB
  go_enter Try.func18, Try.ntmps18
  go_wp2_with fail
  obtain ⟨X, hX⟩ : ∃ X, (((w.alloc (Obj.cells #[.int .i64 p, .slice A n c, .int .i64 q, .slice B k d] 35)).alloc (Obj.cells #[.int .i64 0, .slice none 0 0, .int .i64 0, .slice none 0 0] 26)).alloc (Obj.cells #[.int .i64 0, .slice none 0 0, .int .i64 0, .slice none 0 0] 26)) = X := ⟨_, rfl⟩
  have kX : Below w.heap.size w X := by rw [← hX]; go_grown
  have sX : X.heap.size = w.heap.size + 1 + 1 + 1 := by rw [← hX]; simp
  have b0 : X.heap[w.heap.size]? = some (Obj.cells #[.int .i64 p, .slice A n c, .int .i64 q, .slice B k d] 35) := by
    rw [← hX, alloc_lt _ _ _ (by simp; omega), alloc_lt _ _ _ (by simp)]; exact heap_alloc_new _ _
  have b1 : X.heap[w.heap.size + 1]? = some (Obj.cells #[.int .i64 0, .slice none 0 0, .int .i64 0, .slice none 0 0] 26) := by
    rw [← hX, alloc_lt _ _ _ (by simp)]; have h := heap_alloc_new (w.alloc (Obj.cells #[.int .i64 p, .slice A n c, .int .i64 q, .slice B k d] 35)) (Obj.cells #[.int .i64 0, .slice none 0 0, .int .i64 0, .slice none 0 0] 26); rwa [World.size_alloc] at h
  have b2 : X.heap[w.heap.size + 1 + 1]? = some (Obj.cells #[.int .i64 0, .slice none 0 0, .int .i64 0, .slice none 0 0] 26) := by
    rw [← hX]; have h := heap_alloc_new ((w.alloc (Obj.cells #[.int .i64 p, .slice A n c, .int .i64 q, .slice B k d] 35)).alloc (Obj.cells #[.int .i64 0, .slice none 0 0, .int .i64 0, .slice none 0 0] 26)) (Obj.cells #[.int .i64 0, .slice none 0 0, .int .i64 0, .slice none 0 0] 26); rwa [World.size_alloc, World.size_alloc] at h
  rw [hX]
  clear hX
  refine (TA.out X kX).mono ?_
  rintro e w2 ⟨A2, c2, rfl, own2, hb2⟩
  rw [Hn.out] at own2 ⊢
  have s2 := hb2.size
  have b0' := (hb2.block _ (show w.heap.size < X.heap.size by omega)).trans b0
  have b1' := (hb2.block _ (show w.heap.size + 1 < X.heap.size by omega)).trans b1
  have b2' := (hb2.block _ (show w.heap.size + 1 + 1 < X.heap.size by omega)).trans b2
  have v2 : w2.cell? ⟨w.heap.size, 2, none⟩ = some (.int .i64 q) := by rw [cell_of_row _ _ _ _ _ _ b0']; rfl
  have v3 : w2.cell? ⟨w.heap.size, 3, none⟩ = some (.slice B k d) := by rw [cell_of_row _ _ _ _ _ _ b0']; rfl
  have y0 : w2.cell? ⟨w.heap.size + 1 + 1, 0, none⟩ = some (.int .i64 0) := by rw [cell_of_row _ _ _ _ _ _ b2']; rfl
  have y1 : w2.cell? ⟨w.heap.size + 1 + 1, 1, none⟩ = some (.slice none 0 0) := by rw [cell_of_row _ _ _ _ _ _ b2']; rfl
  have z0 := frozen_of_row _ _ 0 _ _ b2'
  have z1 := frozen_of_row _ _ 1 _ _ b2'
  have k2 : Below w.heap.size w w2 := kX.trans (hb2.mono kX.size)
  have Own2 := Lib.hid own2
  have K2 := Lib.hid k2
  have HB := Lib.hid (And.intro b1' b2')
  clear own2 hb2 b0 b1 b2 b0' b1' b2' k2 kX
  go_wp2_with fail
  obtain ⟨Y, hY⟩ : ∃ Y, ((w2.setCell ⟨w.heap.size + 1 + 1, 0, none⟩ (.int .i64 p)).setCell ⟨w.heap.size + 1 + 1, 1, none⟩ (.slice A2 n c2)) = Y := ⟨_, rfl⟩
  have sY : Y.heap.size = w2.heap.size := by rw [← hY]; simp
  have kY : Below w.heap.size w Y := by rw [← hY]; exact (K2.out.setCell (by simp; omega) _).setCell (by simp; omega) _
  have b2 : Y.heap[w.heap.size + 1 + 1]? = some (Obj.cells #[.int .i64 p, .slice A2 n c2, .int .i64 0, .slice none 0 0] 26) := by rw [← hY]; exact blk_set (blk_set HB.out.2 0 _) 1 _
  have b1 : Y.heap[w.heap.size + 1]? = some (Obj.cells #[.int .i64 0, .slice none 0 0, .int .i64 0, .slice none 0 0] 26) := by rw [← hY, Below.heap_setCell _ _ _ _ (by simp), Below.heap_setCell _ _ _ _ (by simp)]; exact HB.out.1
  have ownY : Y.ownsRow (w.heap.size + 1 + 1 + 1) 76 2 (.slice A2 n c2) n (pcells l) := by rw [← hY]; rw [sX] at Own2; exact ownsRow_setCell_below (ownsRow_setCell_below Own2.out (by simp) _) (by simp) _
  rw [hY]
  clear hY v2 v3 y0 y1 z0 z1 HB
  refine (TB.out Y kY).mono ?_
  rintro e w3 ⟨A3, c3, rfl, own3, hb3⟩
  rw [Hk.out] at own3 ⊢
  have s3 := hb3.size
  have b1' := (hb3.block _ (show w.heap.size + 1 < Y.heap.size by omega)).trans b1
  have b2' := (hb3.block _ (show w.heap.size + 1 + 1 < Y.heap.size by omega)).trans b2
  have y0 : w3.cell? ⟨w.heap.size + 1 + 1, 0, none⟩ = some (.int .i64 p) := by rw [cell_of_row _ _ _ _ _ _ b2']; rfl
  have y1 : w3.cell? ⟨w.heap.size + 1 + 1, 1, none⟩ = some (.slice A2 n c2) := by rw [cell_of_row _ _ _ _ _ _ b2']; rfl
  have y2 : w3.cell? ⟨w.heap.size + 1 + 1, 2, none⟩ = some (.int .i64 0) := by rw [cell_of_row _ _ _ _ _ _ b2']; rfl
  have y3 : w3.cell? ⟨w.heap.size + 1 + 1, 3, none⟩ = some (.slice none 0 0) := by rw [cell_of_row _ _ _ _ _ _ b2']; rfl
  have x0 : w3.cell? ⟨w.heap.size + 1, 0, none⟩ = some (.int .i64 0) := by rw [cell_of_row _ _ _ _ _ _ b1']; rfl
  have x1 : w3.cell? ⟨w.heap.size + 1, 1, none⟩ = some (.slice none 0 0) := by rw [cell_of_row _ _ _ _ _ _ b1']; rfl
  have x2 : w3.cell? ⟨w.heap.size + 1, 2, none⟩ = some (.int .i64 0) := by rw [cell_of_row _ _ _ _ _ _ b1']; rfl
  have x3 : w3.cell? ⟨w.heap.size + 1, 3, none⟩ = some (.slice none 0 0) := by rw [cell_of_row _ _ _ _ _ _ b1']; rfl
  have z2 := frozen_of_row _ _ 2 _ _ b2'
  have z3 := frozen_of_row _ _ 3 _ _ b2'
  have u0 := frozen_of_row _ _ 0 _ _ b1'
  have u1 := frozen_of_row _ _ 1 _ _ b1'
  have u2 := frozen_of_row _ _ 2 _ _ b1'
  have u3 := frozen_of_row _ _ 3 _ _ b1'
  have k3 : Below w.heap.size w w3 := kY.trans (hb3.mono kY.size)
  have own2 := own_below ownY hb3 (Nat.le_refl _)
  have K3 := Lib.hid k3
  have B1 := Lib.hid b1'
  have Own2' := Lib.hid own2
  have Own3 := Lib.hid own3
  clear b1 b2 b1' b2' ownY own2 own3 hb3 k3 kY
  go_wp2
  obtain ⟨V, hV⟩ : ∃ V, ((w3.setCell ⟨w.heap.size + 1 + 1, 2, none⟩ (.int .i64 q)).setCell ⟨w.heap.size + 1 + 1, 3, none⟩ (.slice A3 k c3)) = V := ⟨_, rfl⟩
  have sV : V.heap.size = w3.heap.size := by rw [← hV]; simp
  have kV : Below w.heap.size w V := by rw [← hV]; exact (K3.out.setCell (by simp; omega) _).setCell (by simp; omega) _
  have bV : V.heap[w.heap.size + 1]? = some (Obj.cells #[.int .i64 0, .slice none 0 0, .int .i64 0, .slice none 0 0] 26) := by rw [← hV, Below.heap_setCell _ _ _ _ (by simp), Below.heap_setCell _ _ _ _ (by simp)]; exact B1.out
  have o2V : V.ownsRow (w.heap.size + 1 + 1 + 1) 76 2 (.slice A2 n c2) n (pcells l) := by rw [← hV]; exact ownsRow_setCell_below (ownsRow_setCell_below Own2'.out (by simp) _) (by simp) _
  have o3V : V.ownsRow Y.heap.size 76 2 (.slice A3 k c3) k (pcells m) := by rw [← hV]; exact ownsRow_setCell_below (ownsRow_setCell_below Own3.out (by simp; omega) _) (by simp; omega) _
  rw [hV]
  clear hV x0 x1 x2 x3 y0 y1 y2 y3 z2 z3 u0 u1 u2 u3 K3 B1 Own2' Own3
  obtain ⟨Z, hZ⟩ : ∃ Z, ((((V.setCell ⟨w.heap.size + 1, 0, none⟩ (.int .i64 p)).setCell ⟨w.heap.size + 1, 1, none⟩ (.slice A2 n c2)).setCell ⟨w.heap.size + 1, 2, none⟩ (.int .i64 q)).setCell ⟨w.heap.size + 1, 3, none⟩ (.slice A3 k c3)) = Z := ⟨_, rfl⟩
  have sZ : Z.heap.size = V.heap.size := by rw [← hZ]; simp
  have kZ : Below w.heap.size w Z := by rw [← hZ]; exact (((kV.setCell (by simp) _).setCell (by simp) _).setCell (by simp) _).setCell (by simp) _
  have bZ : Z.heap[w.heap.size + 1]? = some (Obj.cells #[.int .i64 p, .slice A2 n c2, .int .i64 q, .slice A3 k c3] 26) := by rw [← hZ]; exact blk_set (blk_set (blk_set (blk_set bV 0 _) 1 _) 2 _) 3 _
  have o2Z : Z.ownsRow (w.heap.size + 1 + 1 + 1) 76 2 (.slice A2 n c2) n (pcells l) := by rw [← hZ]; exact ownsRow_setCell_below (ownsRow_setCell_below (ownsRow_setCell_below (ownsRow_setCell_below o2V (by simp) _) (by simp) _) (by simp) _) (by simp) _
  have o3Z : Z.ownsRow Y.heap.size 76 2 (.slice A3 k c3) k (pcells m) := by rw [← hZ]; exact ownsRow_setCell_below (ownsRow_setCell_below (ownsRow_setCell_below (ownsRow_setCell_below o3V (by simp; omega) _) (by simp; omega) _) (by simp; omega) _) (by simp; omega) _
  rw [hZ]
  clear hZ bV kV o2V o3V
  have f0 : Z.cell? ⟨w.heap.size + 1, 0, none⟩ = some (.int .i64 p) := by rw [cell_of_row _ _ _ _ _ _ bZ]; rfl
  have f1 : Z.cell? ⟨w.heap.size + 1, 1, none⟩ = some (.slice A2 n c2) := by rw [cell_of_row _ _ _ _ _ _ bZ]; rfl
  have f2 : Z.cell? ⟨w.heap.size + 1, 2, none⟩ = some (.int .i64 q) := by rw [cell_of_row _ _ _ _ _ _ bZ]; rfl
  have f3 : Z.cell? ⟨w.heap.size + 1, 3, none⟩ = some (.slice A3 k c3) := by rw [cell_of_row _ _ _ _ _ _ bZ]; rfl
  refine bodyPost_ret (v := deskV p q A2 A3 n k c2 c3) (by simp [results, Try.results18, go_sem, f0, f1, f2, f3]) rfl ?_
  exact ⟨A2, A3, c2, c3, rfl, CRead.of_own o2Z, CRead.of_own o3Z, kZ⟩
set_option maxHeartbeats 2000000 in
set_option maxRecDepth 100000 in
theorem eqDesk_same (p q : Int) (l m : PL) (A B A' B' : Option Addr) (c d c' d' : Nat) (w : World) (hl : l.length ≤ maxLen) (hm : m.length ≤ maxLen) (hA : CRead w w.heap.size A (pcells l)) (hB : CRead w w.heap.size B (pcells m)) (hA' : CRead w w.heap.size A' (pcells l)) (hB' : CRead w w.heap.size B' (pcells m)) :
    Calls Try.prog 13 #[deskV p q A B l.length m.length c d, deskV p q A' B' l.length m.length c' d'] w fun e w' => e = .returned (.bool true) ∧ Below w.heap.size w w' := by
  have tA := fun (Y : World) (hY : Below w.heap.size w Y) => eqParty_any p p l l A A' c c' Y hl hl ((hA.below hY (Nat.le_refl _)).more hY.size) ((hA'.below hY (Nat.le_refl _)).more hY.size)
  have tB := fun (Y : World) (hY : Below w.heap.size w Y) => eqParty_any q q m m B B' d d' Y hm hm ((hB.below hY (Nat.le_refl _)).more hY.size) ((hB'.below hY (Nat.le_refl _)).more hY.size)
  simp only [and_self, decide_true] at tA tB
  have TA := Lib.hid tA
  have TB := Lib.hid tB
  clear tA tB hA hB hA' hB'
  go_enter Try.func13, Try.ntmps13
  go_wp2_with fail
  refine (TA.out _ (by go_grown)).mono ?_
  rintro e w2 ⟨rfl, hb2⟩
  have s2 := hb2.size
  have a0 : w2.cell? ⟨w.heap.size, 2, none⟩ = some (.int .i64 q) := carry hb2 ((World.cell?_alloc_lt _ _ _ (by simp)).trans (by simp)) (by simp; omega)
  have a1 : w2.cell? ⟨w.heap.size, 3, none⟩ = some (.slice B m.length d) := carry hb2 ((World.cell?_alloc_lt _ _ _ (by simp)).trans (by simp)) (by simp; omega)
  have a2 : w2.cell? ⟨w.heap.size + 1, 2, none⟩ = some (.int .i64 q) := carry hb2 (by simp) (by simp)
  have a3 : w2.cell? ⟨w.heap.size + 1, 3, none⟩ = some (.slice B' m.length d') := carry hb2 (by simp) (by simp)
  simp only [World.size_alloc] at hb2 s2
  have k2 : Below w.heap.size w w2 := Below.trans (b := _) (by go_grown) (hb2.mono (by omega))
  clear hb2
  go_wp2_with fail
  refine (TB.out _ k2).mono ?_
  rintro e w3 ⟨rfl, hb3⟩
  have k3 := k2.trans (hb3.mono k2.size)
  clear a0 a1 a2 a3
  go_wp2
  go_ret
  exact ⟨rfl, k3⟩
set_option maxHeartbeats 2000000 in
set_option maxRecDepth 100000 in
theorem coGood_any (p q : Int) (l m : PL) (A B : Option Addr) (c d : Nat) (w : World) (hl : l.length ≤ 1048576) (hm : m.length ≤ 1048576) (hA : CRead w w.heap.size A (pcells l)) (hB : CRead w w.heap.size B (pcells m)) :
    Calls Try.prog 49 #[deskV p q A B l.length m.length c d] w fun e w' => e = .returned (.bool (resIsDesk p l q m)) ∧ Below w.heap.size w w' := by
  unfold resIsDesk
  cases hp : isP p l with
  | false =>
    have Hp := Lib.hid hp
    clear hp
    go_enter Try.func49, Try.ntmps49
    go_wp2_with fail
    refine (paGood_any p l A c _ hl ((hA.below (B' := w.heap.size) (by go_grown) (Nat.le_refl _)).more (by go_size))).mono ?_
    rw [Hp.out]
    rintro e w2 ⟨rfl, hb2⟩
    simp only [World.size_alloc] at hb2
    go_wp2
    go_ret
    exact ⟨rfl, Below.trans (b := _) (by go_grown) (hb2.mono (by omega))⟩
  | true =>
    have Hp := Lib.hid hp
    clear hp
    go_enter Try.func49, Try.ntmps49
    go_wp2_with fail
    refine (paGood_any p l A c _ hl ((hA.below (B' := w.heap.size) (by go_grown) (Nat.le_refl _)).more (by go_size))).mono ?_
    rw [Hp.out]
    rintro e w2 ⟨rfl, hb2⟩
    have s2 := hb2.size
    have a0 : w2.cell? ⟨w.heap.size, 2, none⟩ = some (.int .i64 q) := carry hb2 (by simp) (by simp)
    have a1 : w2.cell? ⟨w.heap.size, 3, none⟩ = some (.slice B m.length d) := carry hb2 (by simp) (by simp)
    simp only [World.size_alloc] at hb2 s2
    have k2 : Below w.heap.size w w2 := Below.trans (b := _) (by go_grown) (hb2.mono (by omega))
    go_wp2_with fail
    refine (paGood_any q m B d _ hm ((hB.below k2 (Nat.le_refl _)).more k2.size)).mono ?_
    rintro e w3 ⟨rfl, hb3⟩
    have k3 := k2.trans (hb3.mono k2.size)
    clear a0 a1
    go_wp2
    go_ret
    exact ⟨rfl, k3⟩
set_option maxHeartbeats 2000000 in
set_option maxRecDepth 100000 in
theorem specIsDesk_any (p q : Int) (l m : PL) (A B : Option Addr) (c d : Nat) (w : World) (hl : l.length ≤ 1048576) (hm : m.length ≤ 1048576) (hA : CRead w w.heap.size A (pcells l)) (hB : CRead w w.heap.size B (pcells m)) :
    Calls Try.prog 17 #[deskV p q A B l.length m.length c d] w fun e w' => e = .returned (.bool (resIsDesk p l q m)) ∧ Below w.heap.size w w' := by
  go_enter Try.func17, Try.ntmps17
  go_wp2_with fail
  refine (coGood_any p q l m A B c d _ hl hm ((hA.below (B' := w.heap.size) (by go_grown) (Nat.le_refl _)).more (by go_size)) ((hB.below (B' := w.heap.size) (by go_grown) (Nat.le_refl _)).more (by go_size))).mono ?_
  rintro e w2 ⟨rfl, hb2⟩
  simp only [World.size_alloc] at hb2
  go_wp2
  go_ret
  exact ⟨rfl, Below.trans (b := _) (by go_grown) (hb2.mono (by omega))⟩
set_option maxHeartbeats 2000000 in
set_option maxRecDepth 100000 in
theorem implIsDesk_any (p q : Int) (l m : PL) (A B : Option Addr) (c d : Nat) (w : World) (hl : l.length ≤ 1048576) (hm : m.length ≤ 1048576) (hA : CRead w w.heap.size A (pcells l)) (hB : CRead w w.heap.size B (pcells m)) :
    Calls Try.prog 19 #[deskV p q A B l.length m.length c d] w fun e w' => e = .returned (.bool (resIsDesk p l q m)) ∧ Below w.heap.size w w' := by
  unfold resIsDesk
  cases hp : isP p l with
  | false =>
    have Hp := Lib.hid hp
    clear hp
    go_enter Try.func19, Try.ntmps19
    go_wp2_with fail
    refine (isParty_any p l A c _ hl ((hA.below (B' := w.heap.size) (by go_grown) (Nat.le_refl _)).more (by go_size))).mono ?_
    rw [Hp.out]
    rintro e w2 ⟨rfl, hb2⟩
    simp only [World.size_alloc] at hb2
    go_wp2
    go_ret
    exact ⟨rfl, Below.trans (b := _) (by go_grown) (hb2.mono (by omega))⟩
  | true =>
    have Hp := Lib.hid hp
    clear hp
    go_enter Try.func19, Try.ntmps19
    go_wp2_with fail
    refine (isParty_any p l A c _ hl ((hA.below (B' := w.heap.size) (by go_grown) (Nat.le_refl _)).more (by go_size))).mono ?_
    rw [Hp.out]
    rintro e w2 ⟨rfl, hb2⟩
    have s2 := hb2.size
    have a0 : w2.cell? ⟨w.heap.size, 2, none⟩ = some (.int .i64 q) := carry hb2 (by simp) (by simp)
    have a1 : w2.cell? ⟨w.heap.size, 3, none⟩ = some (.slice B m.length d) := carry hb2 (by simp) (by simp)
    simp only [World.size_alloc] at hb2 s2
    have k2 : Below w.heap.size w w2 := Below.trans (b := _) (by go_grown) (hb2.mono (by omega))
    go_wp2_with fail
    refine (isParty_any q m B d _ hm ((hB.below k2 (Nat.le_refl _)).more k2.size)).mono ?_
    rintro e w3 ⟨rfl, hb3⟩
    have k3 := k2.trans (hb3.mono k2.size)
    clear a0 a1
    go_wp2
    go_ret
    exact ⟨rfl, k3⟩
end Go.Proofs.Ytkiobefojckocaa
/-
  A DESK THAT CAME IN, OPENED: two parties.
-/
namespace Go.Proofs.Ytkiobefojckocaa
open Go.ChangeShapes Go.WideShapes Go.ChangeAt Go.RowKit Go.Deep

theorem Try.cellsPairs : Try.prog.cellsOf 31 = 1 := by kernel_rfl
theorem Try.cellsDesk : Try.prog.cellsOf 35 = 4 := by kernel_rfl
section
variable {H : Type} {enc : TypeId × Value → H} {W : World}
set_option maxRecDepth 100000 in
theorem party_of_trod {n : Nat} {v0 v1 : Value} {y : DataW H × List MemPlace} (h : DataW.trod enc Try.prog W 0 (fun _ => true) true n 33 [v0, v1] = some y) :
    ∃ (x : Int) (l : PL) (A : Option Addr) (c : Nat), v0 = .int .i64 x ∧ v1 = .slice A l.length c ∧ l.length ≤ maxLen ∧ CRead W W.heap.size A (pcells l) := by
  obtain ⟨y0, y1, n, _, _, h0, h1⟩ := trod_struct2 Try.underlying33 h
  have ci := Try.cellsInt
  have cs := Try.cellsPairs
  simp only [ci, cs, List.drop_zero, List.drop_succ_cons, List.take_succ_cons, List.take_zero] at h0 h1
  obtain ⟨x, hx, _, _⟩ := DataW.trod_int Try.underlying3 h0
  simp only [List.cons.injEq, and_true] at hx
  subst hx
  rcases open_slice_pairs Try.underlying31 Try.underlying106 Try.cellsPair rfl rfl (by kernel_rfl) (by kernel_rfl) h1 with ⟨hcs, _⟩ | ⟨a, len, cap, m, n', V0, V1, D0, D1, P0, P1, hcs, _, hlc, hcm, hm, _, hall⟩
  · simp only [List.cons.injEq, and_true] at hcs
    subst hcs
    exact ⟨x, [], none, 0, rfl, rfl, Nat.zero_le _, CRead.nil⟩
  · simp only [List.cons.injEq, and_true] at hcs
    subst hcs
    have hm' : m = cap := by simpa using hm
    subst hm'
    have each : ∀ i, i < len → ∃ a0 a1 : Int, W.cell? (a.add (i * 2)) = some (.int .i64 a0) ∧ W.cell? (a.add (i * 2 + 1)) = some (.int .i64 a1) := by
      intro i hi
      obtain ⟨c0, c1, t0, t1⟩ := hall i (by omega)
      obtain ⟨a0, e0, _, _⟩ := DataW.trod_int Try.underlying3 t0
      obtain ⟨a1, e1, _, _⟩ := DataW.trod_int Try.underlying3 t1
      simp only [List.cons.injEq, and_true] at e0 e1
      exact ⟨a0, a1, by rw [c0, e0], by rw [c1, e1]⟩
    let num : Option Value → Int := fun | some (.int _ z) => z | _ => 0
    let l : PL := (List.range len).map fun i => (num (W.cell? (a.add (i * 2))), num (W.cell? (a.add (i * 2 + 1))))
    have hll : l.length = len := by simp [l]
    refine ⟨x, l, some a, m, rfl, by rw [hll], by rw [hll]; omega, ?_⟩
    intro j u hu
    have hjl : j < (pcells l).length := (List.getElem?_eq_some_iff.1 hu).1
    rw [pcells_length, hll] at hjl
    have hi : j / 2 < len := by omega
    obtain ⟨a0, a1, c0, c1⟩ := each (j / 2) hi
    have hl : l[j / 2]? = some (a0, a1) := by simp [l, hi, c0, c1, num]
    obtain ⟨z0, _, cz, _⟩ := each 0 (by omega)
    have hspot : a.spot = none := by simpa [Addr.add] using World.cell?_spot cz
    obtain ⟨b, off, sp⟩ := a
    simp only at hspot
    subst hspot
    have hb : b < W.heap.size := by
      have := World.block_lt_of_cell? W _ cz
      simpa [Addr.add] using this
    refine ⟨b, off, rfl, hb, ?_⟩
    rw [add_plain] at c0 c1
    rcases Nat.mod_two_eq_zero_or_one j with h2 | h2
    · have e : j = j / 2 * 2 := by omega
      have e2 := pcells_fst hl
      rw [← e] at e2 c0
      rw [hu] at e2
      rw [c0, e2]
    · have e : j = j / 2 * 2 + 1 := by omega
      have e2 := pcells_snd hl
      rw [← e] at e2 c1
      rw [hu] at e2
      rw [c1, e2]
set_option maxRecDepth 100000 in
theorem open_desk {v : Value} {d : DataW H} {p : List MemPlace} {r : Reach} {b0 : Nat} (hv : Value.okWide Try.prog W r b0 35 v) (h : DataW.Trod enc Try.prog W 0 (fun _ => true) true 35 v d p) :
    ∃ (x : Int) (l : PL) (A : Option Addr) (c : Nat) (y : Int) (m : PL) (B : Option Addr) (e : Nat), v = deskV x y A B l.length m.length c e ∧ l.length ≤ maxLen ∧ CRead W W.heap.size A (pcells l) ∧ m.length ≤ maxLen ∧ CRead W W.heap.size B (pcells m) := by
  obtain ⟨cs, rfl, hsz⟩ := okWide_struct Try.underlying35 hv
  obtain ⟨c0, c1, c2, c3, rfl⟩ := Joins.array4 (hsz.trans Try.cellsDesk)
  obtain ⟨fuel, hf⟩ := h
  obtain ⟨y0, y1, n, _, _, h0, h1⟩ := trod_struct2 Try.underlying35 hf
  have cp := Try.cellsParty
  simp only [cp, Value.cells, List.drop_zero, List.drop_succ_cons, List.take_succ_cons, List.take_zero] at h0 h1
  obtain ⟨x, l, A, c, rfl, rfl, hl, hA⟩ := party_of_trod h0
  obtain ⟨y, m, B, e, rfl, rfl, hm, hB⟩ := party_of_trod h1
  exact ⟨x, l, A, c, y, m, B, e, rfl, hl, hA, hm, hB⟩
end
end Go.Proofs.Ytkiobefojckocaa
/-
  'laws.FnExactIsDesk' returns true, whatever the desk.
-/
namespace Go.Proofs.Ytkiobefojckocaa
open Go.RowKit

/-- the cells of a desk's box -/
structure DeskAt (w : World) (b : Nat) (p q : Int) (A B : Option Addr) (n m c d : Nat) : Prop where
  x0 : w.cell? ⟨b, 0, none⟩ = some (.int .i64 p)
  x1 : w.cell? ⟨b, 1, none⟩ = some (.slice A n c)
  x2 : w.cell? ⟨b, 2, none⟩ = some (.int .i64 q)
  x3 : w.cell? ⟨b, 3, none⟩ = some (.slice B m d)
theorem DeskAt.carry {w w' : World} {b : Nat} {p q : Int} {A B : Option Addr} {n m c d : Nat} (h : DeskAt w b p q A B n m c d) (hb : Below w.heap.size w w') (hlt : b < w.heap.size) : DeskAt w' b p q A B n m c d :=
  ⟨Proofs.Ytkiobefojckocaa.carry hb h.x0 hlt, Proofs.Ytkiobefojckocaa.carry hb h.x1 hlt, Proofs.Ytkiobefojckocaa.carry hb h.x2 hlt, Proofs.Ytkiobefojckocaa.carry hb h.x3 hlt⟩
set_option maxHeartbeats 4000000 in
set_option maxRecDepth 100000 in
theorem lawIsDesk_any (p q : Int) (l m : PL) (A B : Option Addr) (c d : Nat) (W : World) (hl : l.length ≤ maxLen) (hA : CRead W W.heap.size A (pcells l)) (hm : m.length ≤ maxLen) (hB : CRead W W.heap.size B (pcells m)) :
    Calls Try.prog 4 #[deskV p q A B l.length m.length c d] W fun e w' => e = .returned (.bool true) ∧ Below W.heap.size W w' := by
  have sz := fun (Y : World) => szDesk_any p q A B l.length m.length c d 1048576 hl hm (by omega) (by omega) Y
  have to := fun (h1 : l.length ≤ 1048576) (h2 : m.length ≤ 1048576) (Y : World) (hY : Below W.heap.size W Y) => toDesk_any p q l m A B c d Y h1 h2 ((hA.below hY (Nat.le_refl _)).more hY.size) ((hB.below hY (Nat.le_refl _)).more hY.size)
  generalize hn : l.length = n at *
  generalize hk : m.length = k at *
  have Hn := Lib.hid hn
  have Hk := Lib.hid hk
  have Sz := Lib.hid sz
  have To := Lib.hid to
  clear hn hk sz to hA hB
  go_enter Try.func4, Try.ntmps4
  go_wp2_with fail
  refine (Sz.out _).mono ?_
  rintro e w1 ⟨r, rfl, hb1, hr⟩
  have d1 : DeskAt w1 W.heap.size p q A B n k c d := ⟨carry hb1 (by simp) (by simp), carry hb1 (by simp) (by simp), carry hb1 (by simp) (by simp), carry hb1 (by simp) (by simp)⟩
  have s1 := hb1.size
  simp only [World.size_alloc] at hb1 s1
  have k1 : Below W.heap.size W w1 := Below.trans (b := _) (by go_grown) (hb1.mono (by omega))
  clear hb1
  by_cases hr0 : r < 0
  · clear d1
    go_wp2
    go_ret
    exact ⟨rfl, k1⟩
  obtain ⟨hl1, hm1⟩ := hr (by omega)
  have To2 := Lib.hid (To.out hl1 hm1)
  clear To hr
  obtain ⟨a0, a1, a2, a3⟩ := id d1
  go_wp2_with fail
  refine (To2.out w1 k1).mono ?_
  rintro e w2 ⟨A2, B2, c2, d2, rfl, rA2, rB2, hb2⟩
  have D2 := d1.carry hb2 (by omega)
  have s2 := hb2.size
  have k2 := k1.trans (hb2.mono k1.size)
  clear a0 a1 a2 a3 d1
  go_wp2_with fail
  rw [← Hn.out, ← Hk.out]
  refine (specIsDesk_any p q l m A2 B2 c2 d2 w2 (by rw [Hn.out]; exact hl1) (by rw [Hk.out]; exact hm1) rA2 rB2).mono ?_
  rintro e w3 ⟨rfl, hb3⟩
  rw [Hn.out, Hk.out]
  have D3 := D2.carry hb3 (by omega)
  have s3 := hb3.size
  have k3 := k2.trans (hb3.mono k2.size)
  clear D2 rA2 rB2
  obtain ⟨a0, a1, a2, a3⟩ := id D3
  go_wp2_with fail
  refine (To2.out w3 k3).mono ?_
  rintro e w4 ⟨A4, B4, c4, d4, rfl, rA4, rB4, hb4⟩
  have D4 := D3.carry hb4 (by omega)
  have s4 := hb4.size
  have k4 := k3.trans (hb4.mono k3.size)
  clear a0 a1 a2 a3 D3
  go_wp2_with fail
  obtain ⟨X, hX⟩ : ∃ X, w4.alloc (Obj.cells #[.int .i64 p, .slice A4 n c4, .int .i64 q, .slice B4 k d4] 26) = X := ⟨_, rfl⟩
  have gX : Below w4.heap.size w4 X := by rw [← hX]; go_grown
  have sX : X.heap.size = w4.heap.size + 1 := by rw [← hX]; simp
  have E5 : DeskAt X w4.heap.size p q A4 B4 n k c4 d4 := by rw [← hX]; exact ⟨by simp, by simp, by simp, by simp⟩
  have D5 := D4.carry gX (by omega)
  have k5 := k4.trans (gX.mono k4.size)
  have rA5 := (rA4.below gX (Nat.le_refl _)).more gX.size
  have rB5 := (rB4.below gX (Nat.le_refl _)).more gX.size
  rw [hX, ← Hn.out, ← Hk.out]
  clear hX D4 rA4 rB4
  refine (implIsDesk_any p q l m A4 B4 c4 d4 X (by rw [Hn.out]; exact hl1) (by rw [Hk.out]; exact hm1) rA5 rB5).mono ?_
  rintro e w6 ⟨rfl, hb6⟩
  rw [Hn.out, Hk.out]
  have D6 := D5.carry hb6 (by omega)
  have E6 := E5.carry hb6 (by omega)
  have s6 := hb6.size
  have k6 := k5.trans (hb6.mono k5.size)
  have rA6 := (rA5.below hb6 (Nat.le_refl _)).more hb6.size
  have rB6 := (rB5.below hb6 (Nat.le_refl _)).more hb6.size
  clear D5 E5 rA5 rB5
  obtain ⟨a0, a1, a2, a3⟩ := id D6
  obtain ⟨b0, b1, b2, b3⟩ := id E6
  go_wp2
  go_region_held3 (fun w' => w'.cell? ⟨W.heap.size, 0, none⟩ = some (.int .i64 p) ∧ w'.cell? ⟨W.heap.size, 1, none⟩ = some (.slice A n c) ∧ w'.cell? ⟨W.heap.size, 2, none⟩ = some (.int .i64 q) ∧ w'.cell? ⟨W.heap.size, 3, none⟩ = some (.slice B k d) ∧ w'.cell? ⟨w4.heap.size, 0, none⟩ = some (.int .i64 p) ∧ w'.cell? ⟨w4.heap.size, 1, none⟩ = some (.slice A4 n c4) ∧ w'.cell? ⟨w4.heap.size, 2, none⟩ = some (.int .i64 q) ∧ w'.cell? ⟨w4.heap.size, 3, none⟩ = some (.slice B4 k d4)) (first | exact ⟨D6.x0, D6.x1, D6.x2, D6.x3, E6.x0, E6.x1, E6.x2, E6.x3⟩ | exact ⟨D7.x0, D7.x1, D7.x2, D7.x3, E7.x0, E7.x1, E7.x2, E7.x3⟩ | exact ⟨D8.x0, D8.x1, D8.x2, D8.x3, E8.x0, E8.x1, E8.x2, E8.x3⟩) ((first
    | (go_at_call 18; refine (To2.out _ k6.drew).mono ?_; rintro e w7 ⟨A7, B7, c7, d7, rfl, rA7, rB7, hb7⟩; have g7 : Below w6.heap.size w6 w7 := (Below.refl _ _).drew.trans hb7; have s7 := g7.size; have D7 := D6.carry g7 (by omega); have E7 := E6.carry g7 (by omega); have k7 := k6.trans (g7.mono k6.size); have rA67 := (rA6.below g7 (Nat.le_refl _)).more g7.size; have rB67 := (rB6.below g7 (Nat.le_refl _)).more g7.size)
    | (go_at_call 13; rw [← Hn.out, ← Hk.out]; refine (eqDesk_same p q l m A4 B4 A7 B7 c4 d4 c7 d7 w7 (by rw [Hn.out]; exact hl) (by rw [Hk.out]; exact hm) rA67 rB67 rA7 rB7).mono ?_; rintro e w8 ⟨rfl, hb8⟩; rw [Hn.out, Hk.out]; have s8 := hb8.size; have D8 := D7.carry hb8 (by omega); have E8 := E7.carry hb8 (by omega); have k8 := k7.trans (hb8.mono k7.size))))
  go_wp2
  go_ret
  exact ⟨rfl, k8⟩
end Go.Proofs.Ytkiobefojckocaa
/-
  THE PROGRAM's HEAD, LOOKED AT ONCE: which make it is, and that a call may enter it. (The head's text is long: the kernel must not read it twice.)
-/
namespace Go.Proofs.Ytkiobefojckocaa

theorem make_of {P : Program} {rest : List (List Char)} (h : behindMainWord (wordsSigns P.initOrder.toList) = "cut".toList :: rest) : P.make = some .cut := by
  unfold Program.make
  rw [h]
  rfl
theorem strip_cut (rest : List (List Char)) : stripLifts liftWords ("cut".toList :: rest) = ([], "cut".toList :: rest) := rfl
theorem lifts_of {P : Program} {rest : List (List Char)} (h : behindMainWord (wordsSigns P.initOrder.toList) = "cut".toList :: rest) : P.headLifts = [] := by
  unfold Program.headLifts
  rw [h, strip_cut]
  rfl
theorem final_of {P : Program} {rest : List (List Char)} (h : behindMainWord (wordsSigns P.initOrder.toList) = "cut".toList :: rest) : P.liftsFinal = false := by
  unfold Program.liftsFinal
  rw [lifts_of h, h]
  rfl
theorem enter_of {P : Program} {rest : List (List Char)} (h : behindMainWord (wordsSigns P.initOrder.toList) = "cut".toList :: rest) (h1 : P.laysLater = false) (h2 : P.bearsReflect = false) (h3 : P.doorFits [] = true) : P.mayEnter = true := by
  unfold Program.mayEnter
  rw [h]
  show (_ || _ || _) = true
  rw [strip_cut, h1, h2, h3]
  rfl
end Go.Proofs.Ytkiobefojckocaa
/-
  THE PROGRAM's CLOSED FACTS, EACH ONCE; and how a row's facts are put together out of them.
-/
namespace Go.Proofs.Ytkiobefojckocaa
open Go.ChangeShapes Go.WideShapes Go.ChangeAt Go.RowKit

def headSigns : List Char := ([104, 97, 114, 110, 101, 115, 115, 32, 55, 55, 98, 50, 49, 52, 56, 50, 98, 102, 57, 50, 50, 55, 97, 102, 53, 54, 99, 54, 48, 57, 53, 50, 57, 48, 53, 97, 55, 54, 51, 54, 98, 97, 57, 56, 52, 52, 54, 53, 51, 50, 56, 98, 52, 57, 51, 52, 98, 50, 99, 55, 57, 49, 100, 101, 98, 51, 99, 53, 49, 56, 98, 50, 32, 99, 117, 116, 32, 97, 116, 32, 108, 111, 111, 112, 46, 101, 120, 97, 109, 112, 108, 101, 47, 103, 48, 49, 50, 53, 55, 47, 108, 97, 119, 115, 46, 70, 110, 69, 120, 97, 99, 116, 70, 105, 114, 115, 116, 68, 101, 115, 107, 32, 108, 111, 111, 112, 46, 101, 120, 97, 109, 112, 108, 101, 47, 103, 48, 49, 50, 53, 55, 47, 108, 97, 119, 115, 46, 70, 110, 69, 120, 97, 99, 116, 73, 115, 68, 101, 115, 107, 32, 108, 111, 111, 112, 46, 101, 120, 97, 109, 112, 108, 101, 47, 103, 48, 49, 50, 53, 55, 47, 108, 97, 119, 115, 46, 70, 110, 69, 120, 97, 99, 116, 70, 105, 114, 115, 116, 80, 97, 105, 114, 105, 110, 103, 32, 108, 111, 111, 112, 46, 101, 120, 97, 109, 112, 108, 101, 47, 103, 48, 49, 50, 53, 55, 47, 108, 97, 119, 115, 46, 70, 110, 69, 120, 97, 99, 116, 77, 111, 115, 116, 73, 110, 80, 97, 105, 114, 115, 32, 108, 111, 111, 112, 46, 101, 120, 97, 109, 112, 108, 101, 47, 103, 48, 49, 50, 53, 55, 47, 108, 97, 119, 115, 46, 70, 110, 69, 120, 97, 99, 116, 68, 114, 111, 112, 67, 108, 117, 101, 32, 108, 111, 111, 112, 46, 101, 120, 97, 109, 112, 108, 101, 47, 103, 48, 49, 50, 53, 55, 47, 108, 97, 119, 115, 46, 70, 110, 69, 120, 97, 99, 116, 65, 100, 100, 67, 108, 117, 101, 32, 108, 111, 111, 112, 46, 101, 120, 97, 109, 112, 108, 101, 47, 103, 48, 49, 50, 53, 55, 47, 108, 97, 119, 115, 46, 70, 110, 69, 120, 97, 99, 116, 70, 101, 119, 101, 115, 116, 67, 111, 108, 111, 117, 114, 115, 32, 108, 111, 111, 112, 46, 101, 120, 97, 109, 112, 108, 101, 47, 103, 48, 49, 50, 53, 55, 47, 108, 97, 119, 115, 46, 70, 110, 69, 120, 97, 99, 116, 70, 105, 114, 115, 116, 67, 111, 108, 111, 117, 114, 105, 110, 103] : List Nat).map Char.ofNat
set_option maxRecDepth 100000 in
theorem Try.initOrder_is : Try.prog.initOrder = String.ofList headSigns := by kernel_rfl
theorem Try.initOrder_signs : Try.prog.initOrder.toList = headSigns := by rw [Try.initOrder_is]; exact String.toList_ofList
set_option maxRecDepth 100000 in
theorem head_words : (behindMainWord (wordsSigns headSigns)).take 1 = ["cut".toList] := by kernel_rfl
theorem Try.words : ∃ rest, behindMainWord (wordsSigns Try.prog.initOrder.toList) = "cut".toList :: rest := by
  rw [Try.initOrder_signs]
  have h := List.take_append_drop 1 (behindMainWord (wordsSigns headSigns))
  rw [head_words] at h
  exact ⟨_, h.symm⟩
theorem Try.make : Try.prog.make = some .cut := by obtain ⟨_, h⟩ := Try.words; exact make_of h
theorem Try.liftsFinal : Try.prog.liftsFinal = false := by obtain ⟨_, h⟩ := Try.words; exact final_of h
theorem Try.laysLater : Try.prog.laysLater = false := by kernel_rfl
theorem Try.bearsReflect : Try.prog.bearsReflect = false := by kernel_rfl
theorem Try.doorFits : Try.prog.doorFits [] = true := by kernel_rfl
theorem Try.mayEnter : Try.prog.mayEnter = true := by obtain ⟨_, h⟩ := Try.words; exact enter_of h Try.laysLater Try.bearsReflect Try.doorFits
theorem Try.mapsRowed : mapsRowed Try.prog = true := by kernel_rfl
theorem Try.stops : (Try.prog.stops == []) = true := by kernel_rfl
theorem Try.stopKnobs : (Try.prog.stopKnobs == []) = true := by kernel_rfl
theorem Try.plainKeys : Try.prog.plainKeys = true := by kernel_rfl
theorem Try.stopsHeard : Try.prog.stopsHeard = true := by kernel_rfl

/-- What the types of one law give: closed facts on its parameters and its result. -/
def typeFacts (P : Program) (fn : Func) (s : ChangeSpec) (c : OpenClaim) : Bool :=
  fn.params.all (P.readableRec ·) && namedTie P c.named s.vars && (c.stops == []) && (c.knobs == []) &&
  (c.maps == (fn.params.toList ++ s.plain.varTypes P).any (P.mapsRec ·)) && (c.ifaces == (fn.params.toList ++ s.plain.varTypes P).any (P.ifacesRec ·)) && (c.mapsOut == P.mapsAmong fn.resultTypes.toList) &&
  (c.loops == (fn.params.toList ++ s.plain.varTypes P).any (P.loopsFrom ·)) && (c.wideKeys == (fn.params.toList ++ s.plain.varTypes P ++ fn.resultTypes.toList).any (P.wideKeysFrom ·)) &&
  s.vars.all (P.varReadable ·) && fn.resultTypes.all (fun t => P.readableRec t && decide (t < P.types.size)) && (c.ifacesOut == fn.resultTypes.toList.any (P.ifacesRec ·)) && (c.loopsOut == fn.resultTypes.toList.any (P.loopsFrom ·)) && c.shortTexts.isNone &&
  (c.kinds == (if c.domain.isEmpty then [] else fn.params.toList.map fun t => match P.underlying t with | some (.int k) => some k | _ => none)) && (c.pinned == c.pinnedBy) &&
  (c.veiled == (fn.params.toList ++ s.plain.varTypes P ++ fn.resultTypes.toList).any (P.veiledRec ·)) && c.veiledFits P fn.params.toList (fn.params.toList ++ s.plain.varTypes P ++ fn.resultTypes.toList)
theorem joined_all {P : Program} {f : FuncId} {fn : Func} {s : ChangeSpec} {c : OpenClaim} (k1 : c.wf (OpenSpec.ofChange s) = true) (kt : typeFacts P fn s c = true)
    (k10 : (c.inPlace == P.inPlace f) = true) (k11 : (c.unfollowed == P.unfollowed f) = true) (k12 : (c.recurses == P.recurses f) = true) (k13 : (c.named == P.varsNamed f) = true)
    (e2 : laidOutB P = true) (e3 : mapsRowed P = true) (e7 : (P.stops == []) = true) (e9 : (P.stopKnobs == []) = true) (e22 : (c.plainKeys == P.plainKeys) = true) (e23 : P.stopsHeard = true) (e24 : P.mayEnter = true)
    (e24b : (c.lifted == P.liftsFinal) = true) (e24c : (P.make == some c.make) = true) : joinedFacts P f fn s c = true := by
  unfold typeFacts at kt
  unfold joinedFacts
  simp only [Bool.and_eq_true] at kt ⊢
  obtain ⟨⟨⟨⟨⟨⟨⟨⟨⟨⟨⟨⟨⟨⟨⟨⟨⟨t1, t2⟩, t3⟩, t4⟩, t5⟩, t6⟩, t7⟩, t8⟩, t9⟩, t10⟩, t11⟩, t12⟩, t13⟩, t14⟩, t15⟩, t16⟩, t17⟩, t18⟩ := kt
  exact ⟨⟨⟨⟨⟨⟨⟨⟨⟨⟨⟨⟨⟨⟨⟨⟨⟨⟨⟨⟨⟨⟨⟨⟨⟨⟨⟨⟨⟨⟨⟨k1, e2⟩, e3⟩, t1⟩, t2⟩, t3⟩, e7⟩, t4⟩, e9⟩, k10⟩, k11⟩, k12⟩, k13⟩, t5⟩, t6⟩, t7⟩, t8⟩, t9⟩, t10⟩, t11⟩, t12⟩, t13⟩, e22⟩, t14⟩, e23⟩, e24⟩, e24b⟩, e24c⟩, t15⟩, t16⟩, t17⟩, t18⟩
theorem joined_of {f : FuncId} {fn : Func} {s : ChangeSpec} {c : OpenClaim} (k1 : c.wf (OpenSpec.ofChange s) = true) (kt : typeFacts Try.prog fn s c = true)
    (k10 : (c.inPlace == Try.prog.inPlace f) = true) (k11 : (c.unfollowed == Try.prog.unfollowed f) = true) (k12 : (c.recurses == Try.prog.recurses f) = true) (k13 : (c.named == Try.prog.varsNamed f) = true)
    (k22 : c.plainKeys = true) (k24b : c.lifted = false) (k24c : c.make = .cut) : joinedFacts Try.prog f fn s c = true :=
  joined_all k1 kt k10 k11 k12 k13 Try.laidOut Try.mapsRowed Try.stops Try.stopKnobs (by rw [k22, Try.plainKeys]; rfl) Try.stopsHeard Try.mayEnter (by rw [k24b, Try.liftsFinal]; rfl) (by rw [k24c, Try.make]; rfl)
end Go.Proofs.Ytkiobefojckocaa
