/-
  Texts put together for the claims of 'FirstDesk' (pack 2): Desk, DeskF, LawFirstDesk, Head, Facts.
-/
import Derived.Test.YtkiobefojckocaaFirstDeskP1
import Derived.Test.YtkiobefojckocaaRows
/-
  DESKS: the laws' own small functions at them (size, copy, comparison), 'IsDesk' of the model and of the program, by their contracts.
-/
namespace Go.Proofs.Ytkiobefojckocaa
open Go.RowKit

/-- a desk as a value -/
abbrev deskV (p q : Int) (A B : Option Addr) (n m c d : Nat) : Value := .agg #[.int .i64 p, .slice A n c, .int .i64 q, .slice B m d]
def resIsDesk (p : Int) (l : PL) (q : Int) (m : PL) : Bool := isP p l && isP q m

theorem alloc_lt (w : World) (o : Obj) (j : Nat) (h : j < w.heap.size) : (w.alloc o).heap[j]? = w.heap[j]? := (World.grownBy_alloc w o none).block j h (by simp)
theorem blk_set {w : World} {b : Nat} {cs : Array Value} {t : TypeId} {fr : Nat × Nat} (h : w.heap[b]? = some (Obj.cells cs t fr)) (i : Nat) (u : Value) : (w.setCell ⟨b, i, none⟩ u).heap[b]? = some (Obj.cells (cs.setIfInBounds i u) t fr) := by
  simp [World.setCell, Array.getElem?_modify, h]
set_option maxHeartbeats 2000000 in
set_option maxRecDepth 100000 in
theorem szDesk_any (p q : Int) (A B : Option Addr) (n m c d : Nat) (left : Int) (hn : n ≤ maxLen) (hm : m ≤ maxLen) (h0 : 0 ≤ left) (h1 : left ≤ 1048576) (w : World) :
    Calls Try.prog 16 #[deskV p q A B n m c d, .int .i64 left] w fun e w' => ∃ r : Int, e = .returned (.int .i64 r) ∧ Below w.heap.size w w' ∧ (0 ≤ r → n ≤ 1048576 ∧ m ≤ 1048576) := by
  by_cases h : szI left n < 0
  · have hneg : szI left n = -1 := by unfold szI at h ⊢; split <;> simp_all
    have Hn := Lib.hid hneg
    clear hneg
    go_enter Try.func16, Try.ntmps16
    go_wp2_with fail
    refine (szParty_any _ _ _ _ _ hn h0 h1 _).mono ?_
    rintro e w2 ⟨rfl, hb2⟩
    rw [Hn.out]
    simp only [World.size_alloc] at hb2
    go_wp2
    go_ret
    exact ⟨-1, rfl, Below.trans (b := _) (by go_grown) (hb2.mono (by omega)), fun h => by omega⟩
  · have hl1 := szI_len _ _ h
    have hhi := szI_hi left n h0
    obtain ⟨k, hk⟩ : ∃ k, szI left n = k := ⟨_, rfl⟩
    rw [hk] at h hhi
    have Hk := Lib.hid hk
    by_cases h2 : szI k m < 0
    · have hneg : szI k m = -1 := by unfold szI at h2 ⊢; split <;> simp_all
      have Hn := Lib.hid hneg
      clear hneg hk
      go_enter Try.func16, Try.ntmps16
      go_wp2_with fail
      refine (szParty_any _ _ _ _ _ hn h0 h1 _).mono ?_
      rintro e w2 ⟨rfl, hb2⟩
      rw [Hk.out]
      have s2 := hb2.size
      have a0 : w2.cell? ⟨w.heap.size, 2, none⟩ = some (.int .i64 q) := carry hb2 (by simp) (by simp)
      have a1 : w2.cell? ⟨w.heap.size, 3, none⟩ = some (.slice B m d) := carry hb2 (by simp) (by simp)
      simp only [World.size_alloc] at hb2 s2
      go_wp2_with fail
      refine (szParty_any _ _ _ _ _ hm (by omega) (by omega) _).mono ?_
      rintro e w3 ⟨rfl, hb3⟩
      rw [Hn.out]
      go_wp2
      go_ret
      exact ⟨-1, rfl, (Below.trans (b := _) (by go_grown) (hb2.mono (by omega))).trans (hb3.mono (by omega)), fun h => by omega⟩
    · have hl2 := szI_len _ _ h2
      have hhi2 := szI_hi k m (by omega)
      obtain ⟨k2, hk2⟩ : ∃ k2, szI k m = k2 := ⟨_, rfl⟩
      rw [hk2] at h2 hhi2
      have Hk2 := Lib.hid hk2
      clear hk hk2
      go_enter Try.func16, Try.ntmps16
      go_wp2_with fail
      refine (szParty_any _ _ _ _ _ hn h0 h1 _).mono ?_
      rintro e w2 ⟨rfl, hb2⟩
      rw [Hk.out]
      have s2 := hb2.size
      have a0 : w2.cell? ⟨w.heap.size, 2, none⟩ = some (.int .i64 q) := carry hb2 (by simp) (by simp)
      have a1 : w2.cell? ⟨w.heap.size, 3, none⟩ = some (.slice B m d) := carry hb2 (by simp) (by simp)
      simp only [World.size_alloc] at hb2 s2
      go_wp2_with fail
      refine (szParty_any _ _ _ _ _ hm (by omega) (by omega) _).mono ?_
      rintro e w3 ⟨rfl, hb3⟩
      rw [Hk2.out]
      go_wp2
      go_ret
      exact ⟨k2, rfl, (Below.trans (b := _) (by go_grown) (hb2.mono (by omega))).trans (hb3.mono (by omega)), fun _ => by omega⟩
set_option maxHeartbeats 2000000 in
set_option maxRecDepth 100000 in
theorem toDesk_any (p q : Int) (l m : PL) (A B : Option Addr) (c d : Nat) (w : World) (hl : l.length ≤ 1048576) (hm : m.length ≤ 1048576) (hA : CRead w w.heap.size A (pcells l)) (hB : CRead w w.heap.size B (pcells m)) :
    Calls Try.prog 18 #[deskV p q A B l.length m.length c d] w fun e w' => ∃ A' B' c' d', e = .returned (deskV p q A' B' l.length m.length c' d') ∧
      CRead w' w'.heap.size A' (pcells l) ∧ CRead w' w'.heap.size B' (pcells m) ∧ Below w.heap.size w w' := by
  generalize hn : l.length = n at *
  generalize hk : m.length = k at *
  have Hn := Lib.hid hn
  have Hk := Lib.hid hk
  clear hn hk
  have tA := fun (Y : World) (hY : Below w.heap.size w Y) => toParty_any p l A c Y (by rw [Hn.out]; exact hl) ((hA.below hY (Nat.le_refl _)).more hY.size)
  have tB := fun (Y : World) (hY : Below w.heap.size w Y) => toParty_any q m B d Y (by rw [Hk.out]; exact hm) ((hB.below hY (Nat.le_refl _)).more hY.size)
  rw [Hn.out] at tA
  rw [Hk.out] at tB
  have TA := Lib.hid tA
  have TB := Lib.hid tB
  clear tA tB hA hB
  go_enter Try.func18, Try.ntmps18
  go_wp2_with fail
  obtain ⟨X, hX⟩ : ∃ X, (((w.alloc (Obj.cells #[.int .i64 p, .slice A n c, .int .i64 q, .slice B k d] 35)).alloc (Obj.cells #[.int .i64 0, .slice none 0 0, .int .i64 0, .slice none 0 0] 26)).alloc (Obj.cells #[.int .i64 0, .slice none 0 0, .int .i64 0, .slice none 0 0] 26)) = X := ⟨_, rfl⟩
  have kX : Below w.heap.size w X := by rw [← hX]; go_grown
  have sX : X.heap.size = w.heap.size + 1 + 1 + 1 := by rw [← hX]; simp
  have b0 : X.heap[w.heap.size]? = some (Obj.cells #[.int .i64 p, .slice A n c, .int .i64 q, .slice B k d] 35) := by
    rw [← hX, alloc_lt _ _ _ (by simp; omega), alloc_lt _ _ _ (by simp)]; exact heap_alloc_new _ _
  have b1 : X.heap[w.heap.size + 1]? = some (Obj.cells #[.int .i64 0, .slice none 0 0, .int .i64 0, .slice none 0 0] 26) := by
    rw [← hX, alloc_lt _ _ _ (by simp)]; have h := heap_alloc_new (w.alloc (Obj.cells #[.int .i64 p, .slice A n c, .int .i64 q, .slice B k d] 35)) (Obj.cells #[.int .i64 0, .slice none 0 0, .int .i64 0, .slice none 0 0] 26); rwa [World.size_alloc] at h
  have b2 : X.heap[w.heap.size + 1 + 1]? = some (Obj.cells #[.int .i64 0, .slice none 0 0, .int .i64 0, .slice none 0 0] 26) := by
    rw [← hX]; have h := heap_alloc_new ((w.alloc (Obj.cells #[.int .i64 p, .slice A n c, .int .i64 q, .slice B k d] 35)).alloc (Obj.cells #[.int .i64 0, .slice none 0 0, .int .i64 0, .slice none 0 0] 26)) (Obj.cells #[.int .i64 0, .slice none 0 0, .int .i64 0, .slice none 0 0] 26); rwa [World.size_alloc, World.size_alloc] at h
  rw [hX]
  clear hX
  refine (TA.out X kX).mono ?_
  rintro e w2 ⟨A2, c2, rfl, own2, hb2⟩
  rw [Hn.out] at own2 ⊢
  have s2 := hb2.size
  have b0' := (hb2.block _ (show w.heap.size < X.heap.size by omega)).trans b0
  have b1' := (hb2.block _ (show w.heap.size + 1 < X.heap.size by omega)).trans b1
  have b2' := (hb2.block _ (show w.heap.size + 1 + 1 < X.heap.size by omega)).trans b2
  have v2 : w2.cell? ⟨w.heap.size, 2, none⟩ = some (.int .i64 q) := by rw [cell_of_row _ _ _ _ _ _ b0']; rfl
  have v3 : w2.cell? ⟨w.heap.size, 3, none⟩ = some (.slice B k d) := by rw [cell_of_row _ _ _ _ _ _ b0']; rfl
  have y0 : w2.cell? ⟨w.heap.size + 1 + 1, 0, none⟩ = some (.int .i64 0) := by rw [cell_of_row _ _ _ _ _ _ b2']; rfl
  have y1 : w2.cell? ⟨w.heap.size + 1 + 1, 1, none⟩ = some (.slice none 0 0) := by rw [cell_of_row _ _ _ _ _ _ b2']; rfl
  have z0 := frozen_of_row _ _ 0 _ _ b2'
  have z1 := frozen_of_row _ _ 1 _ _ b2'
  have k2 : Below w.heap.size w w2 := kX.trans (hb2.mono kX.size)
  have Own2 := Lib.hid own2
  have K2 := Lib.hid k2
  have HB := Lib.hid (And.intro b1' b2')
  clear own2 hb2 b0 b1 b2 b0' b1' b2' k2 kX
  go_wp2_with fail
  obtain ⟨Y, hY⟩ : ∃ Y, ((w2.setCell ⟨w.heap.size + 1 + 1, 0, none⟩ (.int .i64 p)).setCell ⟨w.heap.size + 1 + 1, 1, none⟩ (.slice A2 n c2)) = Y := ⟨_, rfl⟩
  have sY : Y.heap.size = w2.heap.size := by rw [← hY]; simp
  have kY : Below w.heap.size w Y := by rw [← hY]; exact (K2.out.setCell (by simp; omega) _).setCell (by simp; omega) _
  have b2 : Y.heap[w.heap.size + 1 + 1]? = some (Obj.cells #[.int .i64 p, .slice A2 n c2, .int .i64 0, .slice none 0 0] 26) := by rw [← hY]; exact blk_set (blk_set HB.out.2 0 _) 1 _
  have b1 : Y.heap[w.heap.size + 1]? = some (Obj.cells #[.int .i64 0, .slice none 0 0, .int .i64 0, .slice none 0 0] 26) := by rw [← hY, Below.heap_setCell _ _ _ _ (by simp), Below.heap_setCell _ _ _ _ (by simp)]; exact HB.out.1
  have ownY : Y.ownsRow (w.heap.size + 1 + 1 + 1) 76 2 (.slice A2 n c2) n (pcells l) := by rw [← hY]; rw [sX] at Own2; exact ownsRow_setCell_below (ownsRow_setCell_below Own2.out (by simp) _) (by simp) _
  rw [hY]
  clear hY v2 v3 y0 y1 z0 z1 HB
  refine (TB.out Y kY).mono ?_
  rintro e w3 ⟨A3, c3, rfl, own3, hb3⟩
  rw [Hk.out] at own3 ⊢
  have s3 := hb3.size
  have b1' := (hb3.block _ (show w.heap.size + 1 < Y.heap.size by omega)).trans b1
  have b2' := (hb3.block _ (show w.heap.size + 1 + 1 < Y.heap.size by omega)).trans b2
  have y0 : w3.cell? ⟨w.heap.size + 1 + 1, 0, none⟩ = some (.int .i64 p) := by rw [cell_of_row _ _ _ _ _ _ b2']; rfl
  have y1 : w3.cell? ⟨w.heap.size + 1 + 1, 1, none⟩ = some (.slice A2 n c2) := by rw [cell_of_row _ _ _ _ _ _ b2']; rfl
  have y2 : w3.cell? ⟨w.heap.size + 1 + 1, 2, none⟩ = some (.int .i64 0) := by rw [cell_of_row _ _ _ _ _ _ b2']; rfl
  have y3 : w3.cell? ⟨w.heap.size + 1 + 1, 3, none⟩ = some (.slice none 0 0) := by rw [cell_of_row _ _ _ _ _ _ b2']; rfl
  have x0 : w3.cell? ⟨w.heap.size + 1, 0, none⟩ = some (.int .i64 0) := by rw [cell_of_row _ _ _ _ _ _ b1']; rfl
  have x1 : w3.cell? ⟨w.heap.size + 1, 1, none⟩ = some (.slice none 0 0) := by rw [cell_of_row _ _ _ _ _ _ b1']; rfl
  have x2 : w3.cell? ⟨w.heap.size + 1, 2, none⟩ = some (.int .i64 0) := by rw [cell_of_row _ _ _ _ _ _ b1']; rfl
  have x3 : w3.cell? ⟨w.heap.size + 1, 3, none⟩ = some (.slice none 0 0) := by rw [cell_of_row _ _ _ _ _ _ b1']; rfl
  have z2 := frozen_of_row _ _ 2 _ _ b2'
  have z3 := frozen_of_row _ _ 3 _ _ b2'
  have u0 := frozen_of_row _ _ 0 _ _ b1'
  have u1 := frozen_of_row _ _ 1 _ _ b1'
  have u2 := frozen_of_row _ _ 2 _ _ b1'
  have u3 := frozen_of_row _ _ 3 _ _ b1'
  have k3 : Below w.heap.size w w3 := kY.trans (hb3.mono kY.size)
  have own2 := own_below ownY hb3 (Nat.le_refl _)
  have K3 := Lib.hid k3
  have B1 := Lib.hid b1'
  have Own2' := Lib.hid own2
  have Own3 := Lib.hid own3
  clear b1 b2 b1' b2' ownY own2 own3 hb3 k3 kY
  go_wp2
  obtain ⟨V, hV⟩ : ∃ V, ((w3.setCell ⟨w.heap.size + 1 + 1, 2, none⟩ (.int .i64 q)).setCell ⟨w.heap.size + 1 + 1, 3, none⟩ (.slice A3 k c3)) = V := ⟨_, rfl⟩
  have sV : V.heap.size = w3.heap.size := by rw [← hV]; simp
  have kV : Below w.heap.size w V := by rw [← hV]; exact (K3.out.setCell (by simp; omega) _).setCell (by simp; omega) _
  have bV : V.heap[w.heap.size + 1]? = some (Obj.cells #[.int .i64 0, .slice none 0 0, .int .i64 0, .slice none 0 0] 26) := by rw [← hV, Below.heap_setCell _ _ _ _ (by simp), Below.heap_setCell _ _ _ _ (by simp)]; exact B1.out
  have o2V : V.ownsRow (w.heap.size + 1 + 1 + 1) 76 2 (.slice A2 n c2) n (pcells l) := by rw [← hV]; exact ownsRow_setCell_below (ownsRow_setCell_below Own2'.out (by simp) _) (by simp) _
  have o3V : V.ownsRow Y.heap.size 76 2 (.slice A3 k c3) k (pcells m) := by rw [← hV]; exact ownsRow_setCell_below (ownsRow_setCell_below Own3.out (by simp; omega) _) (by simp; omega) _
  rw [hV]
  clear hV x0 x1 x2 x3 y0 y1 y2 y3 z2 z3 u0 u1 u2 u3 K3 B1 Own2' Own3
  obtain ⟨Z, hZ⟩ : ∃ Z, ((((V.setCell ⟨w.heap.size + 1, 0, none⟩ (.int .i64 p)).setCell ⟨w.heap.size + 1, 1, none⟩ (.slice A2 n c2)).setCell ⟨w.heap.size + 1, 2, none⟩ (.int .i64 q)).setCell ⟨w.heap.size + 1, 3, none⟩ (.slice A3 k c3)) = Z := ⟨_, rfl⟩
  have sZ : Z.heap.size = V.heap.size := by rw [← hZ]; simp
  have kZ : Below w.heap.size w Z := by rw [← hZ]; exact (((kV.setCell (by simp) _).setCell (by simp) _).setCell (by simp) _).setCell (by simp) _
  have bZ : Z.heap[w.heap.size + 1]? = some (Obj.cells #[.int .i64 p, .slice A2 n c2, .int .i64 q, .slice A3 k c3] 26) := by rw [← hZ]; exact blk_set (blk_set (blk_set (blk_set bV 0 _) 1 _) 2 _) 3 _
  have o2Z : Z.ownsRow (w.heap.size + 1 + 1 + 1) 76 2 (.slice A2 n c2) n (pcells l) := by rw [← hZ]; exact ownsRow_setCell_below (ownsRow_setCell_below (ownsRow_setCell_below (ownsRow_setCell_below o2V (by simp) _) (by simp) _) (by simp) _) (by simp) _
  have o3Z : Z.ownsRow Y.heap.size 76 2 (.slice A3 k c3) k (pcells m) := by rw [← hZ]; exact ownsRow_setCell_below (ownsRow_setCell_below (ownsRow_setCell_below (ownsRow_setCell_below o3V (by simp; omega) _) (by simp; omega) _) (by simp; omega) _) (by simp; omega) _
  rw [hZ]
  clear hZ bV kV o2V o3V
  have f0 : Z.cell? ⟨w.heap.size + 1, 0, none⟩ = some (.int .i64 p) := by rw [cell_of_row _ _ _ _ _ _ bZ]; rfl
  have f1 : Z.cell? ⟨w.heap.size + 1, 1, none⟩ = some (.slice A2 n c2) := by rw [cell_of_row _ _ _ _ _ _ bZ]; rfl
  have f2 : Z.cell? ⟨w.heap.size + 1, 2, none⟩ = some (.int .i64 q) := by rw [cell_of_row _ _ _ _ _ _ bZ]; rfl
  have f3 : Z.cell? ⟨w.heap.size + 1, 3, none⟩ = some (.slice A3 k c3) := by rw [cell_of_row _ _ _ _ _ _ bZ]; rfl
  refine bodyPost_ret (v := deskV p q A2 A3 n k c2 c3) (by simp [results, Try.results18, go_sem, f0, f1, f2, f3]) rfl ?_
  exact ⟨A2, A3, c2, c3, rfl, CRead.of_own o2Z, CRead.of_own o3Z, kZ⟩
set_option maxHeartbeats 2000000 in
set_option maxRecDepth 100000 in
theorem eqDesk_same (p q : Int) (l m : PL) (A B A' B' : Option Addr) (c d c' d' : Nat) (w : World) (hl : l.length ≤ maxLen) (hm : m.length ≤ maxLen) (hA : CRead w w.heap.size A (pcells l)) (hB : CRead w w.heap.size B (pcells m)) (hA' : CRead w w.heap.size A' (pcells l)) (hB' : CRead w w.heap.size B' (pcells m)) :
    Calls Try.prog 13 #[deskV p q A B l.length m.length c d, deskV p q A' B' l.length m.length c' d'] w fun e w' => e = .returned (.bool true) ∧ Below w.heap.size w w' := by
  have tA := fun (Y : World) (hY : Below w.heap.size w Y) => eqParty_any p p l l A A' c c' Y hl hl ((hA.below hY (Nat.le_refl _)).more hY.size) ((hA'.below hY (Nat.le_refl _)).more hY.size)
  have tB := fun (Y : World) (hY : Below w.heap.size w Y) => eqParty_any q q m m B B' d d' Y hm hm ((hB.below hY (Nat.le_refl _)).more hY.size) ((hB'.below hY (Nat.le_refl _)).more hY.size)
  simp only [and_self, decide_true] at tA tB
  have TA := Lib.hid tA
  have TB := Lib.hid tB
  clear tA tB hA hB hA' hB'
  go_enter Try.func13, Try.ntmps13
  go_wp2_with fail
  refine (TA.out _ (by go_grown)).mono ?_
  rintro e w2 ⟨rfl, hb2⟩
  have s2 := hb2.size
  have a0 : w2.cell? ⟨w.heap.size, 2, none⟩ = some (.int .i64 q) := carry hb2 ((World.cell?_alloc_lt _ _ _ (by simp)).trans (by simp)) (by simp; omega)
  have a1 : w2.cell? ⟨w.heap.size, 3, none⟩ = some (.slice B m.length d) := carry hb2 ((World.cell?_alloc_lt _ _ _ (by simp)).trans (by simp)) (by simp; omega)
  have a2 : w2.cell? ⟨w.heap.size + 1, 2, none⟩ = some (.int .i64 q) := carry hb2 (by simp) (by simp)
  have a3 : w2.cell? ⟨w.heap.size + 1, 3, none⟩ = some (.slice B' m.length d') := carry hb2 (by simp) (by simp)
  simp only [World.size_alloc] at hb2 s2
  have k2 : Below w.heap.size w w2 := Below.trans (b := _) (by go_grown) (hb2.mono (by omega))
  clear hb2
  go_wp2_with fail
  refine (TB.out _ k2).mono ?_
  rintro e w3 ⟨rfl, hb3⟩
  have k3 := k2.trans (hb3.mono k2.size)
  clear a0 a1 a2 a3
  go_wp2
  go_ret
  exact ⟨rfl, k3⟩
set_option maxHeartbeats 2000000 in
set_option maxRecDepth 100000 in
theorem coGood_any (p q : Int) (l m : PL) (A B : Option Addr) (c d : Nat) (w : World) (hl : l.length ≤ 1048576) (hm : m.length ≤ 1048576) (hA : CRead w w.heap.size A (pcells l)) (hB : CRead w w.heap.size B (pcells m)) :
    Calls Try.prog 49 #[deskV p q A B l.length m.length c d] w fun e w' => e = .returned (.bool (resIsDesk p l q m)) ∧ Below w.heap.size w w' := by
  unfold resIsDesk
  cases hp : isP p l with
  | false =>
    have Hp := Lib.hid hp
    clear hp
    go_enter Try.func49, Try.ntmps49
    go_wp2_with fail
    refine (paGood_any p l A c _ hl ((hA.below (B' := w.heap.size) (by go_grown) (Nat.le_refl _)).more (by go_size))).mono ?_
    rw [Hp.out]
    rintro e w2 ⟨rfl, hb2⟩
    simp only [World.size_alloc] at hb2
    go_wp2
    go_ret
    exact ⟨rfl, Below.trans (b := _) (by go_grown) (hb2.mono (by omega))⟩
  | true =>
    have Hp := Lib.hid hp
    clear hp
    go_enter Try.func49, Try.ntmps49
    go_wp2_with fail
    refine (paGood_any p l A c _ hl ((hA.below (B' := w.heap.size) (by go_grown) (Nat.le_refl _)).more (by go_size))).mono ?_
    rw [Hp.out]
    rintro e w2 ⟨rfl, hb2⟩
    have s2 := hb2.size
    have a0 : w2.cell? ⟨w.heap.size, 2, none⟩ = some (.int .i64 q) := carry hb2 (by simp) (by simp)
    have a1 : w2.cell? ⟨w.heap.size, 3, none⟩ = some (.slice B m.length d) := carry hb2 (by simp) (by simp)
    simp only [World.size_alloc] at hb2 s2
    have k2 : Below w.heap.size w w2 := Below.trans (b := _) (by go_grown) (hb2.mono (by omega))
    go_wp2_with fail
    refine (paGood_any q m B d _ hm ((hB.below k2 (Nat.le_refl _)).more k2.size)).mono ?_
    rintro e w3 ⟨rfl, hb3⟩
    have k3 := k2.trans (hb3.mono k2.size)
    clear a0 a1
    go_wp2
    go_ret
    exact ⟨rfl, k3⟩
set_option maxHeartbeats 2000000 in
set_option maxRecDepth 100000 in
theorem specIsDesk_any (p q : Int) (l m : PL) (A B : Option Addr) (c d : Nat) (w : World) (hl : l.length ≤ 1048576) (hm : m.length ≤ 1048576) (hA : CRead w w.heap.size A (pcells l)) (hB : CRead w w.heap.size B (pcells m)) :
    Calls Try.prog 17 #[deskV p q A B l.length m.length c d] w fun e w' => e = .returned (.bool (resIsDesk p l q m)) ∧ Below w.heap.size w w' := by
  go_enter Try.func17, Try.ntmps17
  go_wp2_with fail
  refine (coGood_any p q l m A B c d _ hl hm ((hA.below (B' := w.heap.size) (by go_grown) (Nat.le_refl _)).more (by go_size)) ((hB.below (B' := w.heap.size) (by go_grown) (Nat.le_refl _)).more (by go_size))).mono ?_
  rintro e w2 ⟨rfl, hb2⟩
  simp only [World.size_alloc] at hb2
  go_wp2
  go_ret
  exact ⟨rfl, Below.trans (b := _) (by go_grown) (hb2.mono (by omega))⟩
set_option maxHeartbeats 2000000 in
set_option maxRecDepth 100000 in
theorem implIsDesk_any (p q : Int) (l m : PL) (A B : Option Addr) (c d : Nat) (w : World) (hl : l.length ≤ 1048576) (hm : m.length ≤ 1048576) (hA : CRead w w.heap.size A (pcells l)) (hB : CRead w w.heap.size B (pcells m)) :
    Calls Try.prog 19 #[deskV p q A B l.length m.length c d] w fun e w' => e = .returned (.bool (resIsDesk p l q m)) ∧ Below w.heap.size w w' := by
  unfold resIsDesk
  cases hp : isP p l with
  | false =>
    have Hp := Lib.hid hp
    clear hp
    go_enter Try.func19, Try.ntmps19
    go_wp2_with fail
    refine (isParty_any p l A c _ hl ((hA.below (B' := w.heap.size) (by go_grown) (Nat.le_refl _)).more (by go_size))).mono ?_
    rw [Hp.out]
    rintro e w2 ⟨rfl, hb2⟩
    simp only [World.size_alloc] at hb2
    go_wp2
    go_ret
    exact ⟨rfl, Below.trans (b := _) (by go_grown) (hb2.mono (by omega))⟩
  | true =>
    have Hp := Lib.hid hp
    clear hp
    go_enter Try.func19, Try.ntmps19
    go_wp2_with fail
    refine (isParty_any p l A c _ hl ((hA.below (B' := w.heap.size) (by go_grown) (Nat.le_refl _)).more (by go_size))).mono ?_
    rw [Hp.out]
    rintro e w2 ⟨rfl, hb2⟩
    have s2 := hb2.size
    have a0 : w2.cell? ⟨w.heap.size, 2, none⟩ = some (.int .i64 q) := carry hb2 (by simp) (by simp)
    have a1 : w2.cell? ⟨w.heap.size, 3, none⟩ = some (.slice B m.length d) := carry hb2 (by simp) (by simp)
    simp only [World.size_alloc] at hb2 s2
    have k2 : Below w.heap.size w w2 := Below.trans (b := _) (by go_grown) (hb2.mono (by omega))
    go_wp2_with fail
    refine (isParty_any q m B d _ hm ((hB.below k2 (Nat.le_refl _)).more k2.size)).mono ?_
    rintro e w3 ⟨rfl, hb3⟩
    have k3 := k2.trans (hb3.mono k2.size)
    clear a0 a1
    go_wp2
    go_ret
    exact ⟨rfl, k3⟩
end Go.Proofs.Ytkiobefojckocaa
/-
  THE FIRST DESK: the model's and the program's; the laws' own marks at desks, by their contracts.
-/
namespace Go.Proofs.Ytkiobefojckocaa
open Go.RowKit

/-- the two rows of a desk, each in a block of its own -/
structure DeskOwn (w : World) (ga gb n m c d : Nat) (xs ys : PL) : Prop where
  a : w.ownsRow ga 76 2 (.slice (some ⟨ga, 0, none⟩) n c) n (pcells xs)
  b : w.ownsRow gb 76 2 (.slice (some ⟨gb, 0, none⟩) m d) m (pcells ys)
theorem DeskOwn.below {w w' : World} {ga gb n m c d : Nat} {xs ys : PL} (h : DeskOwn w ga gb n m c d xs ys) (hb : Below w.heap.size w w') : DeskOwn w' ga gb n m c d xs ys :=
  ⟨own_below h.a hb (Nat.le_refl _), own_below h.b hb (Nat.le_refl _)⟩
theorem DeskOwn.lt {w : World} {ga gb n m c d : Nat} {xs ys : PL} (h : DeskOwn w ga gb n m c d xs ys) : ga < w.heap.size ∧ gb < w.heap.size := ⟨(own_lies h.a ga rfl).2, (own_lies h.b gb rfl).2⟩
/-- what marking touches -/
structure Only2 (ga gb : Nat) (w w' : World) : Prop where
  size : w.heap.size ≤ w'.heap.size
  block : ∀ j, j < w.heap.size → j ≠ ga → j ≠ gb → w'.heap[j]? = w.heap[j]?
  os : w'.os = w.os
  tape : w'.tape = w.tape
  output : w'.output = w.output
theorem own_blk {w w' : World} {B g : Nat} {e : TypeId} {size n c : Nat} {xs : List Value} (h : w.ownsRow B e size (.slice (some ⟨g, 0, none⟩) n c) n xs) (hb : w'.heap[g]? = w.heap[g]?) : w'.ownsRow B e size (.slice (some ⟨g, 0, none⟩) n c) n xs := by
  refine ⟨h.1, ?_⟩
  rcases h.2 with ⟨hv, _⟩ | ⟨g', cap, cur, hv, hb', hg, rest⟩
  · cases hv
  · have e : g = g' := by simpa using congrArg (fun v => match v with | .slice (some a) _ _ => a.block | _ => 0) hv
    subst e
    exact .inr ⟨g, cap, cur, hv, hb', hb.trans hg, rest⟩
def FD5 : PL := [(0, 1), (0, 4), (1, 2), (2, 3), (3, 4)]
def FD1 : PL := [(0, 1)]
/-- A call came back with the first desk, its rows in memory of its own. -/
def GotFirst (w : World) (e : Ending) (w' : World) : Prop :=
  ∃ ga gb, e = .returned (deskV 5 2 (some ⟨ga, 0, none⟩) (some ⟨gb, 0, none⟩) 5 1 5 1) ∧ DeskOwn w' ga gb 5 1 5 1 FD5 FD1 ∧ w.heap.size ≤ ga ∧ ga < gb ∧ Below w.heap.size w w'
theorem own_new {w : World} {g : Nat} {e : TypeId} {n size : Nat} {cs : Array Value} (h : w.heap[g]? = some (.cells cs e (0, 0))) (hs : cs.size = n * size) (hm : n ≤ maxLen) : w.ownsRow g e size (.slice (some ⟨g, 0, none⟩) n n) n cs.toList :=
  ⟨by simpa using hs, .inr ⟨g, n, cs, rfl, Nat.le_refl _, h, Nat.le_refl _, hm, hs, by rw [List.take_of_length_le]; simp [hs]⟩⟩

theorem allocs3 (w : World) (a b c : Array Value) (s t u : TypeId) : ∃ Z, ((w.alloc (.cells a s)).alloc (.cells b t)).alloc (.cells c u) = Z ∧ Z.heap[w.heap.size]? = some (.cells a s (0, 0)) ∧ Z.heap[w.heap.size + 1]? = some (.cells b t (0, 0)) ∧ Z.heap[w.heap.size + 1 + 1]? = some (.cells c u (0, 0)) ∧ Below w.heap.size w Z := by
  have h0 := heap_alloc_new w (.cells a s)
  have h1 := heap_alloc_new (w.alloc (.cells a s)) (.cells b t)
  have h2 := heap_alloc_new ((w.alloc (.cells a s)).alloc (.cells b t)) (.cells c u)
  simp only [World.size_alloc] at h1 h2
  refine ⟨_, rfl, ?_, ?_, h2, by go_grown⟩
  · rw [alloc_lt _ _ _ (by simp; omega), alloc_lt _ _ _ (by simp)]; exact h0
  · rw [alloc_lt _ _ _ (by simp)]; exact h1
theorem allocs4 (w : World) (a b c d : Array Value) (s t u v : TypeId) : ∃ Z, (((w.alloc (.cells a s)).alloc (.cells b t)).alloc (.cells c u)).alloc (.cells d v) = Z ∧ Z.heap[w.heap.size]? = some (.cells a s (0, 0)) ∧ Z.heap[w.heap.size + 1]? = some (.cells b t (0, 0)) ∧ Z.heap[w.heap.size + 1 + 1 + 1]? = some (.cells d v (0, 0)) ∧ Below w.heap.size w Z := by
  obtain ⟨Y, hY, h0, h1, h2, hb⟩ := allocs3 w a b c s t u
  have hs : Y.heap.size = w.heap.size + 1 + 1 + 1 := by rw [← hY]; simp
  have h3 := heap_alloc_new Y (.cells d v)
  rw [hs] at h3
  rw [hY]
  refine ⟨_, rfl, ?_, ?_, h3, hb.alloc hb.size _⟩
  · rw [alloc_lt _ _ _ (by omega)]; exact h0
  · rw [alloc_lt _ _ _ (by omega)]; exact h1
set_option maxHeartbeats 4000000 in
set_option maxRecDepth 100000 in
theorem implFirstDesk_any (w : World) : Calls Try.prog 12 #[] w (GotFirst w) := by
  go_enter Try.func12, Try.ntmps12
  go_wp2
  obtain ⟨Z, hZ, h0, h1, h2, kZ⟩ := allocs3 w #[.int .i64 5, .slice (some ⟨w.heap.size + 1, 0, none⟩) 5 5, .int .i64 2, .slice (some ⟨w.heap.size + 1 + 1, 0, none⟩) 1 1] #[.int .i64 0, .int .i64 1, .int .i64 0, .int .i64 4, .int .i64 1, .int .i64 2, .int .i64 2, .int .i64 3, .int .i64 3, .int .i64 4] #[.int .i64 0, .int .i64 1] 26 76 76
  rw [hZ]
  clear hZ
  have c0 : Z.cell? ⟨w.heap.size, 0, none⟩ = some (.int .i64 5) := by rw [cell_of_row _ _ _ _ _ _ h0]; rfl
  have c1 : Z.cell? ⟨w.heap.size, 1, none⟩ = some (.slice (some ⟨w.heap.size + 1, 0, none⟩) 5 5) := by rw [cell_of_row _ _ _ _ _ _ h0]; rfl
  have c2 : Z.cell? ⟨w.heap.size, 2, none⟩ = some (.int .i64 2) := by rw [cell_of_row _ _ _ _ _ _ h0]; rfl
  have c3 : Z.cell? ⟨w.heap.size, 3, none⟩ = some (.slice (some ⟨w.heap.size + 1 + 1, 0, none⟩) 1 1) := by rw [cell_of_row _ _ _ _ _ _ h0]; rfl
  refine bodyPost_ret (v := deskV 5 2 (some ⟨w.heap.size + 1, 0, none⟩) (some ⟨w.heap.size + 1 + 1, 0, none⟩) 5 1 5 1) (by simp [results, Try.results12, go_sem, c0, c1, c2, c3]) rfl ?_
  exact ⟨w.heap.size + 1, w.heap.size + 1 + 1, rfl, ⟨own_new h1 rfl (by decide), own_new h2 rfl (by decide)⟩, by omega, by omega, kZ⟩
set_option maxHeartbeats 4000000 in
set_option maxRecDepth 100000 in
theorem specFirstDesk_any (w : World) : Calls Try.prog 11 #[] w (GotFirst w) := by
  go_enter Try.func11, Try.ntmps11
  go_wp2
  obtain ⟨Z, hZ, h0, h1, h2, kZ⟩ := allocs4 w #[.int .i64 5, .slice (some ⟨w.heap.size + 1, 0, none⟩) 5 5, .int .i64 2, .slice (some ⟨w.heap.size + 1 + 1 + 1, 0, none⟩) 1 1] #[.int .i64 0, .int .i64 1, .int .i64 0, .int .i64 4, .int .i64 1, .int .i64 2, .int .i64 2, .int .i64 3, .int .i64 3, .int .i64 4] #[.int .i64 5, .slice (some ⟨w.heap.size + 1, 0, none⟩) 5 5] #[.int .i64 0, .int .i64 1] 26 76 24 76
  rw [hZ]
  clear hZ
  have c0 : Z.cell? ⟨w.heap.size, 0, none⟩ = some (.int .i64 5) := by rw [cell_of_row _ _ _ _ _ _ h0]; rfl
  have c1 : Z.cell? ⟨w.heap.size, 1, none⟩ = some (.slice (some ⟨w.heap.size + 1, 0, none⟩) 5 5) := by rw [cell_of_row _ _ _ _ _ _ h0]; rfl
  have c2 : Z.cell? ⟨w.heap.size, 2, none⟩ = some (.int .i64 2) := by rw [cell_of_row _ _ _ _ _ _ h0]; rfl
  have c3 : Z.cell? ⟨w.heap.size, 3, none⟩ = some (.slice (some ⟨w.heap.size + 1 + 1 + 1, 0, none⟩) 1 1) := by rw [cell_of_row _ _ _ _ _ _ h0]; rfl
  refine bodyPost_ret (v := deskV 5 2 (some ⟨w.heap.size + 1, 0, none⟩) (some ⟨w.heap.size + 1 + 1 + 1, 0, none⟩) 5 1 5 1) (by simp [results, Try.results11, go_sem, c0, c1, c2, c3]) rfl ?_
  exact ⟨w.heap.size + 1, w.heap.size + 1 + 1 + 1, rfl, ⟨own_new h1 rfl (by decide), own_new h2 rfl (by decide)⟩, by omega, by omega, kZ⟩
set_option maxHeartbeats 4000000 in
set_option maxRecDepth 100000 in
theorem markDesk_any (p q k0 : Int) (ga gb n m c d : Nat) (l l' : PL) (w : World) (hl : l.length = n) (hl' : l'.length = m) (hn : n ≤ 100000) (hm : m ≤ 100000) (hk0 : 0 ≤ k0 ∧ k0 ≤ 1000000) (hne : ga ≠ gb) (h : DeskOwn w ga gb n m c d l l') :
    Calls Try.prog 14 #[deskV p q (some ⟨ga, 0, none⟩) (some ⟨gb, 0, none⟩) n m c d, .int .i64 k0] w fun e w' =>
      e = .returned (.int .i64 (k0 + 2 * n + 2 * m)) ∧ DeskOwn w' ga gb n m c d (marks k0 n) (marks (k0 + 2 * n) m) ∧ Only2 ga gb w w' := by
  have lts := h.lt
  go_enter Try.func14, Try.ntmps14
  go_wp2_with fail
  refine (markParty_any p l _ n c k0 ga _ hl (by omega) (by omega) (h.a.alloc _)).mono ?_
  rintro e w2 ⟨rfl, own2, gr2⟩
  have s2 := gr2.size
  simp only [World.size_alloc] at s2
  have bx := (gr2.block w.heap.size (by simp) (by simp [Value.ownBlock]; omega)).trans (heap_alloc_new w _)
  have c2 : w2.cell? ⟨w.heap.size, 2, none⟩ = some (.int .i64 q) := by rw [cell_of_row _ _ _ _ _ _ bx]; rfl
  have c3 : w2.cell? ⟨w.heap.size, 3, none⟩ = some (.slice (some ⟨gb, 0, none⟩) m d) := by rw [cell_of_row _ _ _ _ _ _ bx]; rfl
  have ownb : w2.ownsRow gb 76 2 (.slice (some ⟨gb, 0, none⟩) m d) m (pcells l') := own_blk (h.b.alloc _) (gr2.block gb (by simp; omega) (by simp [Value.ownBlock]; omega))
  clear bx
  go_wp2_with fail
  refine (markParty_any q l' _ m d (k0 + 2 * n) gb w2 hl' (by omega) (by omega) ownb).mono ?_
  rintro e w3 ⟨rfl, own3, gr3⟩
  have owna : w3.ownsRow ga 76 2 (.slice (some ⟨ga, 0, none⟩) n c) n (pcells (marks k0 n)) := own_blk own2 (gr3.block ga (by omega) (by simp [Value.ownBlock]; omega))
  have s3 := gr3.size
  clear c2 c3
  go_wp2
  go_ret
  refine ⟨rfl, ⟨owna, own3⟩, ⟨by omega, fun j hj h1 h2 => ?_, ?_, ?_, ?_⟩⟩
  · exact ((gr3.block j (by omega) (by simp [Value.ownBlock]; omega)).trans (gr2.block j (by simp; omega) (by simp [Value.ownBlock]; omega))).trans (alloc_lt _ _ _ hj)
  · exact gr3.os.trans gr2.os
  · exact gr3.tape.trans gr2.tape
  · exact gr3.output.trans gr2.output
set_option maxHeartbeats 4000000 in
set_option maxRecDepth 100000 in
theorem heldDesk_any (p q k0 : Int) (ga gb n m c d : Nat) (w : World) (hn : n ≤ 100000) (hm : m ≤ 100000) (hk0 : 0 ≤ k0 ∧ k0 ≤ 1000000) (h : DeskOwn w ga gb n m c d (marks k0 n) (marks (k0 + 2 * n) m)) :
    Calls Try.prog 15 #[deskV p q (some ⟨ga, 0, none⟩) (some ⟨gb, 0, none⟩) n m c d, .int .i64 k0] w fun e w' => e = .returned (.int .i64 (k0 + 2 * n + 2 * m)) ∧ Below w.heap.size w w' := by
  have rA := CRead.of_own h.a
  have rB := CRead.of_own h.b
  have hk1 : ¬ (k0 + 2 * (n : Int) < 0) := by omega
  have hk2 : ¬ (k0 + 2 * (n : Int) + 2 * (m : Int) < 0) := by omega
  clear h
  go_enter Try.func15, Try.ntmps15
  go_wp2_with fail
  refine (heldParty_any p _ n c k0 _ (by omega) (by omega) ((rA.below (B' := w.heap.size) (by go_grown) (Nat.le_refl _)).more (by go_size))).mono ?_
  rintro e w2 ⟨rfl, hb2⟩
  have s2 := hb2.size
  have c2 : w2.cell? ⟨w.heap.size, 2, none⟩ = some (.int .i64 q) := carry hb2 (by simp) (by simp)
  have c3 : w2.cell? ⟨w.heap.size, 3, none⟩ = some (.slice (some ⟨gb, 0, none⟩) m d) := carry hb2 (by simp) (by simp)
  simp only [World.size_alloc] at hb2 s2
  have k2 : Below w.heap.size w w2 := Below.trans (b := _) (by go_grown) (hb2.mono (by omega))
  clear hb2
  go_wp2_with fail
  refine (heldParty_any q _ m d (k0 + 2 * n) w2 (by omega) (by omega) ((rB.below k2 (Nat.le_refl _)).more k2.size)).mono ?_
  rintro e w3 ⟨rfl, hb3⟩
  have k3 := k2.trans (hb3.mono k2.size)
  clear c2 c3
  go_wp2
  go_ret
  exact ⟨rfl, k3⟩
end Go.Proofs.Ytkiobefojckocaa
/-
  'laws.FnExactFirstDesk' returns true.
-/
namespace Go.Proofs.Ytkiobefojckocaa
open Go.RowKit

/-- the cells of a desk's box -/
structure DeskBox (w : World) (b ga gb : Nat) : Prop where
  x0 : w.cell? ⟨b, 0, none⟩ = some (.int .i64 5)
  x1 : w.cell? ⟨b, 1, none⟩ = some (.slice (some ⟨ga, 0, none⟩) 5 5)
  x2 : w.cell? ⟨b, 2, none⟩ = some (.int .i64 2)
  x3 : w.cell? ⟨b, 3, none⟩ = some (.slice (some ⟨gb, 0, none⟩) 1 1)
theorem DeskBox.carry {w w' : World} {b ga gb : Nat} (h : DeskBox w b ga gb) (hb : Below w.heap.size w w') (hlt : b < w.heap.size) : DeskBox w' b ga gb :=
  ⟨Proofs.Ytkiobefojckocaa.carry hb h.x0 hlt, Proofs.Ytkiobefojckocaa.carry hb h.x1 hlt, Proofs.Ytkiobefojckocaa.carry hb h.x2 hlt, Proofs.Ytkiobefojckocaa.carry hb h.x3 hlt⟩
theorem DeskBox.only {w w' : World} {b ga gb xa xb : Nat} (h : DeskBox w b ga gb) (ho : Only2 xa xb w w') (hlt : b < w.heap.size) (h1 : b ≠ xa) (h2 : b ≠ xb) : DeskBox w' b ga gb := by
  have e := ho.block b hlt h1 h2
  exact ⟨(World.cell?_of_block (a := ⟨b, 0, none⟩) e).trans h.x0, (World.cell?_of_block (a := ⟨b, 1, none⟩) e).trans h.x1, (World.cell?_of_block (a := ⟨b, 2, none⟩) e).trans h.x2, (World.cell?_of_block (a := ⟨b, 3, none⟩) e).trans h.x3⟩
theorem DeskOwn.only {w w' : World} {ga gb n m c d xa xb : Nat} {xs ys : PL} (h : DeskOwn w ga gb n m c d xs ys) (ho : Only2 xa xb w w') (h1 : ga ≠ xa) (h2 : ga ≠ xb) (h3 : gb ≠ xa) (h4 : gb ≠ xb) : DeskOwn w' ga gb n m c d xs ys :=
  ⟨own_blk h.a (ho.block ga h.lt.1 h1 h2), own_blk h.b (ho.block gb h.lt.2 h3 h4)⟩
theorem Only2.below {w w' : World} {ga gb B : Nat} (h : Only2 ga gb w w') (hB : B ≤ w.heap.size) (h1 : B ≤ ga) (h2 : B ≤ gb) : Below B w w' :=
  ⟨h.os, h.tape, h.output, h.size, fun j hj => h.block j (by omega) (by omega) (by omega)⟩
theorem deskBox_new (w : World) (ga gb : Nat) (T : TypeId) {X : World} (hX : w.alloc (Obj.cells #[.int .i64 5, .slice (some ⟨ga, 0, none⟩) 5 5, .int .i64 2, .slice (some ⟨gb, 0, none⟩) 1 1] T) = X) : DeskBox X w.heap.size ga gb ∧ Below w.heap.size w X ∧ X.heap.size = w.heap.size + 1 := by
  subst hX
  exact ⟨⟨by simp, by simp, by simp, by simp⟩, by go_grown, by simp⟩

set_option maxHeartbeats 4000000 in
set_option maxRecDepth 100000 in
theorem lawFirstDesk_any (W : World) : Calls Try.prog 3 #[] W fun e w' => e = .returned (.bool true) ∧ Below W.heap.size W w' := by
  have eqd := fun (ga gb xa xb : Nat) (Y : World) (h1 : DeskOwn Y ga gb 5 1 5 1 FD5 FD1) (h2 : DeskOwn Y xa xb 5 1 5 1 FD5 FD1) =>
    eqDesk_same 5 2 FD5 FD1 (some ⟨ga, 0, none⟩) (some ⟨gb, 0, none⟩) (some ⟨xa, 0, none⟩) (some ⟨xb, 0, none⟩) 5 1 5 1 Y (by decide) (by decide) (CRead.of_own h1.a) (CRead.of_own h1.b) (CRead.of_own h2.a) (CRead.of_own h2.b)
  change ∀ ga gb xa xb Y, _ → _ → Calls Try.prog 13 #[deskV 5 2 (some ⟨ga, 0, none⟩) (some ⟨gb, 0, none⟩) 5 1 5 1, deskV 5 2 (some ⟨xa, 0, none⟩) (some ⟨xb, 0, none⟩) 5 1 5 1] Y _ at eqd
  have Eqd := Lib.hid eqd
  clear eqd
  go_enter Try.func3, Try.ntmps3
  go_wp2_with fail
  refine (specFirstDesk_any _).mono ?_
  rintro e w1 ⟨ga, gb, rfl, own1, hlo1, hab1, kb1⟩
  have s1 := kb1.size
  have k1 : Below W.heap.size W w1 := kb1
  have lt1 := own1.lt
  clear kb1
  go_wp2_with fail
  obtain ⟨X1, hX1⟩ : ∃ X, w1.alloc (Obj.cells #[.int .i64 5, .slice (some ⟨ga, 0, none⟩) 5 5, .int .i64 2, .slice (some ⟨gb, 0, none⟩) 1 1] 26) = X := ⟨_, rfl⟩
  obtain ⟨bx1, gX1, sX1⟩ := deskBox_new w1 ga gb _ hX1
  rw [hX1]
  clear hX1
  have ownX1 := own1.below gX1
  have kX1 := k1.trans (gX1.mono k1.size)
  clear own1
  refine (implFirstDesk_any X1).mono ?_
  rintro e w2 ⟨ha, hb, rfl, own2, hlo2, hab2, kb2⟩
  have s2 := kb2.size
  have k2 := kX1.trans (kb2.mono kX1.size)
  have lt2 := own2.lt
  have ownA := ownX1.below kb2
  have bx2 := bx1.carry kb2 (by omega)
  clear kb2 ownX1 bx1
  obtain ⟨X2, hX2⟩ : ∃ X, w2.alloc (Obj.cells #[.int .i64 5, .slice (some ⟨ha, 0, none⟩) 5 5, .int .i64 2, .slice (some ⟨hb, 0, none⟩) 1 1] 26) = X := ⟨_, rfl⟩
  obtain ⟨by3, gX2, sX2⟩ := deskBox_new w2 ha hb _ hX2
  have ownB := own2.below gX2
  have ownA2 := ownA.below gX2
  have bx3 := bx2.carry gX2 (by omega)
  have k3 := k2.trans (gX2.mono k2.size)
  have t := bx3
  rw [← hX2] at t
  obtain ⟨t0, t1, t2, t3⟩ := t
  clear own2 ownA bx2 gX2
  have Ex := Lib.hid hX2
  clear hX2
  go_wp2_with fail
  rw [Ex.out]
  clear Ex t0 t1 t2 t3
  refine (Eqd.out ha hb ga gb X2 ownB ownA2).mono ?_
  rintro e w4 ⟨rfl, kb4⟩
  have s4 := kb4.size
  have bx4 := bx3.carry kb4 (by omega)
  have by4 := by3.carry kb4 (by omega)
  have ownA4 := ownA2.below kb4
  have ownB4 := ownB.below kb4
  have k4 := k3.trans (kb4.mono k3.size)
  clear bx3 by3 ownA2 ownB kb4
  obtain ⟨u0, u1, u2, u3⟩ := id by4
  have mk := markDesk_any 5 2 1 ha hb 5 1 5 1 FD5 FD1 w4 rfl rfl (by decide) (by decide) (by decide) (by omega) ownB4
  rw [show (1 : Int) + 2 * ((5 : Nat) : Int) + 2 * ((1 : Nat) : Int) = 13 from rfl] at mk
  have Mk := Lib.hid mk
  clear mk
  go_wp2_with fail
  refine Mk.out.mono ?_
  rintro e w5 ⟨rfl, ownM, only5⟩
  have s5 := only5.size
  have bx5 := bx4.only only5 (by omega) (by omega) (by omega)
  have by5 := by4.only only5 (by omega) (by omega) (by omega)
  have ownA5 := ownA4.only only5 (by omega) (by omega) (by omega) (by omega)
  have k5 := k4.trans (only5.below (B := W.heap.size) (by omega) (by omega) (by omega))
  clear u0 u1 u2 u3 bx4 by4 ownA4 ownB4 Mk only5
  obtain ⟨u0, u1, u2, u3⟩ := id by5
  have hd := heldDesk_any 5 2 1 ha hb 5 1 5 1 w5 (by decide) (by decide) (by decide) ownM
  rw [show (1 : Int) + 2 * ((5 : Nat) : Int) + 2 * ((1 : Nat) : Int) = 13 from rfl] at hd
  have Hd := Lib.hid hd
  clear hd
  go_wp2_with fail
  refine Hd.out.mono ?_
  rintro e w6 ⟨rfl, kb6⟩
  have s6 := kb6.size
  have bx6 := bx5.carry kb6 (by omega)
  have by6 := by5.carry kb6 (by omega)
  have ownA6 := ownA5.below kb6
  have ownM6 := ownM.below kb6
  have k6 := k5.trans (kb6.mono k5.size)
  clear u0 u1 u2 u3 bx5 by5 ownA5 ownM Hd kb6
  go_wp2_with fail
  refine (implFirstDesk_any w6).mono ?_
  rintro e w7 ⟨ia, ib, rfl, own7, hlo7, hab7, kb7⟩
  have s7 := kb7.size
  have k7 := k6.trans (kb7.mono k6.size)
  have ownA7 := ownA6.below kb7
  have ownM7 := ownM6.below kb7
  have bx7 := bx6.carry kb7 (by omega)
  have by7 := by6.carry kb7 (by omega)
  clear kb7 ownA6 ownM6 bx6 by6
  obtain ⟨X3, hX3⟩ : ∃ X, w7.alloc (Obj.cells #[.int .i64 5, .slice (some ⟨ia, 0, none⟩) 5 5, .int .i64 2, .slice (some ⟨ib, 0, none⟩) 1 1] 26) = X := ⟨_, rfl⟩
  obtain ⟨bz8, gX3, sX3⟩ := deskBox_new w7 ia ib _ hX3
  have ownC := own7.below gX3
  have ownA8 := ownA7.below gX3
  have ownM8 := ownM7.below gX3
  have bx8 := bx7.carry gX3 (by omega)
  have by8 := by7.carry gX3 (by omega)
  have k8 := k7.trans (gX3.mono k7.size)
  have t := bx8
  rw [← hX3] at t
  obtain ⟨t0, t1, t2, t3⟩ := t
  clear own7 ownA7 ownM7 bx7 by7 gX3
  have Ex := Lib.hid hX3
  clear hX3
  go_wp2_with fail
  rw [Ex.out]
  clear Ex t0 t1 t2 t3
  refine (Eqd.out ia ib ga gb X3 ownC ownA8).mono ?_
  rintro e w9 ⟨rfl, kb9⟩
  have s9 := kb9.size
  have by9 := by8.carry kb9 (by omega)
  have ownM9 := ownM8.below kb9
  have k9 := k8.trans (kb9.mono k8.size)
  clear bx8 by8 ownA8 ownM8 ownC kb9 bz8
  obtain ⟨u0, u1, u2, u3⟩ := id by9
  have hd := heldDesk_any 5 2 1 ha hb 5 1 5 1 w9 (by decide) (by decide) (by decide) ownM9
  rw [show (1 : Int) + 2 * ((5 : Nat) : Int) + 2 * ((1 : Nat) : Int) = 13 from rfl] at hd
  have Hd := Lib.hid hd
  clear hd
  go_wp2_with fail
  refine Hd.out.mono ?_
  rintro e w10 ⟨rfl, kb10⟩
  have k10 := k9.trans (kb10.mono k9.size)
  clear u0 u1 u2 u3 by9 Hd kb10
  go_wp2
  go_ret
  exact ⟨rfl, k10⟩
end Go.Proofs.Ytkiobefojckocaa
/-
  THE PROGRAM's HEAD, LOOKED AT ONCE: which make it is, and that a call may enter it. (The head's text is long: the kernel must not read it twice.)
-/
namespace Go.Proofs.Ytkiobefojckocaa

theorem make_of {P : Program} {rest : List (List Char)} (h : behindMainWord (wordsSigns P.initOrder.toList) = "cut".toList :: rest) : P.make = some .cut := by
  unfold Program.make
  rw [h]
  rfl
theorem strip_cut (rest : List (List Char)) : stripLifts liftWords ("cut".toList :: rest) = ([], "cut".toList :: rest) := rfl
theorem lifts_of {P : Program} {rest : List (List Char)} (h : behindMainWord (wordsSigns P.initOrder.toList) = "cut".toList :: rest) : P.headLifts = [] := by
  unfold Program.headLifts
  rw [h, strip_cut]
  rfl
theorem final_of {P : Program} {rest : List (List Char)} (h : behindMainWord (wordsSigns P.initOrder.toList) = "cut".toList :: rest) : P.liftsFinal = false := by
  unfold Program.liftsFinal
  rw [lifts_of h, h]
  rfl
theorem enter_of {P : Program} {rest : List (List Char)} (h : behindMainWord (wordsSigns P.initOrder.toList) = "cut".toList :: rest) (h1 : P.laysLater = false) (h2 : P.bearsReflect = false) (h3 : P.doorFits [] = true) : P.mayEnter = true := by
  unfold Program.mayEnter
  rw [h]
  show (_ || _ || _) = true
  rw [strip_cut, h1, h2, h3]
  rfl
end Go.Proofs.Ytkiobefojckocaa
/-
  THE PROGRAM's CLOSED FACTS, EACH ONCE; and how a row's facts are put together out of them.
-/
namespace Go.Proofs.Ytkiobefojckocaa
open Go.ChangeShapes Go.WideShapes Go.ChangeAt Go.RowKit

def headSigns : List Char := ([104, 97, 114, 110, 101, 115, 115, 32, 55, 55, 98, 50, 49, 52, 56, 50, 98, 102, 57, 50, 50, 55, 97, 102, 53, 54, 99, 54, 48, 57, 53, 50, 57, 48, 53, 97, 55, 54, 51, 54, 98, 97, 57, 56, 52, 52, 54, 53, 51, 50, 56, 98, 52, 57, 51, 52, 98, 50, 99, 55, 57, 49, 100, 101, 98, 51, 99, 53, 49, 56, 98, 50, 32, 99, 117, 116, 32, 97, 116, 32, 108, 111, 111, 112, 46, 101, 120, 97, 109, 112, 108, 101, 47, 103, 48, 49, 50, 53, 55, 47, 108, 97, 119, 115, 46, 70, 110, 69, 120, 97, 99, 116, 70, 105, 114, 115, 116, 68, 101, 115, 107, 32, 108, 111, 111, 112, 46, 101, 120, 97, 109, 112, 108, 101, 47, 103, 48, 49, 50, 53, 55, 47, 108, 97, 119, 115, 46, 70, 110, 69, 120, 97, 99, 116, 73, 115, 68, 101, 115, 107, 32, 108, 111, 111, 112, 46, 101, 120, 97, 109, 112, 108, 101, 47, 103, 48, 49, 50, 53, 55, 47, 108, 97, 119, 115, 46, 70, 110, 69, 120, 97, 99, 116, 70, 105, 114, 115, 116, 80, 97, 105, 114, 105, 110, 103, 32, 108, 111, 111, 112, 46, 101, 120, 97, 109, 112, 108, 101, 47, 103, 48, 49, 50, 53, 55, 47, 108, 97, 119, 115, 46, 70, 110, 69, 120, 97, 99, 116, 77, 111, 115, 116, 73, 110, 80, 97, 105, 114, 115, 32, 108, 111, 111, 112, 46, 101, 120, 97, 109, 112, 108, 101, 47, 103, 48, 49, 50, 53, 55, 47, 108, 97, 119, 115, 46, 70, 110, 69, 120, 97, 99, 116, 68, 114, 111, 112, 67, 108, 117, 101, 32, 108, 111, 111, 112, 46, 101, 120, 97, 109, 112, 108, 101, 47, 103, 48, 49, 50, 53, 55, 47, 108, 97, 119, 115, 46, 70, 110, 69, 120, 97, 99, 116, 65, 100, 100, 67, 108, 117, 101, 32, 108, 111, 111, 112, 46, 101, 120, 97, 109, 112, 108, 101, 47, 103, 48, 49, 50, 53, 55, 47, 108, 97, 119, 115, 46, 70, 110, 69, 120, 97, 99, 116, 70, 101, 119, 101, 115, 116, 67, 111, 108, 111, 117, 114, 115, 32, 108, 111, 111, 112, 46, 101, 120, 97, 109, 112, 108, 101, 47, 103, 48, 49, 50, 53, 55, 47, 108, 97, 119, 115, 46, 70, 110, 69, 120, 97, 99, 116, 70, 105, 114, 115, 116, 67, 111, 108, 111, 117, 114, 105, 110, 103] : List Nat).map Char.ofNat
set_option maxRecDepth 100000 in
theorem Try.initOrder_is : Try.prog.initOrder = String.ofList headSigns := by kernel_rfl
theorem Try.initOrder_signs : Try.prog.initOrder.toList = headSigns := by rw [Try.initOrder_is]; exact String.toList_ofList
set_option maxRecDepth 100000 in
theorem head_words : (behindMainWord (wordsSigns headSigns)).take 1 = ["cut".toList] := by kernel_rfl
theorem Try.words : ∃ rest, behindMainWord (wordsSigns Try.prog.initOrder.toList) = "cut".toList :: rest := by
  rw [Try.initOrder_signs]
  have h := List.take_append_drop 1 (behindMainWord (wordsSigns headSigns))
  rw [head_words] at h
  exact ⟨_, h.symm⟩
theorem Try.make : Try.prog.make = some .cut := by obtain ⟨_, h⟩ := Try.words; exact make_of h
theorem Try.liftsFinal : Try.prog.liftsFinal = false := by obtain ⟨_, h⟩ := Try.words; exact final_of h
theorem Try.laysLater : Try.prog.laysLater = false := by kernel_rfl
theorem Try.bearsReflect : Try.prog.bearsReflect = false := by kernel_rfl
theorem Try.doorFits : Try.prog.doorFits [] = true := by kernel_rfl
theorem Try.mayEnter : Try.prog.mayEnter = true := by obtain ⟨_, h⟩ := Try.words; exact enter_of h Try.laysLater Try.bearsReflect Try.doorFits
theorem Try.mapsRowed : mapsRowed Try.prog = true := by kernel_rfl
theorem Try.stops : (Try.prog.stops == []) = true := by kernel_rfl
theorem Try.stopKnobs : (Try.prog.stopKnobs == []) = true := by kernel_rfl
theorem Try.plainKeys : Try.prog.plainKeys = true := by kernel_rfl
theorem Try.stopsHeard : Try.prog.stopsHeard = true := by kernel_rfl

/-- What the types of one law give: closed facts on its parameters and its result. -/
def typeFacts (P : Program) (fn : Func) (s : ChangeSpec) (c : OpenClaim) : Bool :=
  fn.params.all (P.readableRec ·) && namedTie P c.named s.vars && (c.stops == []) && (c.knobs == []) &&
  (c.maps == (fn.params.toList ++ s.plain.varTypes P).any (P.mapsRec ·)) && (c.ifaces == (fn.params.toList ++ s.plain.varTypes P).any (P.ifacesRec ·)) && (c.mapsOut == P.mapsAmong fn.resultTypes.toList) &&
  (c.loops == (fn.params.toList ++ s.plain.varTypes P).any (P.loopsFrom ·)) && (c.wideKeys == (fn.params.toList ++ s.plain.varTypes P ++ fn.resultTypes.toList).any (P.wideKeysFrom ·)) &&
  s.vars.all (P.varReadable ·) && fn.resultTypes.all (fun t => P.readableRec t && decide (t < P.types.size)) && (c.ifacesOut == fn.resultTypes.toList.any (P.ifacesRec ·)) && (c.loopsOut == fn.resultTypes.toList.any (P.loopsFrom ·)) && c.shortTexts.isNone &&
  (c.kinds == (if c.domain.isEmpty then [] else fn.params.toList.map fun t => match P.underlying t with | some (.int k) => some k | _ => none)) && (c.pinned == c.pinnedBy) &&
  (c.veiled == (fn.params.toList ++ s.plain.varTypes P ++ fn.resultTypes.toList).any (P.veiledRec ·)) && c.veiledFits P fn.params.toList (fn.params.toList ++ s.plain.varTypes P ++ fn.resultTypes.toList)
theorem joined_all {P : Program} {f : FuncId} {fn : Func} {s : ChangeSpec} {c : OpenClaim} (k1 : c.wf (OpenSpec.ofChange s) = true) (kt : typeFacts P fn s c = true)
    (k10 : (c.inPlace == P.inPlace f) = true) (k11 : (c.unfollowed == P.unfollowed f) = true) (k12 : (c.recurses == P.recurses f) = true) (k13 : (c.named == P.varsNamed f) = true)
    (e2 : laidOutB P = true) (e3 : mapsRowed P = true) (e7 : (P.stops == []) = true) (e9 : (P.stopKnobs == []) = true) (e22 : (c.plainKeys == P.plainKeys) = true) (e23 : P.stopsHeard = true) (e24 : P.mayEnter = true)
    (e24b : (c.lifted == P.liftsFinal) = true) (e24c : (P.make == some c.make) = true) : joinedFacts P f fn s c = true := by
  unfold typeFacts at kt
  unfold joinedFacts
  simp only [Bool.and_eq_true] at kt ⊢
  obtain ⟨⟨⟨⟨⟨⟨⟨⟨⟨⟨⟨⟨⟨⟨⟨⟨⟨t1, t2⟩, t3⟩, t4⟩, t5⟩, t6⟩, t7⟩, t8⟩, t9⟩, t10⟩, t11⟩, t12⟩, t13⟩, t14⟩, t15⟩, t16⟩, t17⟩, t18⟩ := kt
  exact ⟨⟨⟨⟨⟨⟨⟨⟨⟨⟨⟨⟨⟨⟨⟨⟨⟨⟨⟨⟨⟨⟨⟨⟨⟨⟨⟨⟨⟨⟨⟨k1, e2⟩, e3⟩, t1⟩, t2⟩, t3⟩, e7⟩, t4⟩, e9⟩, k10⟩, k11⟩, k12⟩, k13⟩, t5⟩, t6⟩, t7⟩, t8⟩, t9⟩, t10⟩, t11⟩, t12⟩, t13⟩, e22⟩, t14⟩, e23⟩, e24⟩, e24b⟩, e24c⟩, t15⟩, t16⟩, t17⟩, t18⟩
theorem joined_of {f : FuncId} {fn : Func} {s : ChangeSpec} {c : OpenClaim} (k1 : c.wf (OpenSpec.ofChange s) = true) (kt : typeFacts Try.prog fn s c = true)
    (k10 : (c.inPlace == Try.prog.inPlace f) = true) (k11 : (c.unfollowed == Try.prog.unfollowed f) = true) (k12 : (c.recurses == Try.prog.recurses f) = true) (k13 : (c.named == Try.prog.varsNamed f) = true)
    (k22 : c.plainKeys = true) (k24b : c.lifted = false) (k24c : c.make = .cut) : joinedFacts Try.prog f fn s c = true :=
  joined_all k1 kt k10 k11 k12 k13 Try.laidOut Try.mapsRowed Try.stops Try.stopKnobs (by rw [k22, Try.plainKeys]; rfl) Try.stopsHeard Try.mayEnter (by rw [k24b, Try.liftsFinal]; rfl) (by rw [k24c, Try.make]; rfl)
end Go.Proofs.Ytkiobefojckocaa
