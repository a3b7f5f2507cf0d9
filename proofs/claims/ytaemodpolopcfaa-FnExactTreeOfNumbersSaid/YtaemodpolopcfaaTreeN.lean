/-
  'TreeOfNumbers' of the program, by its contract.
-/
import Derived.Test.YtaemodpolopcfaaTreeI
import Derived.Test.YtaemodpolopcfaaContI
import Derived.Test.YtaemodpolopcfaaNumsW
import Derived.Test.YtaemodpolopcfaaTreeS
namespace Go.Proofs.Ytaemodpolopcfaa
open Go.RowKit

set_option maxHeartbeats 4000000 in
set_option maxRecDepth 100000 in
theorem implTreeOfNumbers_any (q : List Int) (A : Option Addr) (c : Nat) (w : World) (hl : q.length ≤ 1048576) (hA : CRead w w.heap.size A (icells q)) :
    Calls Try.prog 31 #[.slice A q.length c] w (GotPartyOk w (resTreeOfNumbers q).1 (resTreeOfNumbers q).2.1 (resTreeOfNumbers q).2.2) := by
  generalize hW : w.alloc (Obj.cells #[.int .i64 0, .slice none 0 0] 29) = W
  have X0 : W.cell? ⟨w.heap.size, 0, none⟩ = some (.int .i64 0) := by rw [← hW]; simp
  have X1 : W.cell? ⟨w.heap.size, 1, none⟩ = some (.slice none 0 0) := by rw [← hW]; simp
  have Z0 : W.frozen? ⟨w.heap.size, 0, none⟩ = false := by rw [← hW]; simp
  have Z1 : W.frozen? ⟨w.heap.size, 1, none⟩ = false := by rw [← hW]; simp
  have kW : Below w.heap.size w W := by rw [← hW]; go_grown
  have sW1 : w.heap.size < W.heap.size := by rw [← hW]; simp
  have RA := (hA.below kW (Nat.le_refl _)).more kW.size
  obtain ⟨r, hres⟩ : ∃ r, resTreeOfNumbers q = r := ⟨_, rfl⟩
  rw [hres]
  have Hres := Lib.hid hres
  have HW := Lib.hid hW
  clear hres hW
  cases hn : isNums q with
  | false =>
    have Er := Lib.hid (show r = (0, [], false) by rw [← Hres.out]; exact tree_not (.inl hn))
    have Hn := Lib.hid hn
    clear hn
    go_enter Try.func31, Try.ntmps31
    go_wp2_with fail
    rw [HW.out]
    refine (isNumbers_any q A c _ hl RA).mono ?_
    rw [Hn.out]
    rintro e w' ⟨rfl, rfl⟩
    go_wp2
    refine bodyPost_ret (v := .tuple #[.agg #[.int .i64 0, .slice none 0 0], .bool false]) (by simp [results, Try.results31, go_sem, X0, X1]) rfl ?_
    rw [Er.out]
    exact ⟨none, 0, rfl, World.ownsRow_nil _ _ _ _, (kW.setCell (p := ⟨w.heap.size, 0, none⟩) (by simp) _).setCell (p := ⟨w.heap.size, 1, none⟩) (by simp) _⟩
  | true =>
    have Hn := Lib.hid hn
    have h12 := isNums_len hn
    have hsb := sumI_take_bound (q := q) (m := 12) (by omega) (fun x hx => by have := isNums_mem hn x hx; omega) q.length
    rw [List.take_length] at hsb
    clear hn
    by_cases h2 : q.length < 2
    · have Er := Lib.hid (show r = (0, [], false) by rw [← Hres.out]; exact tree_not (.inr (.inl h2)))
      have h2' : (q.length : Int) < 2 := by omega
      go_enter Try.func31, Try.ntmps31
      go_wp2_with fail
      rw [HW.out]
      refine (isNumbers_any q A c _ hl RA).mono ?_
      rw [Hn.out]
      rintro e w' ⟨rfl, rfl⟩
      go_wp2
      refine bodyPost_ret (v := .tuple #[.agg #[.int .i64 0, .slice none 0 0], .bool false]) (by simp [results, Try.results31, go_sem, X0, X1]) rfl ?_
      rw [Er.out]
      exact ⟨none, 0, rfl, World.ownsRow_nil _ _ _ _, (kW.setCell (p := ⟨w.heap.size, 0, none⟩) (by simp) _).setCell (p := ⟨w.heap.size, 1, none⟩) (by simp) _⟩
    · have h2' : ¬ ((q.length : Int) < 2) := by omega
      cases h0 : hasI q 0 with
      | true =>
        have Er := Lib.hid (show r = (0, [], false) by rw [← Hres.out]; exact tree_not (.inr (.inr (.inl h0))))
        have H0 := Lib.hid h0
        clear h0
        go_enter Try.func31, Try.ntmps31
        go_wp2_with fail
        rw [HW.out]
        refine (isNumbers_any q A c _ hl RA).mono ?_
        rw [Hn.out]
        rintro e w' ⟨rfl, rfl⟩
        go_wp2_with fail
        refine (containsI_any q 0 A c _ hl RA).mono ?_
        rw [H0.out]
        rintro e w' ⟨rfl, rfl⟩
        go_wp2
        refine bodyPost_ret (v := .tuple #[.agg #[.int .i64 0, .slice none 0 0], .bool false]) (by simp [results, Try.results31, go_sem, X0, X1]) rfl ?_
        rw [Er.out]
        exact ⟨none, 0, rfl, World.ownsRow_nil _ _ _ _, (kW.setCell (p := ⟨w.heap.size, 0, none⟩) (by simp) _).setCell (p := ⟨w.heap.size, 1, none⟩) (by simp) _⟩
      | false =>
        have H0 := Lib.hid h0
        clear h0
        obtain ⟨s, hs⟩ : ∃ s, sumI q = s := ⟨_, rfl⟩
        have Hs := Lib.hid hs
        rw [hs] at hsb
        by_cases h4 : s = 2 * ((q.length : Int) - 1)
        · have Ht := Lib.hid (tree_is Hn.out (by omega) H0.out (by rw [hs]; exact h4))
          have Er := Lib.hid (show r = ((q.length : Int), sortP (stP q (q.length - 1)), true) by rw [← Hres.out]; simp [resTreeOfNumbers, Ht.out])
          have h4' : (s != 2 * ((q.length : Int) - 1)) = false := by rw [h4]; simp
          clear hs h4
          go_enter Try.func31, Try.ntmps31
          go_wp2_with fail
          rw [HW.out]
          refine (isNumbers_any q A c _ hl RA).mono ?_
          rw [Hn.out]
          rintro e w' ⟨rfl, rfl⟩
          go_wp2_with fail
          refine (containsI_any q 0 A c _ hl RA).mono ?_
          rw [H0.out]
          rintro e w' ⟨rfl, rfl⟩
          go_wp2_with fail
          refine (sumOf_any q A c _ Hn.out RA).mono ?_
          rw [Hs.out]
          rintro e w' ⟨rfl, rfl⟩
          go_wp2_with fail
          refine (treeByOnes_any q A c _ Ht.out RA).mono ?_
          rintro e w4 ⟨A4, c4, rfl, own4, hb4⟩
          have y0 := carry hb4 X0 sW1
          have y1 := carry hb4 X1 sW1
          have y2 := (hb4.frozen (p := ⟨w.heap.size, 0, none⟩) sW1).trans Z0
          have y3 := (hb4.frozen (p := ⟨w.heap.size, 1, none⟩) sW1).trans Z1
          have k4 := kW.trans (hb4.mono kW.size)
          clear X0 X1 Z0 Z1
          go_wp2
          refine bodyPost_ret (v := .tuple #[.agg #[.int .i64 q.length, .slice A4 (sortP (stP q (q.length - 1))).length c4], .bool true]) (by simp [results, Try.results31, go_sem, y0, y1]) rfl ?_
          rw [Er.out]
          exact ⟨A4, c4, rfl, own_lower (ownsRow_setCell_below (ownsRow_setCell_below own4 (a := ⟨w.heap.size, 0, none⟩) (by simp; omega) _) (a := ⟨w.heap.size, 1, none⟩) (by simp; omega) _) (by omega), (k4.setCell (p := ⟨w.heap.size, 0, none⟩) (by simp) _).setCell (p := ⟨w.heap.size, 1, none⟩) (by simp) _⟩
        · have Er := Lib.hid (show r = (0, [], false) by rw [← Hres.out]; exact tree_not (.inr (.inr (.inr (by rw [hs]; exact h4)))))
          have h4' : (s != 2 * ((q.length : Int) - 1)) = true := bne_iff_ne.2 h4
          clear hs
          go_enter Try.func31, Try.ntmps31
          go_wp2_with fail
          rw [HW.out]
          refine (isNumbers_any q A c _ hl RA).mono ?_
          rw [Hn.out]
          rintro e w' ⟨rfl, rfl⟩
          go_wp2_with fail
          refine (containsI_any q 0 A c _ hl RA).mono ?_
          rw [H0.out]
          rintro e w' ⟨rfl, rfl⟩
          go_wp2_with fail
          refine (sumOf_any q A c _ Hn.out RA).mono ?_
          rw [Hs.out]
          rintro e w' ⟨rfl, rfl⟩
          go_wp2
          refine bodyPost_ret (v := .tuple #[.agg #[.int .i64 0, .slice none 0 0], .bool false]) (by simp [results, Try.results31, go_sem, X0, X1]) rfl ?_
          rw [Er.out]
          exact ⟨none, 0, rfl, World.ownsRow_nil _ _ _ _, (kW.setCell (p := ⟨w.heap.size, 0, none⟩) (by simp) _).setCell (p := ⟨w.heap.size, 1, none⟩) (by simp) _⟩
end Go.Proofs.Ytaemodpolopcfaa
