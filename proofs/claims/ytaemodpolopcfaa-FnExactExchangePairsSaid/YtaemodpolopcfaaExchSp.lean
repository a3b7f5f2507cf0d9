/-
  'ExchangePairs' of the model, by its contract: the outer function.
-/
import Derived.Test.YtaemodpolopcfaaExchS
namespace Go.Proofs.Ytaemodpolopcfaa
open Go.RowKit

theorem isTwo_of {p : Int} {l : PL} {a b : Int} (hp : isP p l = true) (ha : 0 ≤ a ∧ a < p) (hb : 0 ≤ b ∧ b < p) (hab : a ≠ b) : isTwo p l a b = true := by
  unfold isTwo
  rw [hp, isMan_yes ha, isMan_yes hb, decide_eq_true hab]
  rfl
theorem exch_two1 {p : Int} {l : PL} {a b c d : Int} (h : isTwo p l a b = false) : resExchangePairs p l a b c d = (0, [], false) := by
  cases hp : isP p l with
  | false => unfold resExchangePairs; simp [hp]
  | true =>
    cases h4 : fourI p a b c d with
    | false => exact exch_not (.inl h4)
    | true =>
      have := fourI_parts h4
      rw [isTwo_of hp this.1 this.2.1 this.2.2.2.2.1] at h
      cases h
theorem exch_two2 {p : Int} {l : PL} {a b c d : Int} (h : isTwo p l c d = false) : resExchangePairs p l a b c d = (0, [], false) := by
  cases hp : isP p l with
  | false => unfold resExchangePairs; simp [hp]
  | true =>
    cases h4 : fourI p a b c d with
    | false => exact exch_not (.inl h4)
    | true =>
      have := fourI_parts h4
      rw [isTwo_of hp this.2.2.1 this.2.2.2.1 this.2.2.2.2.2.2.2.2.2] at h
      cases h

set_option maxHeartbeats 4000000 in
set_option maxRecDepth 100000 in
theorem specExchangePairs_any (p : Int) (l : PL) (A : Option Addr) (c : Nat) (a b i j : Int) (w : World) (hl : l.length ≤ 1048576) (hA : CRead w w.heap.size A (pcells l)) :
    Calls Try.prog 28 #[.agg #[.int .i64 p, .slice A l.length c], .int .i64 a, .int .i64 b, .int .i64 i, .int .i64 j] w (GotPartyOk w (resExchangePairs p l a b i j).1 (resExchangePairs p l a b i j).2.1 (resExchangePairs p l a b i j).2.2) := by
  generalize hW : (w.alloc (Obj.cells #[.int .i64 p, .slice A l.length c] 29)).alloc (Obj.cells #[.int .i64 0, .slice none 0 0] 29) = W
  have a0 : W.cell? ⟨w.heap.size, 0, none⟩ = some (.int .i64 p) := by rw [← hW]; simp
  have a1 : W.cell? ⟨w.heap.size, 1, none⟩ = some (.slice A l.length c) := by rw [← hW]; simp
  have X0 : W.cell? ⟨w.heap.size + 1, 0, none⟩ = some (.int .i64 0) := by rw [← hW]; simp
  have X1 : W.cell? ⟨w.heap.size + 1, 1, none⟩ = some (.slice none 0 0) := by rw [← hW]; simp
  have Z0 : W.frozen? ⟨w.heap.size + 1, 0, none⟩ = false := by rw [← hW]; simp
  have Z1 : W.frozen? ⟨w.heap.size + 1, 1, none⟩ = false := by rw [← hW]; simp
  have kW : Below w.heap.size w W := by rw [← hW]; go_grown
  have sW1 : w.heap.size < W.heap.size := by rw [← hW]; simp only [World.size_alloc]; omega
  have sW2 : w.heap.size + 1 < W.heap.size := by rw [← hW]; simp
  have RA := (hA.below kW (Nat.le_refl _)).more kW.size
  have HW := Lib.hid hW
  clear hW
  cases h1 : isTwo p l a b with
  | false =>
    rw [exch_two1 h1]
    have H1 := Lib.hid h1
    clear h1
    go_enter Try.func28, Try.ntmps28
    go_wp2_with fail
    rw [HW.out]
    refine (paTwo_any p l a b A c _ hl RA).mono ?_
    rw [H1.out]
    rintro e w2 ⟨rfl, hb2⟩
    have y0 := carry hb2 X0 sW2
    have y1 := carry hb2 X1 sW2
    have y2 := (hb2.frozen (p := ⟨w.heap.size + 1, 0, none⟩) sW2).trans Z0
    have y3 := (hb2.frozen (p := ⟨w.heap.size + 1, 1, none⟩) sW2).trans Z1
    have k2 := kW.trans (hb2.mono kW.size)
    clear a0 a1 X0 X1 Z0 Z1
    go_wp2
    refine bodyPost_ret (v := .tuple #[.agg #[.int .i64 0, .slice none 0 0], .bool false]) (by simp [results, Try.results28, go_sem, y0, y1]) rfl ?_
    exact ⟨none, 0, rfl, World.ownsRow_nil _ _ _ _, (k2.setCell (p := ⟨w.heap.size + 1, 0, none⟩) (by simp) _).setCell (p := ⟨w.heap.size + 1, 1, none⟩) (by simp) _⟩
  | true =>
    cases h2 : isTwo p l i j with
    | false =>
      rw [exch_two2 h2]
      have H1 := Lib.hid h1
      have H2 := Lib.hid h2
      clear h1 h2
      go_enter Try.func28, Try.ntmps28
      go_wp2_with fail
      rw [HW.out]
      refine (paTwo_any p l a b A c _ hl RA).mono ?_
      rw [H1.out]
      rintro e w2 ⟨rfl, hb2⟩
      have c0 := carry hb2 a0 sW1
      have c1 := carry hb2 a1 sW1
      have s2 := hb2.size
      go_wp2_with fail
      refine (paTwo_any p l i j A c _ hl ((RA.below hb2 (Nat.le_refl _)).more s2)).mono ?_
      rw [H2.out]
      rintro e w3 ⟨rfl, hb3⟩
      have g3 := hb2.trans (hb3.mono s2)
      have y0 := carry g3 X0 sW2
      have y1 := carry g3 X1 sW2
      have y2 := (g3.frozen (p := ⟨w.heap.size + 1, 0, none⟩) sW2).trans Z0
      have y3 := (g3.frozen (p := ⟨w.heap.size + 1, 1, none⟩) sW2).trans Z1
      have k2 := kW.trans (g3.mono kW.size)
      clear a0 a1 X0 X1 Z0 Z1 c0 c1
      go_wp2
      refine bodyPost_ret (v := .tuple #[.agg #[.int .i64 0, .slice none 0 0], .bool false]) (by simp [results, Try.results28, go_sem, y0, y1]) rfl ?_
      exact ⟨none, 0, rfl, World.ownsRow_nil _ _ _ _, (k2.setCell (p := ⟨w.heap.size + 1, 0, none⟩) (by simp) _).setCell (p := ⟨w.heap.size + 1, 1, none⟩) (by simp) _⟩
    | true =>
      obtain ⟨hp, ha, hb, hab⟩ := isTwo_parts h1
      obtain ⟨_, hi, hj, hij⟩ := isTwo_parts h2
      have hn := isP_range hp
      obtain ⟨n, rfl⟩ : ∃ n : Nat, p = n := ⟨p.toNat, by omega⟩
      obtain ⟨a, rfl⟩ : ∃ x : Nat, a = x := ⟨a.toNat, by omega⟩
      obtain ⟨b, rfl⟩ : ∃ x : Nat, b = x := ⟨b.toNat, by omega⟩
      obtain ⟨i, rfl⟩ : ∃ x : Nat, i = x := ⟨i.toNat, by omega⟩
      obtain ⟨j, rfl⟩ : ∃ x : Nat, j = x := ⟨j.toNat, by omega⟩
      have H1 := Lib.hid h1
      have H2 := Lib.hid h2
      have Hde := Lib.hid (fun (v : World) (hv : CRead v v.heap.size A (pcells l)) => deExchange_any n l A c a b i j v hp (by omega) (by omega) (by omega) (by omega) (by omega) (by omega) hv)
      obtain ⟨⟨rq, rm, rok⟩, hres⟩ : ∃ r, resExchangePairs (n : Int) l a b i j = r := ⟨_, rfl⟩
      rw [hres]
      rw [hres] at Hde
      clear h1 h2 hp hab hij hres ha hb hi hj
      go_enter Try.func28, Try.ntmps28
      go_wp2_with fail
      rw [HW.out]
      refine (paTwo_any n l a b A c _ hl RA).mono ?_
      rw [H1.out]
      rintro e w2 ⟨rfl, hb2⟩
      have c0 := carry hb2 a0 sW1
      have c1 := carry hb2 a1 sW1
      have s2 := hb2.size
      go_wp2_with fail
      refine (paTwo_any n l i j A c _ hl ((RA.below hb2 (Nat.le_refl _)).more s2)).mono ?_
      rw [H2.out]
      rintro e w3 ⟨rfl, hb3⟩
      have g3 := hb2.trans (hb3.mono s2)
      have s3 := g3.size
      have d0 := carry g3 a0 sW1
      have d1 := carry g3 a1 sW1
      clear c0 c1
      go_wp2_with fail
      refine (Hde.out _ ((RA.below g3 (Nat.le_refl _)).more s3)).mono ?_
      rintro e w4 ⟨A4, c4, rfl, own4, hb4⟩
      have g4 := g3.trans (hb4.mono s3)
      have y0 := carry g4 X0 sW2
      have y1 := carry g4 X1 sW2
      have y2 := (g4.frozen (p := ⟨w.heap.size + 1, 0, none⟩) sW2).trans Z0
      have y3 := (g4.frozen (p := ⟨w.heap.size + 1, 1, none⟩) sW2).trans Z1
      have k4 := kW.trans (g4.mono kW.size)
      clear a0 a1 X0 X1 Z0 Z1 d0 d1
      go_wp2
      refine bodyPost_ret (v := .tuple #[.agg #[.int .i64 rq, .slice A4 rm.length c4], .bool rok]) (by simp [results, Try.results28, go_sem, y0, y1]) rfl ?_
      exact ⟨A4, c4, rfl, own_lower (ownsRow_setCell_below (ownsRow_setCell_below own4 (a := ⟨w.heap.size + 1, 0, none⟩) (by simp; omega) _) (a := ⟨w.heap.size + 1, 1, none⟩) (by simp; omega) _) (Nat.le_trans kW.size s3), (k4.setCell (p := ⟨w.heap.size + 1, 0, none⟩) (by simp) _).setCell (p := ⟨w.heap.size + 1, 1, none⟩) (by simp) _⟩
end Go.Proofs.Ytaemodpolopcfaa
