/-
  Texts put together for the claim of 'PaintPair' (pack 5): KBox, PaintOf, PaintPair, LawPaintPair, Head, Facts.
-/
import Derived.Test.YtepoabbkalhifaaPaintPairP1
import Derived.Test.YtepoabbkalhifaaPaintPairP4
import Derived.Deep.AppendLies
import Derived.Deep.RegionHeld3
import Derived.StillTailTactics
import Derived.Test.YtepoabbkalhifaaRows
/-
  A STRUCT IN A BOX OF THE CALL's OWN that was laid ahead of what is read: its slice is appended to, all else that was there is kept.
-/
namespace Go.Proofs.Ytepoabbkalhifaa
open Go.RowKit

/-- behind w1, in which the box at g lies: the box holds a slice of the call's own, made later than w1; all other blocks of w1 are as they were -/
structure KBox (ty e : TypeId) (s : Nat) (mk : Value → Array Value) (w1 wr : World) (g : Nat) (v : Value) (m : Nat) (xs : List Value) : Prop where
  keep : ∀ j, j ≠ g → j < w1.heap.size → wr.heap[j]? = w1.heap[j]?
  below : Below g w1 wr
  size : w1.heap.size ≤ wr.heap.size
  lt : g < w1.heap.size
  box : wr.heap[g]? = some (.cells (mk v) ty (0, 0))
  own : wr.ownsRow w1.heap.size e s v m xs
section
variable {ty e : TypeId} {s : Nat} {mk : Value → Array Value} {w1 wr W1 w2 : World} {g : Nat} {v v' : Value} {m m' : Nat} {xs xs' : List Value}
theorem KBox.cell (h : KBox ty e s mk w1 wr g v m xs) {i : Nat} {u : Value} (hi : (mk v)[i]? = some u) : wr.cell? ⟨g, i, none⟩ = some u := by
  rw [cell_of_row _ _ _ _ _ _ h.box]; exact hi
theorem KBox.frozen (h : KBox ty e s mk w1 wr g v m xs) (i : Nat) : wr.frozen? ⟨g, i, none⟩ = false := frozen_of_row _ _ i _ _ h.box
theorem KBox.other (h : KBox ty e s mk w1 wr g v m xs) {b o : Nat} {u : Value} (hb : b ≠ g) (hlt : b < w1.heap.size) (hc : w1.cell? ⟨b, o, none⟩ = some u) : wr.cell? ⟨b, o, none⟩ = some u := by
  rw [← hc]
  simp [World.cell?, h.keep b hb hlt]
/-- what stands behind an append -/
theorem KBox.grown (h : KBox ty e s mk w1 wr g v m xs) (hW : Below wr.heap.size wr W1) (hg : W1.grownBy w2 v.ownBlock) : w2.heap[g]? = some (.cells (mk v) ty (0, 0)) ∧ Below g w1 w2 ∧ (∀ j, j < w1.heap.size → w2.heap[j]? = wr.heap[j]?) := by
  have hl := h.lt
  have hs := h.size
  have hb : ∀ j, j < w1.heap.size → w2.heap[j]? = wr.heap[j]? := fun j hj =>
    (hg.block j (by have := hW.size; omega) (fun e => by have := (h.own.lt j e.symm).1; omega)).trans (hW.block j (by omega))
  refine ⟨(hb g hl).trans h.box, ?_, hb⟩
  have h2 : Below g w1 W1 := h.below.trans (hW.mono (by omega))
  exact h2.grown hg (by have := hW.size; omega) (fun k hk => by have := (h.own.lt k hk).1; omega)
/-- the slice behind an append is stored -/
theorem KBox.push (h : KBox ty e s mk w1 wr g v m xs) (hW : Below wr.heap.size wr W1) (hg : W1.grownBy w2 v.ownBlock) (i : Nat) (hmk : (mk v).setIfInBounds i v' = mk v') (hown : w2.ownsRow w1.heap.size e s v' m' xs') :
    KBox ty e s mk w1 (w2.setCell ⟨g, i, none⟩ v') g v' m' xs' := by
  obtain ⟨hbx, hb2, hk⟩ := h.grown hW hg
  have hl := h.lt
  refine ⟨fun j hj hjl => ?_, hb2.setCell (p := ⟨g, i, none⟩) (Nat.le_refl _) _, ?_, hl, ?_, ownsRow_setCell_below hown (a := ⟨g, i, none⟩) hl _⟩
  · rw [heap_setCell_other _ _ _ _ hj, hk j hjl]
    exact h.keep j hj hjl
  · have h1 := h.size; have h2 := hW.size; have h3 := hg.size
    simp only [World.size_setCell]
    omega
  · rw [← hmk]
    exact heap_setCell_same w2 g i _ _ v' hbx
end
end Go.Proofs.Ytepoabbkalhifaa
/-
  A PAINTING made of shades: '(shades).painting', by its contract.
-/
namespace Go.Proofs.Ytepoabbkalhifaa
open Go.RowKit

/-- the colours that a table gives to all pairs, in order -/
def colsP (n : Nat) (f : Nat → Nat → Int) : List Int := (allP n).map fun q => f q.1.toNat q.2.toNat
theorem colsP_len (n : Nat) (f : Nat → Nat → Int) : (colsP n f).length = (allP n).length := by simp [colsP]
def mkX (n k : Int) (v : Value) : Array Value := #[.int .i64 n, .int .i64 k, v]
set_option maxHeartbeats 4000000 in
set_option maxRecDepth 100000 in
theorem painting_any (f : Nat → Nat → Int) (n : Nat) (k : Int) (hn : n ≤ 8) (w : World) :
    Calls Try.prog 75 #[.agg (shC f), .int .i64 n, .int .i64 k] w (GotPaint w n k (colsP n f)) := by
  obtain ⟨i0, hi, hz0, hz1, hz2⟩ := info_parts Try.infoInt
  have hcount := (count_of (p := (n : Int)) (by omega)).2.1
  rw [Int.toNat_natCast] at hcount
  obtain ⟨W, hW⟩ : ∃ W, ((w.alloc (Obj.cells (shC f) 78)).alloc (Obj.cells #[.int .i64 0, .int .i64 0, .slice none 0 0] 27)).alloc (Obj.cells #[.int .i64 n, .int .i64 k, .slice none 0 0] 27) = W := ⟨_, rfl⟩
  have kW : Below w.heap.size w W := by rw [← hW]; go_grown
  have row0 : W.rowIs w.heap.size 78 64 (fun q => .int .i64 (f (q / 8) (q % 8))) := by rw [← hW]; exact ((rowIs_sh w f _).alloc _).alloc _
  have bR : W.heap[w.heap.size + 1]? = some (.cells #[.int .i64 0, .int .i64 0, .slice none 0 0] 27 (0, 0)) := by
    rw [← hW]
    have := heap_alloc_new (w.alloc (Obj.cells (shC f) 78)) (Obj.cells #[.int .i64 0, .int .i64 0, .slice none 0 0] 27)
    simp only [World.size_alloc] at this
    exact (((Below.refl _ ((w.alloc (Obj.cells (shC f) 78)).alloc (Obj.cells #[.int .i64 0, .int .i64 0, .slice none 0 0] 27))).alloc (Nat.le_refl _) _).block _ (by simp)).trans this
  have x0 : W.cell? ⟨w.heap.size + 1, 0, none⟩ = some (.int .i64 0) := by rw [cell_of_row _ _ _ _ _ _ bR]; rfl
  have x1 : W.cell? ⟨w.heap.size + 1, 1, none⟩ = some (.int .i64 0) := by rw [cell_of_row _ _ _ _ _ _ bR]; rfl
  have x2 : W.cell? ⟨w.heap.size + 1, 2, none⟩ = some (.slice none 0 0) := by rw [cell_of_row _ _ _ _ _ _ bR]; rfl
  have z0 : ∀ j, W.frozen? ⟨w.heap.size + 1, j, none⟩ = false := fun j => frozen_of_row _ _ j _ _ bR
  clear bR
  have bx : W.heap[w.heap.size + 1 + 1]? = some (.cells #[.int .i64 n, .int .i64 k, .slice none 0 0] 27 (0, 0)) := by
    rw [← hW]
    have := heap_alloc_new ((w.alloc (Obj.cells (shC f) 78)).alloc (Obj.cells #[.int .i64 0, .int .i64 0, .slice none 0 0] 27)) (Obj.cells #[.int .i64 n, .int .i64 k, .slice none 0 0] 27)
    simp only [World.size_alloc] at this
    exact this
  have sW : w.heap.size + 1 + 1 < W.heap.size := by rw [← hW]; simp
  have HW := Lib.hid hW
  clear hW
  go_enter Try.func75, Try.ntmps75
  go_upto_region 2 with fail
  rw [HW.out]
  go_wp2_with fail
  refine (everyPair_any n (by omega) _).mono ?_
  rintro e w1 ⟨P1, c1, rfl, own1, hb1⟩
  have s1 := hb1.size
  have k1 := kW.trans (hb1.mono kW.size)
  have row1 : w1.rowIs w.heap.size 78 64 (fun q => .int .i64 (f (q / 8) (q % 8))) := row0.of_block (hb1.block _ (by omega))
  have y0 := carry hb1 x0 (by omega)
  have y1 := carry hb1 x1 (by omega)
  have y2 := carry hb1 x2 (by omega)
  have v0 := fun j => (hb1.frozen (p := ⟨w.heap.size + 1, j, none⟩) (by simp; omega)).trans (z0 j)
  have rel0 : KBox 27 3 1 (mkX n k) w1 w1 (w.heap.size + 1 + 1) (.slice none 0 0) ((colsP n f).take 0).length (icells ((colsP n f).take 0)) :=
    ⟨fun _ _ _ => rfl, Below.refl _ _, Nat.le_refl _, by omega, (hb1.block _ sW).trans bx, World.ownsRow_nil _ _ _ _⟩
  have Own1 := Lib.hid own1
  have Row1 := Lib.hid row1
  clear row0 x0 x1 x2 z0 bx own1 row1 hb1
  obtain ⟨N, hN⟩ : ∃ N, (allP n).length = N := ⟨_, rfl⟩
  have HN := Lib.hid hN
  have HC := Lib.hid (colsP_len n f)
  rw [hN] at hcount ⊢
  clear hN
  go_wp2_with fail
  go_loopw [16] (fun i wr => ∃ (q : Nat) (v : Value), q ≤ N ∧ i = .int .i64 q ∧ KBox 27 3 1 (mkX n k) w1 wr (w.heap.size + 1 + 1) v ((colsP n f).take q).length (icells ((colsP n f).take q))) (fun i _ => N - (intOf i).toNat)
  case atStart => exact ⟨0, _, Nat.zero_le _, rfl, rel0⟩
  case round =>
    clear rel0
    obtain ⟨q, v, hq, rfl, rel⟩ := hrel
    have kX : Below w.heap.size w wr := k1.trans (rel.below.mono (by omega))
    have hlen : ((colsP n f).take q).length ≤ 28 := by rw [List.length_take, HC.out, HN.out]; omega
    obtain ⟨L, hL⟩ : ∃ L, (colsP n f).take q = L := ⟨_, rfl⟩
    rw [hL] at rel hlen
    have HL := Lib.hid hL
    clear hL
    have hsz := rel.size
    have hlt2 := rel.lt
    have b2 : wr.cell? ⟨w.heap.size + 1 + 1, 2, none⟩ = some v := rel.cell rfl
    have bf2 := rel.frozen 2
    have rowr : wr.rowIs w.heap.size 78 64 (fun q => .int .i64 (f (q / 8) (q % 8))) := Row1.out.of_block (rel.keep _ (by omega) (by omega))
    by_cases hlt : q < N
    · obtain ⟨a, b, hab, hbn, hat, hpq, _⟩ := pairAt_of hn (show q < (allP n).length by rw [HN.out]; exact hlt)
      obtain ⟨b1, off, rfl, hbb, c0, c1'⟩ := (CRead.of_own Own1.out).pair hpq
      have hgb := (Own1.out.lt b1 rfl).1
      have d0 := rel.other (by omega) hbb c0
      have d1 := rel.other (by omega) hbb c1'
      have hqi : (q : Int) < (N : Int) := by omega
      have hval : (colsP n f)[q]? = some (f a b) := by
        unfold colsP
        rw [List.getElem?_map, hpq]
        simp
      have hs := rowr.cell (show a * 8 + b < 64 by omega)
      have e1 : (a * 8 + b) / 8 = a := by omega
      have e2 : (a * 8 + b) % 8 = b := by omega
      simp only [e1, e2] at hs
      obtain ⟨x, hx⟩ : ∃ x, f a b = x := ⟨_, rfl⟩
      rw [hx] at hs hval
      have hai : (a : Int) < 8 := by omega
      have hbi : (b : Int) < 8 := by omega
      have Hval := Lib.hid hval
      clear c0 c1' hpq hat hval hx e1 e2 rowr
      go_upto_region 5 with fail
      obtain ⟨X, hX⟩ : ∃ X, wr.alloc (Obj.cells #[.int .i64 a, .int .i64 b] 85) = X := ⟨_, rfl⟩
      have kWX : Below wr.heap.size wr X := by rw [← hX]; exact (Below.refl _ _).alloc (Nat.le_refl _) _
      have m0 : X.cell? ⟨wr.heap.size, 0, none⟩ = some (.int .i64 a) := by rw [← hX]; simp
      have m1 : X.cell? ⟨wr.heap.size, 1, none⟩ = some (.int .i64 b) := by rw [← hX]; simp
      have q1 := carry kWX b2 (by omega)
      have hsX := carry kWX hs (by omega)
      rw [hX]
      have kb : Below wr.heap.size wr (X.alloc (Obj.cells #[.int .i64 x] 3)).drew := (kWX.alloc kWX.size _).drew
      have ownX := own_below rel.own kb (Nat.le_refl _)
      have ks : (X.alloc (Obj.cells #[.int .i64 x] 3)).drew.heap.size = X.heap.size + 1 := by
        show (X.alloc (Obj.cells #[.int .i64 x] 3)).heap.size = X.heap.size + 1
        simp
      have kc : ∀ (j : Nat) (u : Value), ([.int .i64 x] : List Value)[j]? = some u → (X.alloc (Obj.cells #[.int .i64 x] 3)).drew.cell? ((⟨X.heap.size, 0, none⟩ : Addr).add j) = some u := by
        refine one_cell ?_
        show (X.alloc (Obj.cells #[.int .i64 x] 3)).cell? ⟨X.heap.size, 0, none⟩ = _
        simp
      have kq : w1.heap.size ≤ (X.alloc (Obj.cells #[.int .i64 x] 3)).drew.heap.size := by rw [ks]; have := kWX.size; omega
      have k63 : L.length + 1 ≤ maxLen := by unfold maxLen; omega
      have kby : (L.length + 1) * 8 ≤ 140737488355328 := by omega
      have kq1 : ∀ o : Obj, (X.alloc o).cell? ⟨w.heap.size + 1 + 1, 2, none⟩ = some v := fun o => (World.cell?_alloc_lt X _ _ (by have := kWX.size; simp; omega)).trans q1
      have Rel := Lib.hid rel
      clear hX d0 d1 b2 hs rel
      go_region_law (first
        | (refine step_append_lies _ (by rfl) _ _ _ (by rfl) w1.heap.size 3 i0 _ 1 8 Try.underlying22 hi hz0 hz1 hz2 (by rfl) (by decide) v L.length (icells L) (by rfl) ownX ⟨X.heap.size, 0, none⟩ 1 1 [.int .i64 x] (by rfl) rfl kc (one_one rfl) (by decide) k63 kby kq (X.heap.size + 1) ks ?_; intro g3 c3 w3 own3 gr3 hat3 hlt3; obtain ⟨mid, _, _⟩ := Rel.out.grown kb gr3; have z1 : w3.cell? ⟨w.heap.size + 1 + 1, 2, none⟩ = some v := (by rw [cell_of_row _ _ _ _ _ _ mid]; rfl); have z2 : w3.frozen? ⟨w.heap.size + 1 + 1, 2, none⟩ = false := frozen_of_row _ _ 2 _ _ mid; have rel3 := Rel.out.push kb gr3 2 rfl own3; clear mid)
        | fail)
      all_goals (go_wp2_with fail)
      all_goals (go_roundw)
      all_goals first
        | exact ⟨q + 1, _, by omega, by go_num, by rw [List.take_add_one, Hval.out, Option.toList_some, HL.out, List.length_append, List.length_singleton, show icells (L ++ [x]) = icells L ++ [.int .i64 x] by simp [icells]]; exact rel3⟩
        | (simp [intOf]; omega)
    · have hqN : q = N := by omega
      subst hqN
      have hge : ¬ ((q : Int) < (q : Int)) := by omega
      have hLL := HL.out
      rw [List.take_of_length_le (by rw [HC.out, HN.out]; exact Nat.le_refl _)] at hLL
      subst hLL
      have hll : (colsP n f).length = q := by rw [HC.out, HN.out]
      obtain ⟨A', c', rfl, _⟩ := own_shape rel.own
      have r0 := rel.other (by omega) (by omega) y0
      have r1 := rel.other (by omega) (by omega) y1
      have r2 := rel.other (by omega) (by omega) y2
      have b0 : wr.cell? ⟨w.heap.size + 1 + 1, 0, none⟩ = some (.int .i64 n) := rel.cell rfl
      have b1 : wr.cell? ⟨w.heap.size + 1 + 1, 1, none⟩ = some (.int .i64 k) := rel.cell rfl
      have hfz : ∀ j, wr.frozen? ⟨w.heap.size + 1, j, none⟩ = false := fun j => by
        rw [← v0 j]
        simp [World.frozen?, rel.keep (w.heap.size + 1) (by omega) (by omega)]
      have f0 := hfz 0
      have f1 := hfz 1
      have f2 := hfz 2
      have Rel := Lib.hid rel
      clear rel hfz y0 y1 y2 v0 hll
      go_wp2
      refine bodyPost_ret (v := .agg #[.int .i64 n, .int .i64 k, .slice A' (colsP n f).length c']) (by simp [results, Try.results75, go_sem, r0, r1, r2]) rfl ?_
      exact ⟨A', c', rfl, own_lower (ownsRow_setCell_below (ownsRow_setCell_below (ownsRow_setCell_below Rel.out.own (a := ⟨w.heap.size + 1, 0, none⟩) (by simp; omega) _) (a := ⟨w.heap.size + 1, 1, none⟩) (by simp; omega) _) (a := ⟨w.heap.size + 1, 2, none⟩) (by simp; omega) _) (by omega),
        ((kX.setCell (p := ⟨w.heap.size + 1, 0, none⟩) (by simp) _).setCell (p := ⟨w.heap.size + 1, 1, none⟩) (by simp) _).setCell (p := ⟨w.heap.size + 1, 2, none⟩) (by simp) _⟩
end Go.Proofs.Ytepoabbkalhifaa
/-
  'PaintPair': the model's and the program's, by their contracts. Written by wip/tools/gen_colourof.py.
-/
namespace Go.Proofs.Ytepoabbkalhifaa
open Go.RowKit

def resPaintPair (p k : Int) (l : List Int) (a b x : Int) : Int × Int × List Int × Bool :=
  if twoX p k l a b && isColB k x then (p, k, l.set (atP p.toNat (min a.toNat b.toNat) (max a.toNat b.toNat)) x, true) else (0, 0, [], false)
theorem resPaintPair_len (p k : Int) (l : List Int) (a b x : Int) : (resPaintPair p k l a b x).2.2.1.length ≤ 1048576 := by
  unfold resPaintPair
  split
  · rename_i h
    simp only [Bool.and_eq_true] at h
    have := isX_small (twoX_parts h.1).1
    simp only [List.length_set]
    omega
  · simp
theorem colsP_paint {n : Nat} {k : Int} {l : List Int} (hX : isX n k l = true) {i j : Nat} (hi : i < n) (hj : j < n) (hij : i ≠ j) (x : Int) :
    colsP n (paintF (shX n l) i j x) = l.set (atP n (min i j) (max i j)) x := by
  have hn := (isX_parts hX).1
  have hlen := isX_len hX
  rw [Int.toNat_natCast] at hlen
  refine List.ext_getElem? fun q => ?_
  by_cases hq : q < (allP n).length
  · obtain ⟨a, b, hab, hb, e, h, _⟩ := pairAt_of (by omega) hq
    unfold colsP
    rw [List.getElem?_map, h]
    simp only [Option.map_some, Int.toNat_natCast]
    unfold paintF
    by_cases hit : (a = i ∧ b = j) ∨ (a = j ∧ b = i)
    · rw [if_pos hit]
      have e1 : min i j = a := by omega
      have e2 : max i j = b := by omega
      rw [e1, e2, ← e, List.getElem?_set_self (by omega)]
    · rw [if_neg hit, shX_col (by omega) (by omega) hb (by omega)]
      have hne : atP n (min i j) (max i j) ≠ q := by
        intro h2
        rw [e] at h2
        have := atP_inj (by omega) (by omega) (by omega) hab hb h2
        omega
      rw [List.getElem?_set_ne hne]
      unfold colX
      rw [Nat.min_eq_left (by omega), Nat.max_eq_right (by omega), ← e, List.getD_eq_getElem?_getD, List.getElem?_eq_getElem (by omega)]
      rfl
  · rw [List.getElem?_eq_none (by rw [colsP_len]; omega), List.getElem?_eq_none (by rw [List.length_set]; omega)]

set_option maxHeartbeats 4000000 in
set_option maxRecDepth 100000 in
theorem implPaintPair_any (p k : Int) (l : List Int) (A : Option Addr) (c : Nat) (a : Int) (b : Int) (x : Int) (w : World) (hl : l.length ≤ 1048576) (hA : CRead w w.heap.size A (icells l)) :
    Calls Try.prog 25 #[.agg #[.int .i64 p, .int .i64 k, .slice A l.length c], .int .i64 a, .int .i64 b, .int .i64 x] w (GotPaintOk w (resPaintPair p k l a b x).1 (resPaintPair p k l a b x).2.1 (resPaintPair p k l a b x).2.2.1 (resPaintPair p k l a b x).2.2.2) := by
  obtain ⟨w0, hW⟩ : ∃ W, (w.alloc (Obj.cells #[.int .i64 p, .int .i64 k, .slice A l.length c] 27)).alloc (Obj.cells #[.int .i64 0, .int .i64 0, .slice none 0 0] 27) = W := ⟨_, rfl⟩
  have a0_0 : w0.cell? ⟨w.heap.size, 0, none⟩ = some (.int .i64 p) := by rw [← hW]; simp
  have a1_0 : w0.cell? ⟨w.heap.size, 1, none⟩ = some (.int .i64 k) := by rw [← hW]; simp
  have a2_0 : w0.cell? ⟨w.heap.size, 2, none⟩ = some (.slice A l.length c) := by rw [← hW]; simp
  have x0_0 : w0.cell? ⟨w.heap.size + 1, 0, none⟩ = some (.int .i64 0) := by rw [← hW]; simp
  have z0_0 : w0.frozen? ⟨w.heap.size + 1, 0, none⟩ = false := by rw [← hW]; simp
  have x1_0 : w0.cell? ⟨w.heap.size + 1, 1, none⟩ = some (.int .i64 0) := by rw [← hW]; simp
  have z1_0 : w0.frozen? ⟨w.heap.size + 1, 1, none⟩ = false := by rw [← hW]; simp
  have x2_0 : w0.cell? ⟨w.heap.size + 1, 2, none⟩ = some (.slice none 0 0) := by rw [← hW]; simp
  have z2_0 : w0.frozen? ⟨w.heap.size + 1, 2, none⟩ = false := by rw [← hW]; simp
  have k0 : Below w.heap.size w w0 := by rw [← hW]; go_grown
  have sP_0 : w.heap.size < w0.heap.size := by rw [← hW]; simp only [World.size_alloc]; omega
  have sR_0 : w.heap.size + 1 < w0.heap.size := by rw [← hW]; simp only [World.size_alloc]; omega
  have RA0 : CRead w0 w0.heap.size A (icells l) := (hA.below k0 (Nat.le_refl _)).more k0.size
  have HW := Lib.hid hW
  clear hW
  cases h1 : isX p k l with
  | false =>
    have e : resPaintPair p k l a b x = (0, 0, [], false) := by simp [resPaintPair, twoX_diff, h1]
    rw [e]
    have H1 := Lib.hid h1
    clear e h1
    go_enter Try.func25, Try.ntmps25
    go_wp2_with fail
    rw [HW.out]
    refine (isPainting_any p k l A c _ hl RA0).mono ?_
    rw [H1.out]
    rintro e w1 ⟨rfl, hb1⟩
    have k1 := k0.trans (hb1.mono k0.size)
    have RA1 := (RA0.below hb1 (Nat.le_refl _)).more hb1.size
    have a0_1 := carry hb1 a0_0 sP_0
    have a1_1 := carry hb1 a1_0 sP_0
    have a2_1 := carry hb1 a2_0 sP_0
    have x0_1 := carry hb1 x0_0 sR_0
    have z0_1 := (hb1.frozen (p := ⟨w.heap.size + 1, 0, none⟩) sR_0).trans z0_0
    have x1_1 := carry hb1 x1_0 sR_0
    have z1_1 := (hb1.frozen (p := ⟨w.heap.size + 1, 1, none⟩) sR_0).trans z1_0
    have x2_1 := carry hb1 x2_0 sR_0
    have z2_1 := (hb1.frozen (p := ⟨w.heap.size + 1, 2, none⟩) sR_0).trans z2_0
    have sP_1 := Nat.lt_of_lt_of_le sP_0 hb1.size
    have sR_1 := Nat.lt_of_lt_of_le sR_0 hb1.size
    clear RA0 hb1 a0_0 a1_0 a2_0 x0_0 z0_0 x1_0 z1_0 x2_0 z2_0 sP_0 sR_0
    go_wp2
    refine bodyPost_ret (v := .tuple #[.agg #[.int .i64 0, .int .i64 0, .slice none 0 0], .bool false]) (by simp [results, Try.results25, go_sem, x0_1, x1_1, x2_1]) rfl ?_
    exact ⟨none, 0, rfl, World.ownsRow_nil _ _ _ _, (((k1.setCell (p := ⟨w.heap.size + 1, 0, none⟩) (by simp) _).setCell (p := ⟨w.heap.size + 1, 1, none⟩) (by simp) _).setCell (p := ⟨w.heap.size + 1, 2, none⟩) (by simp) _)⟩
  | true =>
    cases h2 : diffI p [a, b] with
    | false =>
      have e : resPaintPair p k l a b x = (0, 0, [], false) := by simp [resPaintPair, twoX_diff, h1, h2]
      rw [e]
      have H1 := Lib.hid h1
      have H2 := Lib.hid h2
      clear e h1 h2
      go_enter Try.func25, Try.ntmps25
      go_wp2_with fail
      rw [HW.out]
      refine (isPainting_any p k l A c _ hl RA0).mono ?_
      rw [H1.out]
      rintro e w1 ⟨rfl, hb1⟩
      have k1 := k0.trans (hb1.mono k0.size)
      have RA1 := (RA0.below hb1 (Nat.le_refl _)).more hb1.size
      have a0_1 := carry hb1 a0_0 sP_0
      have a1_1 := carry hb1 a1_0 sP_0
      have a2_1 := carry hb1 a2_0 sP_0
      have x0_1 := carry hb1 x0_0 sR_0
      have z0_1 := (hb1.frozen (p := ⟨w.heap.size + 1, 0, none⟩) sR_0).trans z0_0
      have x1_1 := carry hb1 x1_0 sR_0
      have z1_1 := (hb1.frozen (p := ⟨w.heap.size + 1, 1, none⟩) sR_0).trans z1_0
      have x2_1 := carry hb1 x2_0 sR_0
      have z2_1 := (hb1.frozen (p := ⟨w.heap.size + 1, 2, none⟩) sR_0).trans z2_0
      have sP_1 := Nat.lt_of_lt_of_le sP_0 hb1.size
      have sR_1 := Nat.lt_of_lt_of_le sR_0 hb1.size
      clear RA0 hb1 a0_0 a1_0 a2_0 x0_0 z0_0 x1_0 z1_0 x2_0 z2_0 sP_0 sR_0
      go_wp2_with fail
      refine (differ2_any p a b _).mono ?_
      rw [H2.out]
      rintro e w2 ⟨rfl, hb2⟩
      have k2 := k1.trans (hb2.mono k1.size)
      have RA2 := (RA1.below hb2 (Nat.le_refl _)).more hb2.size
      have a0_2 := carry hb2 a0_1 sP_1
      have a1_2 := carry hb2 a1_1 sP_1
      have a2_2 := carry hb2 a2_1 sP_1
      have x0_2 := carry hb2 x0_1 sR_1
      have z0_2 := (hb2.frozen (p := ⟨w.heap.size + 1, 0, none⟩) sR_1).trans z0_1
      have x1_2 := carry hb2 x1_1 sR_1
      have z1_2 := (hb2.frozen (p := ⟨w.heap.size + 1, 1, none⟩) sR_1).trans z1_1
      have x2_2 := carry hb2 x2_1 sR_1
      have z2_2 := (hb2.frozen (p := ⟨w.heap.size + 1, 2, none⟩) sR_1).trans z2_1
      have sP_2 := Nat.lt_of_lt_of_le sP_1 hb2.size
      have sR_2 := Nat.lt_of_lt_of_le sR_1 hb2.size
      clear RA1 hb2 a0_1 a1_1 a2_1 x0_1 z0_1 x1_1 z1_1 x2_1 z2_1 sP_1 sR_1
      go_wp2
      refine bodyPost_ret (v := .tuple #[.agg #[.int .i64 0, .int .i64 0, .slice none 0 0], .bool false]) (by simp [results, Try.results25, go_sem, x0_2, x1_2, x2_2]) rfl ?_
      exact ⟨none, 0, rfl, World.ownsRow_nil _ _ _ _, (((k2.setCell (p := ⟨w.heap.size + 1, 0, none⟩) (by simp) _).setCell (p := ⟨w.heap.size + 1, 1, none⟩) (by simp) _).setCell (p := ⟨w.heap.size + 1, 2, none⟩) (by simp) _)⟩
    | true =>
      cases h3 : isColB k x with
      | false =>
        have e : resPaintPair p k l a b x = (0, 0, [], false) := by simp [resPaintPair, twoX_diff, h1, h2, h3]
        rw [e]
        have H1 := Lib.hid h1
        have H2 := Lib.hid h2
        have H3 := Lib.hid h3
        clear e h1 h2 h3
        go_enter Try.func25, Try.ntmps25
        go_wp2_with fail
        rw [HW.out]
        refine (isPainting_any p k l A c _ hl RA0).mono ?_
        rw [H1.out]
        rintro e w1 ⟨rfl, hb1⟩
        have k1 := k0.trans (hb1.mono k0.size)
        have RA1 := (RA0.below hb1 (Nat.le_refl _)).more hb1.size
        have a0_1 := carry hb1 a0_0 sP_0
        have a1_1 := carry hb1 a1_0 sP_0
        have a2_1 := carry hb1 a2_0 sP_0
        have x0_1 := carry hb1 x0_0 sR_0
        have z0_1 := (hb1.frozen (p := ⟨w.heap.size + 1, 0, none⟩) sR_0).trans z0_0
        have x1_1 := carry hb1 x1_0 sR_0
        have z1_1 := (hb1.frozen (p := ⟨w.heap.size + 1, 1, none⟩) sR_0).trans z1_0
        have x2_1 := carry hb1 x2_0 sR_0
        have z2_1 := (hb1.frozen (p := ⟨w.heap.size + 1, 2, none⟩) sR_0).trans z2_0
        have sP_1 := Nat.lt_of_lt_of_le sP_0 hb1.size
        have sR_1 := Nat.lt_of_lt_of_le sR_0 hb1.size
        clear RA0 hb1 a0_0 a1_0 a2_0 x0_0 z0_0 x1_0 z1_0 x2_0 z2_0 sP_0 sR_0
        go_wp2_with fail
        refine (differ2_any p a b _).mono ?_
        rw [H2.out]
        rintro e w2 ⟨rfl, hb2⟩
        have k2 := k1.trans (hb2.mono k1.size)
        have RA2 := (RA1.below hb2 (Nat.le_refl _)).more hb2.size
        have a0_2 := carry hb2 a0_1 sP_1
        have a1_2 := carry hb2 a1_1 sP_1
        have a2_2 := carry hb2 a2_1 sP_1
        have x0_2 := carry hb2 x0_1 sR_1
        have z0_2 := (hb2.frozen (p := ⟨w.heap.size + 1, 0, none⟩) sR_1).trans z0_1
        have x1_2 := carry hb2 x1_1 sR_1
        have z1_2 := (hb2.frozen (p := ⟨w.heap.size + 1, 1, none⟩) sR_1).trans z1_1
        have x2_2 := carry hb2 x2_1 sR_1
        have z2_2 := (hb2.frozen (p := ⟨w.heap.size + 1, 2, none⟩) sR_1).trans z2_1
        have sP_2 := Nat.lt_of_lt_of_le sP_1 hb2.size
        have sR_2 := Nat.lt_of_lt_of_le sR_1 hb2.size
        clear RA1 hb2 a0_1 a1_1 a2_1 x0_1 z0_1 x1_1 z1_1 x2_1 z2_1 sP_1 sR_1
        go_wp2_with fail
        refine (isColour_any p k l A c x _).mono ?_
        rw [H3.out]
        rintro e w3 ⟨rfl, hb3⟩
        have k3 := k2.trans (hb3.mono k2.size)
        have RA3 := (RA2.below hb3 (Nat.le_refl _)).more hb3.size
        have a0_3 := carry hb3 a0_2 sP_2
        have a1_3 := carry hb3 a1_2 sP_2
        have a2_3 := carry hb3 a2_2 sP_2
        have x0_3 := carry hb3 x0_2 sR_2
        have z0_3 := (hb3.frozen (p := ⟨w.heap.size + 1, 0, none⟩) sR_2).trans z0_2
        have x1_3 := carry hb3 x1_2 sR_2
        have z1_3 := (hb3.frozen (p := ⟨w.heap.size + 1, 1, none⟩) sR_2).trans z1_2
        have x2_3 := carry hb3 x2_2 sR_2
        have z2_3 := (hb3.frozen (p := ⟨w.heap.size + 1, 2, none⟩) sR_2).trans z2_2
        have sP_3 := Nat.lt_of_lt_of_le sP_2 hb3.size
        have sR_3 := Nat.lt_of_lt_of_le sR_2 hb3.size
        clear RA2 hb3 a0_2 a1_2 a2_2 x0_2 z0_2 x1_2 z1_2 x2_2 z2_2 sP_2 sR_2
        go_wp2
        refine bodyPost_ret (v := .tuple #[.agg #[.int .i64 0, .int .i64 0, .slice none 0 0], .bool false]) (by simp [results, Try.results25, go_sem, x0_3, x1_3, x2_3]) rfl ?_
        exact ⟨none, 0, rfl, World.ownsRow_nil _ _ _ _, (((k3.setCell (p := ⟨w.heap.size + 1, 0, none⟩) (by simp) _).setCell (p := ⟨w.heap.size + 1, 1, none⟩) (by simp) _).setCell (p := ⟨w.heap.size + 1, 2, none⟩) (by simp) _)⟩
      | true =>
        have H1 := Lib.hid h1
        have H2 := Lib.hid h2
        have H3 := Lib.hid h3
        have h5 : twoX p k l a b = true := by rw [twoX_diff, h1, h2]; rfl
        obtain ⟨hX, ⟨hp0, hp1⟩, ⟨hq0, hq1⟩, hne⟩ := twoX_parts h5
        obtain ⟨n, rfl⟩ : ∃ n : Nat, p = n := ⟨p.toNat, by omega⟩
        obtain ⟨i, rfl⟩ : ∃ i : Nat, a = i := ⟨a.toNat, by omega⟩
        obtain ⟨j, rfl⟩ : ∃ j : Nat, b = j := ⟨b.toNat, by omega⟩
        have hn8 := (isX_parts hX).1
        have hsm := isX_small hX
        have hcol := colsP_paint hX (i := i) (j := j) (by omega) (by omega) (by omega) x
        have e : resPaintPair n k l i j x = ((n : Int), k, l.set (atP n (min i j) (max i j)) x, true) := by unfold resPaintPair; rw [h5, h3, Bool.and_self, if_pos rfl]; simp
        rw [e, ← hcol]
        have hcl := colsP_len n (paintF (shX n l) i j x)
        have hi8 : i < 8 := by omega
        have hj8 : j < 8 := by omega
        have call := fun (X : World) (hR : CRead X X.heap.size A (icells l)) => shadesOf_any n k l A c X hX hR
        have callw := fun (X : World) => with_any (shX n l) i j x hi8 hj8 X
        have callp := fun (X : World) => painting_any (paintF (shX n l) i j x) n k (by omega) X
        obtain ⟨R, hR⟩ : ∃ R, colsP n (paintF (shX n l) i j x) = R := ⟨_, rfl⟩
        obtain ⟨f, hf⟩ : ∃ f, shX n l = f := ⟨_, rfl⟩
        simp only [hR] at callp ⊢
        simp only [hf] at call callw callp
        obtain ⟨S, hS⟩ : ∃ S, shC f = S := ⟨_, rfl⟩
        obtain ⟨T, hT⟩ : ∃ T, shC (paintF f i j x) = T := ⟨_, rfl⟩
        simp only [hS, hT] at call callw callp
        have Call := Lib.hid call
        have Callw := Lib.hid callw
        have Callp := Lib.hid callp
        clear e h1 h2 h3 h5 hf hS hT hR call callw callp hcol hcl hX hp0 hp1 hq0 hq1 hne hn8
        go_enter Try.func25, Try.ntmps25
        go_wp2_with fail
        rw [HW.out]
        refine (isPainting_any n k l A c _ hl RA0).mono ?_
        rw [H1.out]
        rintro e w1 ⟨rfl, hb1⟩
        have k1 := k0.trans (hb1.mono k0.size)
        have RA1 := (RA0.below hb1 (Nat.le_refl _)).more hb1.size
        have a0_1 := carry hb1 a0_0 sP_0
        have a1_1 := carry hb1 a1_0 sP_0
        have a2_1 := carry hb1 a2_0 sP_0
        have x0_1 := carry hb1 x0_0 sR_0
        have z0_1 := (hb1.frozen (p := ⟨w.heap.size + 1, 0, none⟩) sR_0).trans z0_0
        have x1_1 := carry hb1 x1_0 sR_0
        have z1_1 := (hb1.frozen (p := ⟨w.heap.size + 1, 1, none⟩) sR_0).trans z1_0
        have x2_1 := carry hb1 x2_0 sR_0
        have z2_1 := (hb1.frozen (p := ⟨w.heap.size + 1, 2, none⟩) sR_0).trans z2_0
        have sP_1 := Nat.lt_of_lt_of_le sP_0 hb1.size
        have sR_1 := Nat.lt_of_lt_of_le sR_0 hb1.size
        clear RA0 hb1 a0_0 a1_0 a2_0 x0_0 z0_0 x1_0 z1_0 x2_0 z2_0 sP_0 sR_0
        go_wp2_with fail
        refine (differ2_any n i j _).mono ?_
        rw [H2.out]
        rintro e w2 ⟨rfl, hb2⟩
        have k2 := k1.trans (hb2.mono k1.size)
        have RA2 := (RA1.below hb2 (Nat.le_refl _)).more hb2.size
        have a0_2 := carry hb2 a0_1 sP_1
        have a1_2 := carry hb2 a1_1 sP_1
        have a2_2 := carry hb2 a2_1 sP_1
        have x0_2 := carry hb2 x0_1 sR_1
        have z0_2 := (hb2.frozen (p := ⟨w.heap.size + 1, 0, none⟩) sR_1).trans z0_1
        have x1_2 := carry hb2 x1_1 sR_1
        have z1_2 := (hb2.frozen (p := ⟨w.heap.size + 1, 1, none⟩) sR_1).trans z1_1
        have x2_2 := carry hb2 x2_1 sR_1
        have z2_2 := (hb2.frozen (p := ⟨w.heap.size + 1, 2, none⟩) sR_1).trans z2_1
        have sP_2 := Nat.lt_of_lt_of_le sP_1 hb2.size
        have sR_2 := Nat.lt_of_lt_of_le sR_1 hb2.size
        clear RA1 hb2 a0_1 a1_1 a2_1 x0_1 z0_1 x1_1 z1_1 x2_1 z2_1 sP_1 sR_1
        go_wp2_with fail
        refine (isColour_any n k l A c x _).mono ?_
        rw [H3.out]
        rintro e w3 ⟨rfl, hb3⟩
        have k3 := k2.trans (hb3.mono k2.size)
        have RA3 := (RA2.below hb3 (Nat.le_refl _)).more hb3.size
        have a0_3 := carry hb3 a0_2 sP_2
        have a1_3 := carry hb3 a1_2 sP_2
        have a2_3 := carry hb3 a2_2 sP_2
        have x0_3 := carry hb3 x0_2 sR_2
        have z0_3 := (hb3.frozen (p := ⟨w.heap.size + 1, 0, none⟩) sR_2).trans z0_2
        have x1_3 := carry hb3 x1_2 sR_2
        have z1_3 := (hb3.frozen (p := ⟨w.heap.size + 1, 1, none⟩) sR_2).trans z1_2
        have x2_3 := carry hb3 x2_2 sR_2
        have z2_3 := (hb3.frozen (p := ⟨w.heap.size + 1, 2, none⟩) sR_2).trans z2_2
        have sP_3 := Nat.lt_of_lt_of_le sP_2 hb3.size
        have sR_3 := Nat.lt_of_lt_of_le sR_2 hb3.size
        clear RA2 hb3 a0_2 a1_2 a2_2 x0_2 z0_2 x1_2 z1_2 x2_2 z2_2 sP_2 sR_2
        have X0 := Lib.hid x0_3
        have X1 := Lib.hid x1_3
        have X2 := Lib.hid x2_3
        have Z0 := Lib.hid z0_3
        have Z1 := Lib.hid z1_3
        have Z2 := Lib.hid z2_3
        clear x0_3 x1_3 x2_3 z0_3 z1_3 z2_3
        go_wp2_with fail
        go_region_held3 (fun w' => w'.cell? ⟨w.heap.size, 0, none⟩ = some (.int .i64 n) ∧ w'.cell? ⟨w.heap.size, 1, none⟩ = some (.int .i64 k) ∧ w'.cell? ⟨w.heap.size, 2, none⟩ = some (.slice A l.length c)) (first | exact ⟨a0_3, a1_3, a2_3⟩ | exact ⟨b0, b1, b2⟩ | exact ⟨c0, c1, c2⟩ | exact ⟨d0, d1, d2⟩ | exact ⟨(World.cell?_setCell_other _ _ _ _ (by simp)).trans ((World.cell?_setCell_other _ _ _ _ (by simp)).trans ((World.cell?_setCell_other _ _ _ _ (by simp)).trans d0)), (World.cell?_setCell_other _ _ _ _ (by simp)).trans ((World.cell?_setCell_other _ _ _ _ (by simp)).trans ((World.cell?_setCell_other _ _ _ _ (by simp)).trans d1)), (World.cell?_setCell_other _ _ _ _ (by simp)).trans ((World.cell?_setCell_other _ _ _ _ (by simp)).trans ((World.cell?_setCell_other _ _ _ _ (by simp)).trans d2))⟩) ((first
          | (go_at_call 70; refine (Call.out _ ((hA.below k3.drew (Nat.le_refl _)).more k3.size)).mono ?_; rintro e v1 ⟨rfl, hb4⟩; have g1 : Below w3.heap.size w3 v1 := (Below.refl _ _).drew.trans hb4; have b0 := carry g1 a0_3 sP_3; have b1 := carry g1 a1_3 sP_3; have b2 := carry g1 a2_3 sP_3; have s4 := g1.size)
          | (go_at_call 74; refine (Callw.out _).mono ?_; rintro e v2 ⟨rfl, hb5⟩; have g2 : Below w3.heap.size w3 v2 := g1.trans (hb5.mono s4); have c0 := carry g2 a0_3 sP_3; have c1 := carry g2 a1_3 sP_3; have c2 := carry g2 a2_3 sP_3; have s5 := g2.size)
          | (go_at_call 75; refine (Callp.out _).mono ?_; rintro e v3 ⟨A3, d3, rfl, own3, hb6⟩; have g3 : Below w3.heap.size w3 v3 := g2.trans (hb6.mono s5); have d0 := carry g3 a0_3 sP_3; have d1 := carry g3 a1_3 sP_3; have d2 := carry g3 a2_3 sP_3; have s6 := g3.size; have y0 := carry g3 X0.out sR_3; have y1 := carry g3 X1.out sR_3; have y2 := carry g3 X2.out sR_3; have f0 := (g3.frozen (p := ⟨w.heap.size + 1, 0, none⟩) sR_3).trans Z0.out; have f1 := (g3.frozen (p := ⟨w.heap.size + 1, 1, none⟩) sR_3).trans Z1.out; have f2 := (g3.frozen (p := ⟨w.heap.size + 1, 2, none⟩) sR_3).trans Z2.out)
          | skip))
        all_goals (go_wp2)
        all_goals (refine bodyPost_ret (v := .tuple #[.agg #[.int .i64 n, .int .i64 k, .slice A3 R.length d3], .bool true]) (by simp [results, Try.results25, go_sem, y0, y1, y2]) rfl ?_)
        all_goals (exact ⟨A3, d3, rfl, own_lower (ownsRow_setCell_below (ownsRow_setCell_below (ownsRow_setCell_below own3 (a := ⟨w.heap.size + 1, 0, none⟩) (by simp; omega) _) (a := ⟨w.heap.size + 1, 1, none⟩) (by simp; omega) _) (a := ⟨w.heap.size + 1, 2, none⟩) (by simp; omega) _) (by omega),
          (((k3.trans (g3.mono k3.size)).setCell (p := ⟨w.heap.size + 1, 0, none⟩) (by simp) _).setCell (p := ⟨w.heap.size + 1, 1, none⟩) (by simp) _).setCell (p := ⟨w.heap.size + 1, 2, none⟩) (by simp) _⟩)
set_option maxHeartbeats 4000000 in
set_option maxRecDepth 100000 in
theorem specPaintPair_any (p k : Int) (l : List Int) (A : Option Addr) (c : Nat) (a : Int) (b : Int) (x : Int) (w : World) (hl : l.length ≤ 1048576) (hA : CRead w w.heap.size A (icells l)) (h0 : A = none → c = 0) :
    Calls Try.prog 24 #[.agg #[.int .i64 p, .int .i64 k, .slice A l.length c], .int .i64 a, .int .i64 b, .int .i64 x] w (GotPaintOk w (resPaintPair p k l a b x).1 (resPaintPair p k l a b x).2.1 (resPaintPair p k l a b x).2.2.1 (resPaintPair p k l a b x).2.2.2) := by
  obtain ⟨w0, hW⟩ : ∃ W, (w.alloc (Obj.cells #[.int .i64 p, .int .i64 k, .slice A l.length c] 27)).alloc (Obj.cells #[.int .i64 0, .int .i64 0, .slice none 0 0] 27) = W := ⟨_, rfl⟩
  have a0_0 : w0.cell? ⟨w.heap.size, 0, none⟩ = some (.int .i64 p) := by rw [← hW]; simp
  have a1_0 : w0.cell? ⟨w.heap.size, 1, none⟩ = some (.int .i64 k) := by rw [← hW]; simp
  have a2_0 : w0.cell? ⟨w.heap.size, 2, none⟩ = some (.slice A l.length c) := by rw [← hW]; simp
  have x0_0 : w0.cell? ⟨w.heap.size + 1, 0, none⟩ = some (.int .i64 0) := by rw [← hW]; simp
  have z0_0 : w0.frozen? ⟨w.heap.size + 1, 0, none⟩ = false := by rw [← hW]; simp
  have x1_0 : w0.cell? ⟨w.heap.size + 1, 1, none⟩ = some (.int .i64 0) := by rw [← hW]; simp
  have z1_0 : w0.frozen? ⟨w.heap.size + 1, 1, none⟩ = false := by rw [← hW]; simp
  have x2_0 : w0.cell? ⟨w.heap.size + 1, 2, none⟩ = some (.slice none 0 0) := by rw [← hW]; simp
  have z2_0 : w0.frozen? ⟨w.heap.size + 1, 2, none⟩ = false := by rw [← hW]; simp
  have k0 : Below w.heap.size w w0 := by rw [← hW]; go_grown
  have sP_0 : w.heap.size < w0.heap.size := by rw [← hW]; simp only [World.size_alloc]; omega
  have sR_0 : w.heap.size + 1 < w0.heap.size := by rw [← hW]; simp only [World.size_alloc]; omega
  have RA0 : CRead w0 w0.heap.size A (icells l) := (hA.below k0 (Nat.le_refl _)).more k0.size
  have HW := Lib.hid hW
  clear hW
  cases h1 : twoX p k l a b with
  | false =>
    have e : resPaintPair p k l a b x = (0, 0, [], false) := by simp [resPaintPair, h1]
    rw [e]
    have H1 := Lib.hid h1
    clear e h1
    go_enter Try.func24, Try.ntmps24
    go_wp2_with fail
    rw [HW.out]
    refine (ptTwo_any p k l A c a b _ hl RA0).mono ?_
    rw [H1.out]
    rintro e w1 ⟨rfl, hb1⟩
    have k1 := k0.trans (hb1.mono k0.size)
    have RA1 := (RA0.below hb1 (Nat.le_refl _)).more hb1.size
    have a0_1 := carry hb1 a0_0 sP_0
    have a1_1 := carry hb1 a1_0 sP_0
    have a2_1 := carry hb1 a2_0 sP_0
    have x0_1 := carry hb1 x0_0 sR_0
    have z0_1 := (hb1.frozen (p := ⟨w.heap.size + 1, 0, none⟩) sR_0).trans z0_0
    have x1_1 := carry hb1 x1_0 sR_0
    have z1_1 := (hb1.frozen (p := ⟨w.heap.size + 1, 1, none⟩) sR_0).trans z1_0
    have x2_1 := carry hb1 x2_0 sR_0
    have z2_1 := (hb1.frozen (p := ⟨w.heap.size + 1, 2, none⟩) sR_0).trans z2_0
    have sP_1 := Nat.lt_of_lt_of_le sP_0 hb1.size
    have sR_1 := Nat.lt_of_lt_of_le sR_0 hb1.size
    clear RA0 hb1 a0_0 a1_0 a2_0 x0_0 z0_0 x1_0 z1_0 x2_0 z2_0 sP_0 sR_0
    go_wp2
    refine bodyPost_ret (v := .tuple #[.agg #[.int .i64 0, .int .i64 0, .slice none 0 0], .bool false]) (by simp [results, Try.results24, go_sem, x0_1, x1_1, x2_1]) rfl ?_
    exact ⟨none, 0, rfl, World.ownsRow_nil _ _ _ _, (((k1.setCell (p := ⟨w.heap.size + 1, 0, none⟩) (by simp) _).setCell (p := ⟨w.heap.size + 1, 1, none⟩) (by simp) _).setCell (p := ⟨w.heap.size + 1, 2, none⟩) (by simp) _)⟩
  | true =>
    obtain ⟨hk0, hk1⟩ := (isX_parts (twoX_parts h1).1).2.1
    cases h2 : isColB k x with
    | false =>
      have e : resPaintPair p k l a b x = (0, 0, [], false) := by simp [resPaintPair, h1, h2]
      rw [e]
      have H1 := Lib.hid h1
      have H2 := Lib.hid h2
      clear e h1 h2
      go_enter Try.func24, Try.ntmps24
      go_wp2_with fail
      rw [HW.out]
      refine (ptTwo_any p k l A c a b _ hl RA0).mono ?_
      rw [H1.out]
      rintro e w1 ⟨rfl, hb1⟩
      have k1 := k0.trans (hb1.mono k0.size)
      have RA1 := (RA0.below hb1 (Nat.le_refl _)).more hb1.size
      have a0_1 := carry hb1 a0_0 sP_0
      have a1_1 := carry hb1 a1_0 sP_0
      have a2_1 := carry hb1 a2_0 sP_0
      have x0_1 := carry hb1 x0_0 sR_0
      have z0_1 := (hb1.frozen (p := ⟨w.heap.size + 1, 0, none⟩) sR_0).trans z0_0
      have x1_1 := carry hb1 x1_0 sR_0
      have z1_1 := (hb1.frozen (p := ⟨w.heap.size + 1, 1, none⟩) sR_0).trans z1_0
      have x2_1 := carry hb1 x2_0 sR_0
      have z2_1 := (hb1.frozen (p := ⟨w.heap.size + 1, 2, none⟩) sR_0).trans z2_0
      have sP_1 := Nat.lt_of_lt_of_le sP_0 hb1.size
      have sR_1 := Nat.lt_of_lt_of_le sR_0 hb1.size
      clear RA0 hb1 a0_0 a1_0 a2_0 x0_0 z0_0 x1_0 z1_0 x2_0 z2_0 sP_0 sR_0
      go_wp2_with fail
      refine (colIn_any k x _).mono ?_
      rw [H2.out]
      rintro e w2 ⟨rfl, hb2⟩
      have k2 := k1.trans (hb2.mono k1.size)
      have RA2 := (RA1.below hb2 (Nat.le_refl _)).more hb2.size
      have a0_2 := carry hb2 a0_1 sP_1
      have a1_2 := carry hb2 a1_1 sP_1
      have a2_2 := carry hb2 a2_1 sP_1
      have x0_2 := carry hb2 x0_1 sR_1
      have z0_2 := (hb2.frozen (p := ⟨w.heap.size + 1, 0, none⟩) sR_1).trans z0_1
      have x1_2 := carry hb2 x1_1 sR_1
      have z1_2 := (hb2.frozen (p := ⟨w.heap.size + 1, 1, none⟩) sR_1).trans z1_1
      have x2_2 := carry hb2 x2_1 sR_1
      have z2_2 := (hb2.frozen (p := ⟨w.heap.size + 1, 2, none⟩) sR_1).trans z2_1
      have sP_2 := Nat.lt_of_lt_of_le sP_1 hb2.size
      have sR_2 := Nat.lt_of_lt_of_le sR_1 hb2.size
      clear RA1 hb2 a0_1 a1_1 a2_1 x0_1 z0_1 x1_1 z1_1 x2_1 z2_1 sP_1 sR_1
      go_wp2
      refine bodyPost_ret (v := .tuple #[.agg #[.int .i64 0, .int .i64 0, .slice none 0 0], .bool false]) (by simp [results, Try.results24, go_sem, x0_2, x1_2, x2_2]) rfl ?_
      exact ⟨none, 0, rfl, World.ownsRow_nil _ _ _ _, (((k2.setCell (p := ⟨w.heap.size + 1, 0, none⟩) (by simp) _).setCell (p := ⟨w.heap.size + 1, 1, none⟩) (by simp) _).setCell (p := ⟨w.heap.size + 1, 2, none⟩) (by simp) _)⟩
    | true =>
      have H1 := Lib.hid h1
      have H2 := Lib.hid h2
      obtain ⟨hX, ⟨hp0, hp1⟩, ⟨hq0, hq1⟩, hne⟩ := twoX_parts h1
      obtain ⟨n, rfl⟩ : ∃ n : Nat, p = n := ⟨p.toNat, by omega⟩
      obtain ⟨i, rfl⟩ : ∃ i : Nat, a = i := ⟨a.toNat, by omega⟩
      obtain ⟨j, rfl⟩ : ∃ j : Nat, b = j := ⟨b.toNat, by omega⟩
      have hn8 := (isX_parts hX).1
      have hsm := isX_small hX
      have e : resPaintPair n k l i j x = ((n : Int), k, l.set (atP n (min i j) (max i j)) x, true) := by unfold resPaintPair; rw [h1, h2, Bool.and_self, if_pos rfl]; simp
      rw [e]
      have hlt : atP n (min i j) (max i j) < l.length := by rw [isX_len hX, Int.toNat_natCast]; exact atP_lt (by omega) (by omega) (by omega)
      have call := fun (X : World) => ptAt_any n i j (by omega) (by omega) (by omega) (by omega) X
      obtain ⟨q, hq⟩ : ∃ q, atP n (min i j) (max i j) = q := ⟨_, rfl⟩
      simp only [hq] at call hlt ⊢
      have hqi : (q : Int) < (l.length : Int) := by omega
      have Call := Lib.hid call
      clear e h1 h2 hq call hX hp0 hp1 hq0 hq1 hne hn8
      go_enter Try.func24, Try.ntmps24
      go_wp2_with fail
      rw [HW.out]
      refine (ptTwo_any n k l A c i j _ hl RA0).mono ?_
      rw [H1.out]
      rintro e w1 ⟨rfl, hb1⟩
      have k1 := k0.trans (hb1.mono k0.size)
      have RA1 := (RA0.below hb1 (Nat.le_refl _)).more hb1.size
      have a0_1 := carry hb1 a0_0 sP_0
      have a1_1 := carry hb1 a1_0 sP_0
      have a2_1 := carry hb1 a2_0 sP_0
      have x0_1 := carry hb1 x0_0 sR_0
      have z0_1 := (hb1.frozen (p := ⟨w.heap.size + 1, 0, none⟩) sR_0).trans z0_0
      have x1_1 := carry hb1 x1_0 sR_0
      have z1_1 := (hb1.frozen (p := ⟨w.heap.size + 1, 1, none⟩) sR_0).trans z1_0
      have x2_1 := carry hb1 x2_0 sR_0
      have z2_1 := (hb1.frozen (p := ⟨w.heap.size + 1, 2, none⟩) sR_0).trans z2_0
      have sP_1 := Nat.lt_of_lt_of_le sP_0 hb1.size
      have sR_1 := Nat.lt_of_lt_of_le sR_0 hb1.size
      clear RA0 hb1 a0_0 a1_0 a2_0 x0_0 z0_0 x1_0 z1_0 x2_0 z2_0 sP_0 sR_0
      go_wp2_with fail
      refine (colIn_any k x _).mono ?_
      rw [H2.out]
      rintro e w2 ⟨rfl, hb2⟩
      have k2 := k1.trans (hb2.mono k1.size)
      have RA2 := (RA1.below hb2 (Nat.le_refl _)).more hb2.size
      have a0_2 := carry hb2 a0_1 sP_1
      have a1_2 := carry hb2 a1_1 sP_1
      have a2_2 := carry hb2 a2_1 sP_1
      have x0_2 := carry hb2 x0_1 sR_1
      have z0_2 := (hb2.frozen (p := ⟨w.heap.size + 1, 0, none⟩) sR_1).trans z0_1
      have x1_2 := carry hb2 x1_1 sR_1
      have z1_2 := (hb2.frozen (p := ⟨w.heap.size + 1, 1, none⟩) sR_1).trans z1_1
      have x2_2 := carry hb2 x2_1 sR_1
      have z2_2 := (hb2.frozen (p := ⟨w.heap.size + 1, 2, none⟩) sR_1).trans z2_1
      have sP_2 := Nat.lt_of_lt_of_le sP_1 hb2.size
      have sR_2 := Nat.lt_of_lt_of_le sR_1 hb2.size
      clear RA1 hb2 a0_1 a1_1 a2_1 x0_1 z0_1 x1_1 z1_1 x2_1 z2_1 sP_1 sR_1
      go_wp2_with fail
      refine (ptOwn_any n k l A c _ hl RA2 h0).mono ?_
      rintro e w3 ⟨A3, c3, rfl, own3, hb3⟩
      have k3 := k2.trans (hb3.mono k2.size)
      have s3 := hb3.size
      have u0 := carry hb3 a0_2 sP_2
      have sR3 : w.heap.size + 1 < w3.heap.size := Nat.lt_of_lt_of_le sR_2 s3
      obtain ⟨g, rfl⟩ := own_form own3 (by omega)
      have rel0 : PBox w2.heap.size w2 (w3.alloc (Obj.cells #[.int .i64 n, .int .i64 k, .slice (some ⟨g, 0, none⟩) l.length c3] 27)) n k w3.heap.size (.slice (some ⟨g, 0, none⟩) l.length c3) l :=
        ⟨hb3.alloc s3 _, s3, heap_alloc_new w3 _, own3.alloc _⟩
      obtain ⟨X, hX⟩ : ∃ X, w3.alloc (Obj.cells #[.int .i64 n, .int .i64 k, .slice (some ⟨g, 0, none⟩) l.length c3] 27) = X := ⟨_, rfl⟩
      rw [hX] at rel0
      have u1 : X.cell? ⟨w.heap.size, 0, none⟩ = some (.int .i64 n) := by rw [← hX]; exact (World.cell?_alloc_lt _ _ _ (by simp; omega)).trans u0
      have X0 := Lib.hid x0_2
      have X1 := Lib.hid x1_2
      have X2 := Lib.hid x2_2
      have Z0 := Lib.hid z0_2
      have Z1 := Lib.hid z1_2
      have Z2 := Lib.hid z2_2
      clear x0_2 x1_2 x2_2 z0_2 z1_2 z2_2 a0_2 a1_2 a2_2 u0 hb3 own3
      go_wp2_with fail
      obtain ⟨G, hG⟩ : ∃ G, w3.heap.size = G := ⟨_, rfl⟩
      rw [hG] at rel0 sR3 ⊢
      clear hX hG
      obtain ⟨b0, b1, b2, bf⟩ := rel0.cells
      have fz := rel0.own.frozenAt q
      obtain ⟨y, hy⟩ := getSome l q hlt
      have d0 := own_intAt rel0.own hy
      have rel1 := rel0.set rfl q x
      have Rel0 := Lib.hid rel0
      have Rel1 := Lib.hid rel1
      have hGX := rel0.lt
      have hPX : w.heap.size < X.heap.size := by omega
      clear rel0 rel1 hy bf
      refine wp_region_still_tail 9 (by kernel_rfl) (by kernel_rfl) ?_
      simp only [List.take_succ_cons, List.take_zero, List.drop_succ_cons, List.drop_zero]
      repeat still_step
      still_call ((Call.out _).mono fun _ _ ⟨he, hw⟩ => ⟨he, hw.symm⟩)
      repeat still_step
      refine wpStill_nil ?_
      change wpList _ _ _ _ _ (World.drew _)
      go_upto_region 5 with fail
      obtain ⟨Y, hY⟩ : ∃ Y, (X.setCell ⟨g, q, none⟩ (.int .i64 x)).drew = Y := ⟨_, rfl⟩
      rw [hY]
      have relY : PBox w2.heap.size w2 Y n k G (.slice (some ⟨g, 0, none⟩) l.length c3) (l.set q x) := by
        rw [← hY]
        exact ⟨Rel1.out.below.drew, Rel1.out.gB, Rel1.out.box, Rel1.out.own⟩
      clear hY b0 b1 b2 fz d0 u1
      obtain ⟨b0, b1, b2, bf⟩ := relY.cells
      have gX := relY.below
      have r0 := carry gX X0.out sR_2
      have r1 := carry gX X1.out sR_2
      have r2 := carry gX X2.out sR_2
      have f0 := (gX.frozen (p := ⟨w.heap.size + 1, 0, none⟩) sR_2).trans Z0.out
      have f1 := (gX.frozen (p := ⟨w.heap.size + 1, 1, none⟩) sR_2).trans Z1.out
      have f2 := (gX.frozen (p := ⟨w.heap.size + 1, 2, none⟩) sR_2).trans Z2.out
      have hne : ¬ G = w.heap.size + 1 := by omega
      have kY : Below w.heap.size w Y := k2.trans (gX.mono k2.size)
      have RelY := Lib.hid relY
      have hll : (l.set q x).length = l.length := List.length_set
      have Hll := Lib.hid hll
      clear relY bf hll
      go_wp2
      refine bodyPost_ret (v := .tuple #[.agg #[.int .i64 n, .int .i64 k, .slice (some ⟨g, 0, none⟩) l.length c3], .bool true]) (by simp [results, Try.results24, go_sem, r0, r1, r2]) rfl ?_
      refine ⟨some ⟨g, 0, none⟩, c3, by rw [Hll.out], ?_, ((kY.setCell (p := ⟨w.heap.size + 1, 0, none⟩) (by simp) _).setCell (p := ⟨w.heap.size + 1, 1, none⟩) (by simp) _).setCell (p := ⟨w.heap.size + 1, 2, none⟩) (by simp) _⟩
      have ho := RelY.out.own
      rw [Hll.out] at ho ⊢
      exact own_lower (ownsRow_setCell_below (ownsRow_setCell_below (ownsRow_setCell_below ho (a := ⟨w.heap.size + 1, 0, none⟩) sR_2 _) (a := ⟨w.heap.size + 1, 1, none⟩) sR_2 _) (a := ⟨w.heap.size + 1, 2, none⟩) sR_2 _) (by omega)
end Go.Proofs.Ytepoabbkalhifaa
/-
  'laws.FnExactPaintPair' returns true, whatever its arguments: out of the contracts of the model's function and of the program's.
-/
namespace Go.Proofs.Ytepoabbkalhifaa
open Go.RowKit

set_option maxHeartbeats 4000000 in
set_option maxRecDepth 100000 in
theorem lawPaintPair_any (p0 k0 : Int) (l0 : List Int) (A0 : Option Addr) (c0 : Nat) (i1 : Int) (i2 : Int) (i3 : Int) (W : World) (hl0 : l0.length ≤ maxLen) (hA0 : CRead W W.heap.size A0 (icells l0)) :
    Calls Try.prog 5 #[.agg #[.int .i64 p0, .int .i64 k0, .slice A0 l0.length c0], .int .i64 i1, .int .i64 i2, .int .i64 i3] W fun e w' => e = .returned (.bool true) ∧ Below W.heap.size W w' := by
  have hone : (0 : Int) ≤ 1 ∧ (1 : Int) ≤ 16777216 := by omega
  by_cases hz0 : szI (1048576) l0.length < 0
  · go_enter Try.func5, Try.ntmps5
    go_wp2_with fail
    refine (szPainting_any _ _ _ _ _ _ hl0 (by omega) (by omega) _).mono ?_
    rintro e w1 ⟨rfl, hb1⟩
    simp only [World.size_alloc] at hb1
    have g1 : Below W.heap.size W w1 := Below.trans (b := _) (by go_grown) (hb1.mono (by omega))
    have s1 := hb1.size
    simp only [World.size_alloc] at s1
    have f1_0 : w1.cell? ⟨W.heap.size, 0, none⟩ = some (.int .i64 p0) := carry hb1 (by simp) (by omega)
    have f1_1 : w1.cell? ⟨W.heap.size, 1, none⟩ = some (.int .i64 k0) := carry hb1 (by simp) (by omega)
    have f1_2 : w1.cell? ⟨W.heap.size, 2, none⟩ = some (.slice A0 l0.length c0) := carry hb1 (by simp) (by omega)
    have k1 : Below W.heap.size W w1 := g1
    go_wp2
    go_ret
    exact ⟨rfl, k1⟩
  have hn0 : l0.length ≤ 1048576 := by have h1 := szI_len _ _ hz0; have h2 := szI_hi (1048576) l0.length (by omega); omega
  have hz0' : 0 ≤ szI (1048576) l0.length := by omega
  have hz0'' : szI (1048576) l0.length ≤ 1048576 := by have h2 := szI_hi (1048576) l0.length (by omega); omega
  obtain ⟨⟨rq, rk, rm, rok⟩, hres⟩ : ∃ r, resPaintPair p0 k0 l0 i1 i2 i3 = r := ⟨_, rfl⟩
  have hrn : rm.length ≤ 1048576 := by have h := resPaintPair_len p0 k0 l0 i1 i2 i3; rw [hres] at h; exact h
  have hrl : rm.length ≤ maxLen := by unfold maxLen; omega
  have Hres := Lib.hid hres
  clear hres
  go_enter Try.func5, Try.ntmps5
  go_wp2_with fail
  refine (szPainting_any _ _ _ _ _ _ hl0 (by omega) (by omega) _).mono ?_
  rintro e w1 ⟨rfl, hb1⟩
  simp only [World.size_alloc] at hb1
  have g1 : Below W.heap.size W w1 := Below.trans (b := _) (by go_grown) (hb1.mono (by omega))
  have s1 := hb1.size
  simp only [World.size_alloc] at s1
  have f1_0 : w1.cell? ⟨W.heap.size, 0, none⟩ = some (.int .i64 p0) := carry hb1 (by simp) (by omega)
  have f1_1 : w1.cell? ⟨W.heap.size, 1, none⟩ = some (.int .i64 k0) := carry hb1 (by simp) (by omega)
  have f1_2 : w1.cell? ⟨W.heap.size, 2, none⟩ = some (.slice A0 l0.length c0) := carry hb1 (by simp) (by omega)
  have k1 : Below W.heap.size W w1 := g1
  go_wp2_with fail
  refine (toPainting_any p0 k0 l0 A0 c0 _ hn0 ((hA0.below k1 (Nat.le_refl _)).more k1.size)).mono ?_
  rintro e w2 ⟨T2, d2, rfl, n2, hb2⟩
  have g2 : Below w1.heap.size w1 w2 := hb2
  have s2 := hb2.size
  have f2_0 := carry g2 f1_0 (by omega)
  have f2_1 := carry g2 f1_1 (by omega)
  have f2_2 := carry g2 f1_2 (by omega)
  have k2 := k1.trans (g2.mono k1.size)
  clear f1_0 f1_1 f1_2
  have r2 : Lies (.slice T2 l0.length d2) (w1.heap.size) w2.heap.size := own_lies n2
  go_wp2_with fail
  refine (specPaintPair_any p0 k0 l0 _ _ i1 i2 i3 _ hn0 (CRead.of_own n2) (own_zero n2)).mono ?_
  rw [Hres.out]
  rintro e w3 ⟨T3, d3, rfl, n3, hb3⟩
  have g3 : Below w2.heap.size w2 w3 := hb3
  have s3 := hb3.size
  have f3_0 := carry g3 f2_0 (by omega)
  have f3_1 := carry g3 f2_1 (by omega)
  have f3_2 := carry g3 f2_2 (by omega)
  have o3_0 := own_below n2 g3 (Nat.le_refl _)
  have k3 := k2.trans (g3.mono k2.size)
  clear f2_0 f2_1 f2_2 n2
  have r3 : Lies (.slice T3 rm.length d3) (w2.heap.size) w3.heap.size := own_lies n3
  have q4_0 : (w3.alloc (Obj.cells #[.int .i64 rq, .int .i64 rk, .slice T3 rm.length d3] 27)).cell? ⟨W.heap.size, 0, none⟩ = some (.int .i64 p0) := (World.cell?_alloc_lt _ _ _ (show W.heap.size < w3.heap.size by omega)).trans f3_0
  have q4_1 : (w3.alloc (Obj.cells #[.int .i64 rq, .int .i64 rk, .slice T3 rm.length d3] 27)).cell? ⟨W.heap.size, 1, none⟩ = some (.int .i64 k0) := (World.cell?_alloc_lt _ _ _ (show W.heap.size < w3.heap.size by omega)).trans f3_1
  have q4_2 : (w3.alloc (Obj.cells #[.int .i64 rq, .int .i64 rk, .slice T3 rm.length d3] 27)).cell? ⟨W.heap.size, 2, none⟩ = some (.slice A0 l0.length c0) := (World.cell?_alloc_lt _ _ _ (show W.heap.size < w3.heap.size by omega)).trans f3_2
  clear o3_0 r2
  go_wp2_with fail
  refine (toPainting_any p0 k0 l0 A0 c0 _ hn0 ((hA0.below (B' := W.heap.size) (Below.trans k3 (by go_grown)) (Nat.le_refl _)).more (by go_size))).mono ?_
  rintro e w5 ⟨T5, d5, rfl, n5, hb5⟩
  simp only [World.size_alloc] at n5
  simp only [World.size_alloc] at hb5
  have g5 : Below w3.heap.size w3 w5 := Below.trans (b := _) (by go_grown) (hb5.mono (by omega))
  have s5 := hb5.size
  simp only [World.size_alloc] at s5
  have f5_0 := carry g5 f3_0 (by omega)
  have f5_1 := carry g5 f3_1 (by omega)
  have f5_2 := carry g5 f3_2 (by omega)
  have f5_3 : w5.cell? ⟨w3.heap.size, 0, none⟩ = some (.int .i64 rq) := carry hb5 (by simp) (by omega)
  have f5_4 : w5.cell? ⟨w3.heap.size, 1, none⟩ = some (.int .i64 rk) := carry hb5 (by simp) (by omega)
  have f5_5 : w5.cell? ⟨w3.heap.size, 2, none⟩ = some (.slice T3 rm.length d3) := carry hb5 (by simp) (by omega)
  have o5_0 := own_below n3 g5 (Nat.le_refl _)
  have k5 := k3.trans (g5.mono k3.size)
  clear f3_0 f3_1 f3_2 n3 q4_0 q4_1 q4_2
  have r5 : Lies (.slice T5 l0.length d5) (w3.heap.size + 1) w5.heap.size := own_lies n5
  have q6_0 : (w5.alloc (Obj.cells #[.int .i64 p0, .int .i64 k0, .slice T5 l0.length d5] 27)).cell? ⟨W.heap.size, 0, none⟩ = some (.int .i64 p0) := (World.cell?_alloc_lt _ _ _ (show W.heap.size < w5.heap.size by omega)).trans f5_0
  have q6_1 : (w5.alloc (Obj.cells #[.int .i64 p0, .int .i64 k0, .slice T5 l0.length d5] 27)).cell? ⟨W.heap.size, 1, none⟩ = some (.int .i64 k0) := (World.cell?_alloc_lt _ _ _ (show W.heap.size < w5.heap.size by omega)).trans f5_1
  have q6_2 : (w5.alloc (Obj.cells #[.int .i64 p0, .int .i64 k0, .slice T5 l0.length d5] 27)).cell? ⟨W.heap.size, 2, none⟩ = some (.slice A0 l0.length c0) := (World.cell?_alloc_lt _ _ _ (show W.heap.size < w5.heap.size by omega)).trans f5_2
  have q6_3 : (w5.alloc (Obj.cells #[.int .i64 p0, .int .i64 k0, .slice T5 l0.length d5] 27)).cell? ⟨w3.heap.size, 0, none⟩ = some (.int .i64 rq) := (World.cell?_alloc_lt _ _ _ (show w3.heap.size < w5.heap.size by omega)).trans f5_3
  have q6_4 : (w5.alloc (Obj.cells #[.int .i64 p0, .int .i64 k0, .slice T5 l0.length d5] 27)).cell? ⟨w3.heap.size, 1, none⟩ = some (.int .i64 rk) := (World.cell?_alloc_lt _ _ _ (show w3.heap.size < w5.heap.size by omega)).trans f5_4
  have q6_5 : (w5.alloc (Obj.cells #[.int .i64 p0, .int .i64 k0, .slice T5 l0.length d5] 27)).cell? ⟨w3.heap.size, 2, none⟩ = some (.slice T3 rm.length d3) := (World.cell?_alloc_lt _ _ _ (show w3.heap.size < w5.heap.size by omega)).trans f5_5
  go_wp2_with fail
  refine (implPaintPair_any p0 k0 l0 _ _ i1 i2 i3 _ hn0 (((CRead.of_own n5).below (B' := w5.heap.size) (by go_grown) (Nat.le_refl _)).more (by go_size))).mono ?_
  rw [Hres.out]
  rintro e w7 ⟨T7, d7, rfl, n7, hb7⟩
  simp only [World.size_alloc] at n7
  simp only [World.size_alloc] at hb7
  have g7 : Below w5.heap.size w5 w7 := Below.trans (b := _) (by go_grown) (hb7.mono (by omega))
  have s7 := hb7.size
  simp only [World.size_alloc] at s7
  have f7_0 := carry g7 f5_0 (by omega)
  have f7_1 := carry g7 f5_1 (by omega)
  have f7_2 := carry g7 f5_2 (by omega)
  have f7_3 := carry g7 f5_3 (by omega)
  have f7_4 := carry g7 f5_4 (by omega)
  have f7_5 := carry g7 f5_5 (by omega)
  have f7_6 : w7.cell? ⟨w5.heap.size, 0, none⟩ = some (.int .i64 p0) := carry hb7 (by simp) (by omega)
  have f7_7 : w7.cell? ⟨w5.heap.size, 1, none⟩ = some (.int .i64 k0) := carry hb7 (by simp) (by omega)
  have f7_8 : w7.cell? ⟨w5.heap.size, 2, none⟩ = some (.slice T5 l0.length d5) := carry hb7 (by simp) (by omega)
  have o7_0 := own_below o5_0 g7 (Nat.le_refl _)
  have o7_1 := own_below n5 g7 (Nat.le_refl _)
  have k7 := k5.trans (g7.mono k5.size)
  clear f5_0 f5_1 f5_2 f5_3 f5_4 f5_5 o5_0 n5 q6_0 q6_1 q6_2 q6_3 q6_4 q6_5
  have r7 : Lies (.slice T7 rm.length d7) (w5.heap.size + 1) w7.heap.size := own_lies n7
  have q8_0 : (w7.alloc (Obj.cells #[.int .i64 rq, .int .i64 rk, .slice T7 rm.length d7] 27)).cell? ⟨W.heap.size, 0, none⟩ = some (.int .i64 p0) := (World.cell?_alloc_lt _ _ _ (show W.heap.size < w7.heap.size by omega)).trans f7_0
  have q8_1 : (w7.alloc (Obj.cells #[.int .i64 rq, .int .i64 rk, .slice T7 rm.length d7] 27)).cell? ⟨W.heap.size, 1, none⟩ = some (.int .i64 k0) := (World.cell?_alloc_lt _ _ _ (show W.heap.size < w7.heap.size by omega)).trans f7_1
  have q8_2 : (w7.alloc (Obj.cells #[.int .i64 rq, .int .i64 rk, .slice T7 rm.length d7] 27)).cell? ⟨W.heap.size, 2, none⟩ = some (.slice A0 l0.length c0) := (World.cell?_alloc_lt _ _ _ (show W.heap.size < w7.heap.size by omega)).trans f7_2
  have q8_3 : (w7.alloc (Obj.cells #[.int .i64 rq, .int .i64 rk, .slice T7 rm.length d7] 27)).cell? ⟨w3.heap.size, 0, none⟩ = some (.int .i64 rq) := (World.cell?_alloc_lt _ _ _ (show w3.heap.size < w7.heap.size by omega)).trans f7_3
  have q8_4 : (w7.alloc (Obj.cells #[.int .i64 rq, .int .i64 rk, .slice T7 rm.length d7] 27)).cell? ⟨w3.heap.size, 1, none⟩ = some (.int .i64 rk) := (World.cell?_alloc_lt _ _ _ (show w3.heap.size < w7.heap.size by omega)).trans f7_4
  have q8_5 : (w7.alloc (Obj.cells #[.int .i64 rq, .int .i64 rk, .slice T7 rm.length d7] 27)).cell? ⟨w3.heap.size, 2, none⟩ = some (.slice T3 rm.length d3) := (World.cell?_alloc_lt _ _ _ (show w3.heap.size < w7.heap.size by omega)).trans f7_5
  have q8_6 : (w7.alloc (Obj.cells #[.int .i64 rq, .int .i64 rk, .slice T7 rm.length d7] 27)).cell? ⟨w5.heap.size, 0, none⟩ = some (.int .i64 p0) := (World.cell?_alloc_lt _ _ _ (show w5.heap.size < w7.heap.size by omega)).trans f7_6
  have q8_7 : (w7.alloc (Obj.cells #[.int .i64 rq, .int .i64 rk, .slice T7 rm.length d7] 27)).cell? ⟨w5.heap.size, 1, none⟩ = some (.int .i64 k0) := (World.cell?_alloc_lt _ _ _ (show w5.heap.size < w7.heap.size by omega)).trans f7_7
  have q8_8 : (w7.alloc (Obj.cells #[.int .i64 rq, .int .i64 rk, .slice T7 rm.length d7] 27)).cell? ⟨w5.heap.size, 2, none⟩ = some (.slice T5 l0.length d5) := (World.cell?_alloc_lt _ _ _ (show w5.heap.size < w7.heap.size by omega)).trans f7_8
  go_wp2_with fail
  refine (eqPainting_any rq rq rk rk rm rm _ _ _ _ _ hrl hrl ((((CRead.of_own n7).below (B' := w7.heap.size) (by go_grown) (Nat.le_refl _)).more (by go_size))) ((((CRead.of_own o7_0).below (B' := w7.heap.size) (by go_grown) (Nat.le_refl _)).more (by go_size)))).mono ?_
  rw [decide_eq_true ⟨rfl, rfl, rfl⟩]
  rintro e w9 ⟨rfl, hb9⟩
  simp only [World.size_alloc] at hb9
  have g9 : Below w7.heap.size w7 w9 := Below.trans (b := _) (by go_grown) (hb9.mono (by omega))
  have s9 := hb9.size
  simp only [World.size_alloc] at s9
  have f9_0 := carry g9 f7_0 (by omega)
  have f9_1 := carry g9 f7_1 (by omega)
  have f9_2 := carry g9 f7_2 (by omega)
  have f9_3 := carry g9 f7_3 (by omega)
  have f9_4 := carry g9 f7_4 (by omega)
  have f9_5 := carry g9 f7_5 (by omega)
  have f9_6 := carry g9 f7_6 (by omega)
  have f9_7 := carry g9 f7_7 (by omega)
  have f9_8 := carry g9 f7_8 (by omega)
  have f9_9 : w9.cell? ⟨w7.heap.size, 0, none⟩ = some (.int .i64 rq) := carry hb9 (by simp) (by omega)
  have f9_10 : w9.cell? ⟨w7.heap.size, 1, none⟩ = some (.int .i64 rk) := carry hb9 (by simp) (by omega)
  have f9_11 : w9.cell? ⟨w7.heap.size, 2, none⟩ = some (.slice T7 rm.length d7) := carry hb9 (by simp) (by omega)
  have o9_0 := own_below o7_0 g9 (Nat.le_refl _)
  have o9_1 := own_below o7_1 g9 (Nat.le_refl _)
  have o9_2 := own_below n7 g9 (Nat.le_refl _)
  have k9 := k7.trans (g9.mono k7.size)
  clear f7_0 f7_1 f7_2 f7_3 f7_4 f7_5 f7_6 f7_7 f7_8 o7_0 o7_1 n7 q8_0 q8_1 q8_2 q8_3 q8_4 q8_5 q8_6 q8_7 q8_8
  go_wp2
  go_region_held3 (fun w' => w'.cell? ⟨W.heap.size, 0, none⟩ = some (.int .i64 p0) ∧ w'.cell? ⟨W.heap.size, 1, none⟩ = some (.int .i64 k0) ∧ w'.cell? ⟨W.heap.size, 2, none⟩ = some (.slice A0 l0.length c0) ∧ w'.cell? ⟨w5.heap.size, 0, none⟩ = some (.int .i64 p0) ∧ w'.cell? ⟨w5.heap.size, 1, none⟩ = some (.int .i64 k0) ∧ w'.cell? ⟨w5.heap.size, 2, none⟩ = some (.slice T5 l0.length d5) ∧ w'.cell? ⟨w3.heap.size, 0, none⟩ = some (.int .i64 rq) ∧ w'.cell? ⟨w3.heap.size, 1, none⟩ = some (.int .i64 rk) ∧ w'.cell? ⟨w3.heap.size, 2, none⟩ = some (.slice T3 rm.length d3) ∧ w'.cell? ⟨w7.heap.size, 0, none⟩ = some (.int .i64 rq) ∧ w'.cell? ⟨w7.heap.size, 1, none⟩ = some (.int .i64 rk) ∧ w'.cell? ⟨w7.heap.size, 2, none⟩ = some (.slice T7 rm.length d7)) (first | exact ⟨f9_0, f9_1, f9_2, f9_6, f9_7, f9_8, f9_3, f9_4, f9_5, f9_9, f9_10, f9_11⟩ | exact ⟨f10_0, f10_1, f10_2, f10_3, f10_4, f10_5, f10_6, f10_7, f10_8, f10_9, f10_10, f10_11⟩ | exact ⟨f11_0, f11_1, f11_2, f11_3, f11_4, f11_5, f11_6, f11_7, f11_8, f11_9, f11_10, f11_11⟩) ((first | (go_at_call 19; refine (toPainting_any p0 k0 l0 A0 c0 _ hn0 ((hA0.below k9.drew (Nat.le_refl _)).more k9.size)).mono ?_; rintro e w10 ⟨T10, d10, rfl, n10, hb10⟩; have g10 : Below w9.heap.size w9 w10 := (Below.refl _ _).drew.trans hb10; have s10 := g10.size; have f10_0 := carry g10 f9_0 (by omega); have f10_1 := carry g10 f9_1 (by omega); have f10_2 := carry g10 f9_2 (by omega); have f10_3 := carry g10 f9_6 (by omega); have f10_4 := carry g10 f9_7 (by omega); have f10_5 := carry g10 f9_8 (by omega); have f10_6 := carry g10 f9_3 (by omega); have f10_7 := carry g10 f9_4 (by omega); have f10_8 := carry g10 f9_5 (by omega); have f10_9 := carry g10 f9_9 (by omega); have f10_10 := carry g10 f9_10 (by omega); have f10_11 := carry g10 f9_11 (by omega); have o10_0 := own_below o9_0 g10 (Nat.le_refl _); have o10_1 := own_below o9_1 g10 (Nat.le_refl _); have o10_2 := own_below o9_2 g10 (Nat.le_refl _); have k10 := k9.trans (g10.mono k9.size)) | (go_at_call 21; refine (eqPainting_any p0 p0 k0 k0 l0 l0 _ _ _ _ _ hl0 hl0 (CRead.of_own o10_1) (CRead.of_own n10)).mono ?_; rw [decide_eq_true ⟨rfl, rfl, rfl⟩]; rintro e w11 ⟨rfl, hb11⟩; have g11 : Below w10.heap.size w10 w11 := hb11; have s11 := g11.size; have f11_0 := carry g11 f10_0 (by omega); have f11_1 := carry g11 f10_1 (by omega); have f11_2 := carry g11 f10_2 (by omega); have f11_3 := carry g11 f10_3 (by omega); have f11_4 := carry g11 f10_4 (by omega); have f11_5 := carry g11 f10_5 (by omega); have f11_6 := carry g11 f10_6 (by omega); have f11_7 := carry g11 f10_7 (by omega); have f11_8 := carry g11 f10_8 (by omega); have f11_9 := carry g11 f10_9 (by omega); have f11_10 := carry g11 f10_10 (by omega); have f11_11 := carry g11 f10_11 (by omega); have o11_0 := own_below o10_0 g11 (Nat.le_refl _); have o11_1 := own_below o10_1 g11 (Nat.le_refl _); have o11_2 := own_below o10_2 g11 (Nat.le_refl _); have k11 := k10.trans (g11.mono k10.size))))
  clear f9_0 f9_1 f9_2 f9_3 f9_4 f9_5 f9_6 f9_7 f9_8 f9_9 f9_10 f9_11 o9_0 o9_1 o9_2 f10_0 f10_1 f10_2 f10_3 f10_4 f10_5 f10_6 f10_7 f10_8 f10_9 f10_10 f10_11 o10_0 o10_1 o10_2 n10
  go_wp2_with fail
  refine (markPainting_any p0 k0 l0 _ _ _ (1) _ _ rfl hn0 (by omega) o11_1).mono ?_
  rintro e w12 ⟨rfl, n12, hg12⟩
  have s12 := hg12.size
  have f12_0 := carryG hg12 r5 f11_0 (by omega)
  have f12_1 := carryG hg12 r5 f11_1 (by omega)
  have f12_2 := carryG hg12 r5 f11_2 (by omega)
  have f12_3 := carryG hg12 r5 f11_3 (by omega)
  have f12_4 := carryG hg12 r5 f11_4 (by omega)
  have f12_5 := carryG hg12 r5 f11_5 (by omega)
  have f12_6 := carryG hg12 r5 f11_6 (by omega)
  have f12_7 := carryG hg12 r5 f11_7 (by omega)
  have f12_8 := carryG hg12 r5 f11_8 (by omega)
  have f12_9 := carryG hg12 r5 f11_9 (by omega)
  have f12_10 := carryG hg12 r5 f11_10 (by omega)
  have f12_11 := carryG hg12 r5 f11_11 (by omega)
  have o12_0 := keptG hg12 r5 o11_0 r3 (by omega)
  have o12_2 := keptG hg12 r5 o11_2 r7 (by omega)
  have k12 := belowG k11 hg12 r5 k11.size (by omega)
  clear f11_0 f11_1 f11_2 f11_3 f11_4 f11_5 f11_6 f11_7 f11_8 f11_9 f11_10 f11_11 o11_0 o11_1 o11_2
  have hmk : ¬ (1 + (l0.length : Int) < 0) := by omega
  go_wp2_with fail
  refine (eqPainting_any rq rq rk rk rm rm _ _ _ _ _ hrl hrl (CRead.of_own o12_2) (CRead.of_own o12_0)).mono ?_
  rw [decide_eq_true ⟨rfl, rfl, rfl⟩]
  rintro e w13 ⟨rfl, hb13⟩
  have g13 : Below w12.heap.size w12 w13 := hb13
  have s13 := hb13.size
  have f13_0 := carry g13 f12_0 (by omega)
  have f13_1 := carry g13 f12_1 (by omega)
  have f13_2 := carry g13 f12_2 (by omega)
  have f13_3 := carry g13 f12_3 (by omega)
  have f13_4 := carry g13 f12_4 (by omega)
  have f13_5 := carry g13 f12_5 (by omega)
  have f13_6 := carry g13 f12_6 (by omega)
  have f13_7 := carry g13 f12_7 (by omega)
  have f13_8 := carry g13 f12_8 (by omega)
  have f13_9 := carry g13 f12_9 (by omega)
  have f13_10 := carry g13 f12_10 (by omega)
  have f13_11 := carry g13 f12_11 (by omega)
  have o13_0 := own_below o12_0 g13 (Nat.le_refl _)
  have o13_1 := own_below n12 g13 (Nat.le_refl _)
  have o13_2 := own_below o12_2 g13 (Nat.le_refl _)
  have k13 := k12.trans (g13.mono k12.size)
  clear f12_0 f12_1 f12_2 f12_3 f12_4 f12_5 f12_6 f12_7 f12_8 f12_9 f12_10 f12_11 o12_0 n12 o12_2
  clear o13_1 r5
  go_wp2_with fail
  refine (markPainting_any rq rk rm _ _ _ 1 _ _ rfl hrn hone o13_2).mono ?_
  rintro e w14 ⟨rfl, n14, hg14⟩
  have s14 := hg14.size
  have f14_0 := carryG hg14 r7 f13_0 (by omega)
  have f14_1 := carryG hg14 r7 f13_1 (by omega)
  have f14_2 := carryG hg14 r7 f13_2 (by omega)
  have f14_3 := carryG hg14 r7 f13_3 (by omega)
  have f14_4 := carryG hg14 r7 f13_4 (by omega)
  have f14_5 := carryG hg14 r7 f13_5 (by omega)
  have f14_6 := carryG hg14 r7 f13_6 (by omega)
  have f14_7 := carryG hg14 r7 f13_7 (by omega)
  have f14_8 := carryG hg14 r7 f13_8 (by omega)
  have f14_9 := carryG hg14 r7 f13_9 (by omega)
  have f14_10 := carryG hg14 r7 f13_10 (by omega)
  have f14_11 := carryG hg14 r7 f13_11 (by omega)
  have o14_0 := keptG hg14 r7 o13_0 r3 (by omega)
  have k14 := belowG k13 hg14 r7 k13.size (by omega)
  clear f13_0 f13_1 f13_2 f13_3 f13_4 f13_5 f13_6 f13_7 f13_8 f13_9 f13_10 f13_11 o13_0 o13_2
  have hmr : ¬ (1 + (rm.length : Int) < 0) := by omega
  go_wp2_with fail
  refine (heldPainting_any _ _ _ _ _ 1 _ hrn hone (CRead.of_own n14)).mono ?_
  rintro e w15 ⟨rfl, hb15⟩
  have g15 : Below w14.heap.size w14 w15 := hb15
  have s15 := hb15.size
  have f15_0 := carry g15 f14_0 (by omega)
  have f15_1 := carry g15 f14_1 (by omega)
  have f15_2 := carry g15 f14_2 (by omega)
  have f15_3 := carry g15 f14_3 (by omega)
  have f15_4 := carry g15 f14_4 (by omega)
  have f15_5 := carry g15 f14_5 (by omega)
  have f15_6 := carry g15 f14_6 (by omega)
  have f15_7 := carry g15 f14_7 (by omega)
  have f15_8 := carry g15 f14_8 (by omega)
  have f15_9 := carry g15 f14_9 (by omega)
  have f15_10 := carry g15 f14_10 (by omega)
  have f15_11 := carry g15 f14_11 (by omega)
  have o15_0 := own_below o14_0 g15 (Nat.le_refl _)
  have o15_1 := own_below n14 g15 (Nat.le_refl _)
  have k15 := k14.trans (g15.mono k14.size)
  clear f14_0 f14_1 f14_2 f14_3 f14_4 f14_5 f14_6 f14_7 f14_8 f14_9 f14_10 f14_11 o14_0 n14
  go_wp2_with fail
  refine (toPainting_any p0 k0 l0 A0 c0 _ hn0 ((hA0.below k15 (Nat.le_refl _)).more k15.size)).mono ?_
  rintro e w16 ⟨T16, d16, rfl, n16, hb16⟩
  have g16 : Below w15.heap.size w15 w16 := hb16
  have s16 := hb16.size
  have f16_0 := carry g16 f15_0 (by omega)
  have f16_1 := carry g16 f15_1 (by omega)
  have f16_2 := carry g16 f15_2 (by omega)
  have f16_3 := carry g16 f15_3 (by omega)
  have f16_4 := carry g16 f15_4 (by omega)
  have f16_5 := carry g16 f15_5 (by omega)
  have f16_6 := carry g16 f15_6 (by omega)
  have f16_7 := carry g16 f15_7 (by omega)
  have f16_8 := carry g16 f15_8 (by omega)
  have f16_9 := carry g16 f15_9 (by omega)
  have f16_10 := carry g16 f15_10 (by omega)
  have f16_11 := carry g16 f15_11 (by omega)
  have o16_0 := own_below o15_0 g16 (Nat.le_refl _)
  have o16_1 := own_below o15_1 g16 (Nat.le_refl _)
  have k16 := k15.trans (g16.mono k15.size)
  clear f15_0 f15_1 f15_2 f15_3 f15_4 f15_5 f15_6 f15_7 f15_8 f15_9 f15_10 f15_11 o15_0 o15_1
  have r16 : Lies (.slice T16 l0.length d16) (w15.heap.size) w16.heap.size := own_lies n16
  go_wp2_with fail
  refine (implPaintPair_any p0 k0 l0 _ _ i1 i2 i3 _ hn0 (CRead.of_own n16)).mono ?_
  rw [Hres.out]
  rintro e w17 ⟨T17, d17, rfl, n17, hb17⟩
  have g17 : Below w16.heap.size w16 w17 := hb17
  have s17 := hb17.size
  have f17_0 := carry g17 f16_0 (by omega)
  have f17_1 := carry g17 f16_1 (by omega)
  have f17_2 := carry g17 f16_2 (by omega)
  have f17_3 := carry g17 f16_3 (by omega)
  have f17_4 := carry g17 f16_4 (by omega)
  have f17_5 := carry g17 f16_5 (by omega)
  have f17_6 := carry g17 f16_6 (by omega)
  have f17_7 := carry g17 f16_7 (by omega)
  have f17_8 := carry g17 f16_8 (by omega)
  have f17_9 := carry g17 f16_9 (by omega)
  have f17_10 := carry g17 f16_10 (by omega)
  have f17_11 := carry g17 f16_11 (by omega)
  have o17_0 := own_below o16_0 g17 (Nat.le_refl _)
  have o17_1 := own_below o16_1 g17 (Nat.le_refl _)
  have o17_2 := own_below n16 g17 (Nat.le_refl _)
  have k17 := k16.trans (g17.mono k16.size)
  clear f16_0 f16_1 f16_2 f16_3 f16_4 f16_5 f16_6 f16_7 f16_8 f16_9 f16_10 f16_11 o16_0 o16_1 n16
  have r17 : Lies (.slice T17 rm.length d17) (w16.heap.size) w17.heap.size := own_lies n17
  have q18_0 : (w17.alloc (Obj.cells #[.int .i64 rq, .int .i64 rk, .slice T17 rm.length d17] 27)).cell? ⟨W.heap.size, 0, none⟩ = some (.int .i64 p0) := (World.cell?_alloc_lt _ _ _ (show W.heap.size < w17.heap.size by omega)).trans f17_0
  have q18_1 : (w17.alloc (Obj.cells #[.int .i64 rq, .int .i64 rk, .slice T17 rm.length d17] 27)).cell? ⟨W.heap.size, 1, none⟩ = some (.int .i64 k0) := (World.cell?_alloc_lt _ _ _ (show W.heap.size < w17.heap.size by omega)).trans f17_1
  have q18_2 : (w17.alloc (Obj.cells #[.int .i64 rq, .int .i64 rk, .slice T17 rm.length d17] 27)).cell? ⟨W.heap.size, 2, none⟩ = some (.slice A0 l0.length c0) := (World.cell?_alloc_lt _ _ _ (show W.heap.size < w17.heap.size by omega)).trans f17_2
  have q18_3 : (w17.alloc (Obj.cells #[.int .i64 rq, .int .i64 rk, .slice T17 rm.length d17] 27)).cell? ⟨w5.heap.size, 0, none⟩ = some (.int .i64 p0) := (World.cell?_alloc_lt _ _ _ (show w5.heap.size < w17.heap.size by omega)).trans f17_3
  have q18_4 : (w17.alloc (Obj.cells #[.int .i64 rq, .int .i64 rk, .slice T17 rm.length d17] 27)).cell? ⟨w5.heap.size, 1, none⟩ = some (.int .i64 k0) := (World.cell?_alloc_lt _ _ _ (show w5.heap.size < w17.heap.size by omega)).trans f17_4
  have q18_5 : (w17.alloc (Obj.cells #[.int .i64 rq, .int .i64 rk, .slice T17 rm.length d17] 27)).cell? ⟨w5.heap.size, 2, none⟩ = some (.slice T5 l0.length d5) := (World.cell?_alloc_lt _ _ _ (show w5.heap.size < w17.heap.size by omega)).trans f17_5
  have q18_6 : (w17.alloc (Obj.cells #[.int .i64 rq, .int .i64 rk, .slice T17 rm.length d17] 27)).cell? ⟨w3.heap.size, 0, none⟩ = some (.int .i64 rq) := (World.cell?_alloc_lt _ _ _ (show w3.heap.size < w17.heap.size by omega)).trans f17_6
  have q18_7 : (w17.alloc (Obj.cells #[.int .i64 rq, .int .i64 rk, .slice T17 rm.length d17] 27)).cell? ⟨w3.heap.size, 1, none⟩ = some (.int .i64 rk) := (World.cell?_alloc_lt _ _ _ (show w3.heap.size < w17.heap.size by omega)).trans f17_7
  have q18_8 : (w17.alloc (Obj.cells #[.int .i64 rq, .int .i64 rk, .slice T17 rm.length d17] 27)).cell? ⟨w3.heap.size, 2, none⟩ = some (.slice T3 rm.length d3) := (World.cell?_alloc_lt _ _ _ (show w3.heap.size < w17.heap.size by omega)).trans f17_8
  have q18_9 : (w17.alloc (Obj.cells #[.int .i64 rq, .int .i64 rk, .slice T17 rm.length d17] 27)).cell? ⟨w7.heap.size, 0, none⟩ = some (.int .i64 rq) := (World.cell?_alloc_lt _ _ _ (show w7.heap.size < w17.heap.size by omega)).trans f17_9
  have q18_10 : (w17.alloc (Obj.cells #[.int .i64 rq, .int .i64 rk, .slice T17 rm.length d17] 27)).cell? ⟨w7.heap.size, 1, none⟩ = some (.int .i64 rk) := (World.cell?_alloc_lt _ _ _ (show w7.heap.size < w17.heap.size by omega)).trans f17_10
  have q18_11 : (w17.alloc (Obj.cells #[.int .i64 rq, .int .i64 rk, .slice T17 rm.length d17] 27)).cell? ⟨w7.heap.size, 2, none⟩ = some (.slice T7 rm.length d7) := (World.cell?_alloc_lt _ _ _ (show w7.heap.size < w17.heap.size by omega)).trans f17_11
  clear o17_2 r16
  go_wp2_with fail
  refine (eqPainting_any rq rq rk rk rm rm _ _ _ _ _ hrl hrl ((((CRead.of_own n17).below (B' := w17.heap.size) (by go_grown) (Nat.le_refl _)).more (by go_size))) ((((CRead.of_own o17_0).below (B' := w17.heap.size) (by go_grown) (Nat.le_refl _)).more (by go_size)))).mono ?_
  rw [decide_eq_true ⟨rfl, rfl, rfl⟩]
  rintro e w19 ⟨rfl, hb19⟩
  simp only [World.size_alloc] at hb19
  have g19 : Below w17.heap.size w17 w19 := Below.trans (b := _) (by go_grown) (hb19.mono (by omega))
  have s19 := hb19.size
  simp only [World.size_alloc] at s19
  have f19_0 := carry g19 f17_0 (by omega)
  have f19_1 := carry g19 f17_1 (by omega)
  have f19_2 := carry g19 f17_2 (by omega)
  have f19_3 := carry g19 f17_3 (by omega)
  have f19_4 := carry g19 f17_4 (by omega)
  have f19_5 := carry g19 f17_5 (by omega)
  have f19_6 := carry g19 f17_6 (by omega)
  have f19_7 := carry g19 f17_7 (by omega)
  have f19_8 := carry g19 f17_8 (by omega)
  have f19_9 := carry g19 f17_9 (by omega)
  have f19_10 := carry g19 f17_10 (by omega)
  have f19_11 := carry g19 f17_11 (by omega)
  have f19_12 : w19.cell? ⟨w17.heap.size, 0, none⟩ = some (.int .i64 rq) := carry hb19 (by simp) (by omega)
  have f19_13 : w19.cell? ⟨w17.heap.size, 1, none⟩ = some (.int .i64 rk) := carry hb19 (by simp) (by omega)
  have f19_14 : w19.cell? ⟨w17.heap.size, 2, none⟩ = some (.slice T17 rm.length d17) := carry hb19 (by simp) (by omega)
  have o19_0 := own_below o17_0 g19 (Nat.le_refl _)
  have o19_1 := own_below o17_1 g19 (Nat.le_refl _)
  have o19_2 := own_below n17 g19 (Nat.le_refl _)
  have k19 := k17.trans (g19.mono k17.size)
  clear f17_0 f17_1 f17_2 f17_3 f17_4 f17_5 f17_6 f17_7 f17_8 f17_9 f17_10 f17_11 o17_0 o17_1 n17 q18_0 q18_1 q18_2 q18_3 q18_4 q18_5 q18_6 q18_7 q18_8 q18_9 q18_10 q18_11
  go_wp2_with fail
  refine (heldPainting_any _ _ _ _ _ 1 _ hrn hone (CRead.of_own o19_1)).mono ?_
  rintro e w20 ⟨rfl, hb20⟩
  have g20 : Below w19.heap.size w19 w20 := hb20
  have s20 := hb20.size
  have f20_0 := carry g20 f19_0 (by omega)
  have f20_1 := carry g20 f19_1 (by omega)
  have f20_2 := carry g20 f19_2 (by omega)
  have f20_3 := carry g20 f19_3 (by omega)
  have f20_4 := carry g20 f19_4 (by omega)
  have f20_5 := carry g20 f19_5 (by omega)
  have f20_6 := carry g20 f19_6 (by omega)
  have f20_7 := carry g20 f19_7 (by omega)
  have f20_8 := carry g20 f19_8 (by omega)
  have f20_9 := carry g20 f19_9 (by omega)
  have f20_10 := carry g20 f19_10 (by omega)
  have f20_11 := carry g20 f19_11 (by omega)
  have f20_12 := carry g20 f19_12 (by omega)
  have f20_13 := carry g20 f19_13 (by omega)
  have f20_14 := carry g20 f19_14 (by omega)
  have o20_0 := own_below o19_0 g20 (Nat.le_refl _)
  have o20_1 := own_below o19_1 g20 (Nat.le_refl _)
  have o20_2 := own_below o19_2 g20 (Nat.le_refl _)
  have k20 := k19.trans (g20.mono k19.size)
  clear f19_0 f19_1 f19_2 f19_3 f19_4 f19_5 f19_6 f19_7 f19_8 f19_9 f19_10 f19_11 f19_12 f19_13 f19_14 o19_0 o19_1 o19_2
  go_wp2
  go_ret
  exact ⟨rfl, k20⟩
end Go.Proofs.Ytepoabbkalhifaa
/-
  THE PROGRAM's HEAD, LOOKED AT ONCE: which make it is, and that a call may enter it. (The head's text is long: the kernel must not read it twice.)
-/
namespace Go.Proofs.Ytepoabbkalhifaa

theorem make_of {P : Program} {rest : List (List Char)} (h : behindMainWord (wordsSigns P.initOrder.toList) = "cut".toList :: rest) : P.make = some .cut := by
  unfold Program.make
  rw [h]
  rfl
theorem strip_cut (rest : List (List Char)) : stripLifts liftWords ("cut".toList :: rest) = ([], "cut".toList :: rest) := rfl
theorem lifts_of {P : Program} {rest : List (List Char)} (h : behindMainWord (wordsSigns P.initOrder.toList) = "cut".toList :: rest) : P.headLifts = [] := by
  unfold Program.headLifts
  rw [h, strip_cut]
  rfl
theorem final_of {P : Program} {rest : List (List Char)} (h : behindMainWord (wordsSigns P.initOrder.toList) = "cut".toList :: rest) : P.liftsFinal = false := by
  unfold Program.liftsFinal
  rw [lifts_of h, h]
  rfl
theorem enter_of {P : Program} {rest : List (List Char)} (h : behindMainWord (wordsSigns P.initOrder.toList) = "cut".toList :: rest) (h1 : P.laysLater = false) (h2 : P.bearsReflect = false) (h3 : P.doorFits [] = true) : P.mayEnter = true := by
  unfold Program.mayEnter
  rw [h]
  show (_ || _ || _) = true
  rw [strip_cut, h1, h2, h3]
  rfl
end Go.Proofs.Ytepoabbkalhifaa
/-
  THE PROGRAM's CLOSED FACTS, EACH ONCE; and how a row's facts are put together out of them.
-/
namespace Go.Proofs.Ytepoabbkalhifaa
open Go.ChangeShapes Go.WideShapes Go.ChangeAt Go.RowKit

def headSigns : List Char := ([104, 97, 114, 110, 101, 115, 115, 32, 99, 100, 56, 97, 99, 56, 48, 53, 55, 98, 98, 102, 57, 52, 102, 101, 100, 56, 100, 102, 101, 49, 51, 97, 54, 57, 57, 97, 55, 99, 57, 97, 55, 57, 53, 56, 99, 49, 48, 55, 52, 99, 98, 98, 49, 53, 56, 97, 55, 55, 97, 56, 102, 51, 55, 52, 50, 57, 53, 48, 52, 53, 99, 52, 32, 99, 117, 116, 32, 97, 116, 32, 108, 111, 111, 112, 46, 101, 120, 97, 109, 112, 108, 101, 47, 103, 48, 49, 50, 53, 55, 47, 108, 97, 119, 115, 46, 70, 110, 69, 120, 97, 99, 116, 73, 115, 80, 97, 105, 110, 116, 105, 110, 103, 32, 108, 111, 111, 112, 46, 101, 120, 97, 109, 112, 108, 101, 47, 103, 48, 49, 50, 53, 55, 47, 108, 97, 119, 115, 46, 70, 110, 69, 120, 97, 99, 116, 67, 111, 108, 111, 117, 114, 79, 102, 32, 108, 111, 111, 112, 46, 101, 120, 97, 109, 112, 108, 101, 47, 103, 48, 49, 50, 53, 55, 47, 108, 97, 119, 115, 46, 70, 110, 69, 120, 97, 99, 116, 80, 97, 105, 110, 116, 80, 97, 105, 114, 32, 108, 111, 111, 112, 46, 101, 120, 97, 109, 112, 108, 101, 47, 103, 48, 49, 50, 53, 55, 47, 108, 97, 119, 115, 46, 70, 110, 69, 120, 97, 99, 116, 80, 97, 105, 110, 116, 105, 110, 103, 79, 102, 32, 108, 111, 111, 112, 46, 101, 120, 97, 109, 112, 108, 101, 47, 103, 48, 49, 50, 53, 55, 47, 108, 97, 119, 115, 46, 70, 110, 69, 120, 97, 99, 116, 80, 97, 114, 116, 121, 79, 102, 67, 111, 108, 111, 117, 114, 32, 108, 111, 111, 112, 46, 101, 120, 97, 109, 112, 108, 101, 47, 103, 48, 49, 50, 53, 55, 47, 108, 97, 119, 115, 46, 70, 110, 69, 120, 97, 99, 116, 79, 110, 101, 67, 111, 108, 111, 117, 114, 84, 104, 114, 101, 101, 115, 32, 108, 111, 111, 112, 46, 101, 120, 97, 109, 112, 108, 101, 47, 103, 48, 49, 50, 53, 55, 47, 108, 97, 119, 115, 46, 70, 110, 69, 120, 97, 99, 116, 67, 111, 117, 110, 116, 79, 110, 101, 67, 111, 108, 111, 117, 114, 32, 108, 111, 111, 112, 46, 101, 120, 97, 109, 112, 108, 101, 47, 103, 48, 49, 50, 53, 55, 47, 108, 97, 119, 115, 46, 70, 110, 69, 120, 97, 99, 116, 67, 111, 117, 110, 116, 77, 105, 120, 101, 100, 32, 108, 111, 111, 112, 46, 101, 120, 97, 109, 112, 108, 101, 47, 103, 48, 49, 50, 53, 55, 47, 108, 97, 119, 115, 46, 70, 110, 69, 120, 97, 99, 116, 76, 101, 97, 115, 116, 84, 104, 114, 101, 101, 115, 32, 108, 111, 111, 112, 46, 101, 120, 97, 109, 112, 108, 101, 47, 103, 48, 49, 50, 53, 55, 47, 108, 97, 119, 115, 46, 70, 110, 69, 120, 97, 99, 116, 70, 105, 114, 115, 116, 65, 118, 111, 105, 100, 105, 110, 103, 32, 108, 111, 111, 112, 46, 101, 120, 97, 109, 112, 108, 101, 47, 103, 48, 49, 50, 53, 55, 47, 108, 97, 119, 115, 46, 70, 110, 69, 120, 97, 99, 116, 67, 111, 117, 110, 116, 65, 118, 111, 105, 100, 105, 110, 103, 32, 108, 111, 111, 112, 46, 101, 120, 97, 109, 112, 108, 101, 47, 103, 48, 49, 50, 53, 55, 47, 108, 97, 119, 115, 46, 70, 110, 69, 120, 97, 99, 116, 69, 120, 99, 104, 97, 110, 103, 101, 67, 111, 108, 111, 117, 114, 115, 32, 108, 111, 111, 112, 46, 101, 120, 97, 109, 112, 108, 101, 47, 103, 48, 49, 50, 53, 55, 47, 108, 97, 119, 115, 46, 70, 110, 69, 120, 97, 99, 116, 82, 101, 110, 97, 109, 101, 80, 97, 105, 110, 116, 105, 110, 103, 32, 108, 111, 111, 112, 46, 101, 120, 97, 109, 112, 108, 101, 47, 103, 48, 49, 50, 53, 55, 47, 108, 97, 119, 115, 46, 70, 110, 69, 120, 97, 99, 116, 76, 101, 97, 115, 116, 79, 110, 101, 75, 105, 110, 100] : List Nat).map Char.ofNat
set_option maxRecDepth 100000 in
theorem Try.initOrder_is : Try.prog.initOrder = String.ofList headSigns := by kernel_rfl
theorem Try.initOrder_signs : Try.prog.initOrder.toList = headSigns := by rw [Try.initOrder_is]; exact String.toList_ofList
set_option maxRecDepth 100000 in
theorem head_words : (behindMainWord (wordsSigns headSigns)).take 1 = ["cut".toList] := by kernel_rfl
theorem Try.words : ∃ rest, behindMainWord (wordsSigns Try.prog.initOrder.toList) = "cut".toList :: rest := by
  rw [Try.initOrder_signs]
  have h := List.take_append_drop 1 (behindMainWord (wordsSigns headSigns))
  rw [head_words] at h
  exact ⟨_, h.symm⟩
theorem Try.make : Try.prog.make = some .cut := by obtain ⟨_, h⟩ := Try.words; exact make_of h
theorem Try.liftsFinal : Try.prog.liftsFinal = false := by obtain ⟨_, h⟩ := Try.words; exact final_of h
theorem Try.laysLater : Try.prog.laysLater = false := by kernel_rfl
theorem Try.bearsReflect : Try.prog.bearsReflect = false := by kernel_rfl
theorem Try.doorFits : Try.prog.doorFits [] = true := by kernel_rfl
theorem Try.mayEnter : Try.prog.mayEnter = true := by obtain ⟨_, h⟩ := Try.words; exact enter_of h Try.laysLater Try.bearsReflect Try.doorFits
theorem Try.mapsRowed : mapsRowed Try.prog = true := by kernel_rfl
theorem Try.stops : (Try.prog.stops == []) = true := by kernel_rfl
theorem Try.stopKnobs : (Try.prog.stopKnobs == []) = true := by kernel_rfl
theorem Try.plainKeys : Try.prog.plainKeys = true := by kernel_rfl
theorem Try.stopsHeard : Try.prog.stopsHeard = true := by kernel_rfl

/-- What the types of one law give: closed facts on its parameters and its result. -/
def typeFacts (P : Program) (fn : Func) (s : ChangeSpec) (c : OpenClaim) : Bool :=
  fn.params.all (P.readableRec ·) && namedTie P c.named s.vars && (c.stops == []) && (c.knobs == []) &&
  (c.maps == (fn.params.toList ++ s.plain.varTypes P).any (P.mapsRec ·)) && (c.ifaces == (fn.params.toList ++ s.plain.varTypes P).any (P.ifacesRec ·)) && (c.mapsOut == P.mapsAmong fn.resultTypes.toList) &&
  (c.loops == (fn.params.toList ++ s.plain.varTypes P).any (P.loopsFrom ·)) && (c.wideKeys == (fn.params.toList ++ s.plain.varTypes P ++ fn.resultTypes.toList).any (P.wideKeysFrom ·)) &&
  s.vars.all (P.varReadable ·) && fn.resultTypes.all (fun t => P.readableRec t && decide (t < P.types.size)) && (c.ifacesOut == fn.resultTypes.toList.any (P.ifacesRec ·)) && (c.loopsOut == fn.resultTypes.toList.any (P.loopsFrom ·)) && c.shortTexts.isNone &&
  (c.kinds == (if c.domain.isEmpty then [] else fn.params.toList.map fun t => match P.underlying t with | some (.int k) => some k | _ => none)) && (c.pinned == c.pinnedBy) &&
  (c.veiled == (fn.params.toList ++ s.plain.varTypes P ++ fn.resultTypes.toList).any (P.veiledRec ·)) && c.veiledFits P fn.params.toList (fn.params.toList ++ s.plain.varTypes P ++ fn.resultTypes.toList)
theorem joined_all {P : Program} {f : FuncId} {fn : Func} {s : ChangeSpec} {c : OpenClaim} (k1 : c.wf (OpenSpec.ofChange s) = true) (kt : typeFacts P fn s c = true)
    (k10 : (c.inPlace == P.inPlace f) = true) (k11 : (c.unfollowed == P.unfollowed f) = true) (k12 : (c.recurses == P.recurses f) = true) (k13 : (c.named == P.varsNamed f) = true)
    (e2 : laidOutB P = true) (e3 : mapsRowed P = true) (e7 : (P.stops == []) = true) (e9 : (P.stopKnobs == []) = true) (e22 : (c.plainKeys == P.plainKeys) = true) (e23 : P.stopsHeard = true) (e24 : P.mayEnter = true)
    (e24b : (c.lifted == P.liftsFinal) = true) (e24c : (P.make == some c.make) = true) : joinedFacts P f fn s c = true := by
  unfold typeFacts at kt
  unfold joinedFacts
  simp only [Bool.and_eq_true] at kt ⊢
  obtain ⟨⟨⟨⟨⟨⟨⟨⟨⟨⟨⟨⟨⟨⟨⟨⟨⟨t1, t2⟩, t3⟩, t4⟩, t5⟩, t6⟩, t7⟩, t8⟩, t9⟩, t10⟩, t11⟩, t12⟩, t13⟩, t14⟩, t15⟩, t16⟩, t17⟩, t18⟩ := kt
  exact ⟨⟨⟨⟨⟨⟨⟨⟨⟨⟨⟨⟨⟨⟨⟨⟨⟨⟨⟨⟨⟨⟨⟨⟨⟨⟨⟨⟨⟨⟨⟨k1, e2⟩, e3⟩, t1⟩, t2⟩, t3⟩, e7⟩, t4⟩, e9⟩, k10⟩, k11⟩, k12⟩, k13⟩, t5⟩, t6⟩, t7⟩, t8⟩, t9⟩, t10⟩, t11⟩, t12⟩, t13⟩, e22⟩, t14⟩, e23⟩, e24⟩, e24b⟩, e24c⟩, t15⟩, t16⟩, t17⟩, t18⟩
theorem joined_of {f : FuncId} {fn : Func} {s : ChangeSpec} {c : OpenClaim} (k1 : c.wf (OpenSpec.ofChange s) = true) (kt : typeFacts Try.prog fn s c = true)
    (k10 : (c.inPlace == Try.prog.inPlace f) = true) (k11 : (c.unfollowed == Try.prog.unfollowed f) = true) (k12 : (c.recurses == Try.prog.recurses f) = true) (k13 : (c.named == Try.prog.varsNamed f) = true)
    (k22 : c.plainKeys = true) (k24b : c.lifted = false) (k24c : c.make = .cut) : joinedFacts Try.prog f fn s c = true :=
  joined_all k1 kt k10 k11 k12 k13 Try.laidOut Try.mapsRowed Try.stops Try.stopKnobs (by rw [k22, Try.plainKeys]; rfl) Try.stopsHeard Try.mayEnter (by rw [k24b, Try.liftsFinal]; rfl) (by rw [k24c, Try.make]; rfl)
end Go.Proofs.Ytepoabbkalhifaa
