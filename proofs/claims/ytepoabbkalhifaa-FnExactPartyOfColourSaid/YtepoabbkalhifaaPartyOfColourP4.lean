/-
  Texts put together for the claim of 'PartyOfColour' (pack 4): ShadesOf, PBox, KBox, PartyC, Has, Own, LRows, OwnRow, PaintS, Box, PartyO.
-/
import Derived.Test.YtepoabbkalhifaaPartyOfColourP2
import Derived.Test.YtepoabbkalhifaaPartyOfColourP3
import Derived.Deep.RegionLaw
import Derived.ArgAppend
import Derived.Laws.AppendOwnNone
import Derived.Deep.RegionHeld3
/-
  SHADES made of a painting, a painting made of shades: pure parts, 'shadesOf' by its contract.
-/
namespace Go.Proofs.Ytepoabbkalhifaa
open Go.RowKit

def pairAt (n q : Nat) : Nat × Nat := (((allP n).getD q (0, 0)).1.toNat, ((allP n).getD q (0, 0)).2.toNat)
theorem pairAt_of {n q : Nat} (hn : n ≤ 8) (hq : q < (allP n).length) : ∃ a b : Nat, a < b ∧ b < n ∧ q = atP n a b ∧ (allP n)[q]? = some ((a : Int), (b : Int)) ∧ pairAt n q = (a, b) := by
  obtain ⟨a, b, hab, hb, e⟩ := atP_of hn hq
  have h := atP_get hn hab hb
  rw [← e] at h
  refine ⟨a, b, hab, hb, e, h, ?_⟩
  unfold pairAt
  rw [List.getD_eq_getElem?_getD, h]
  simp
/-- the table behind so many pairs painted -/
def shK (n : Nat) (l : List Int) : Nat → Nat → Nat → Int
  | 0 => fun _ _ => 0
  | q + 1 => paintF (shK n l q) (pairAt n q).1 (pairAt n q).2 (l.getD q 0)
theorem shK_next {n q a b : Nat} {l : List Int} {x : Int} (hp : pairAt n q = (a, b)) (hx : l[q]? = some x) : shK n l (q + 1) = paintF (shK n l q) a b x := by
  show paintF (shK n l q) (pairAt n q).1 (pairAt n q).2 (l.getD q 0) = _
  rw [hp, List.getD_eq_getElem?_getD, hx]
  rfl
theorem atP_inj {n a b a' b' : Nat} (hn : n ≤ 8) (hab : a < b) (hb : b < n) (hab' : a' < b') (hb' : b' < n) (h : atP n a b = atP n a' b') : a = a' ∧ b = b' := by
  have h1 := atP_get hn hab hb
  have h2 := atP_get hn hab' hb'
  rw [h, h2] at h1
  simp only [Option.some.injEq, Prod.mk.injEq] at h1
  omega
theorem shK_at {n : Nat} {l : List Int} (hn : n ≤ 8) : ∀ q, q ≤ (allP n).length → ∀ i j, shK n l q i j = if i ≠ j ∧ i < n ∧ j < n ∧ atP n (min i j) (max i j) < q then l.getD (atP n (min i j) (max i j)) 0 else 0
  | 0, _, i, j => by rw [if_neg (by omega)]; rfl
  | q + 1, hq, i, j => by
    obtain ⟨a, b, hab, hb, e, h, hp⟩ := pairAt_of hn (show q < (allP n).length by omega)
    show paintF (shK n l q) (pairAt n q).1 (pairAt n q).2 (l.getD q 0) i j = _
    rw [hp]
    unfold paintF
    simp only
    by_cases hit : (i = a ∧ j = b) ∨ (i = b ∧ j = a)
    · rw [if_pos hit]
      have e1 : min i j = a := by omega
      have e2 : max i j = b := by omega
      rw [e1, e2, ← e, if_pos (by omega)]
    · rw [if_neg hit, shK_at hn q (by omega) i j]
      by_cases hc : i ≠ j ∧ i < n ∧ j < n
      · have hne : atP n (min i j) (max i j) ≠ q := by
          intro h2
          rw [e] at h2
          have := atP_inj hn (by omega) (by omega) hab hb h2
          omega
        by_cases h3 : atP n (min i j) (max i j) < q
        · rw [if_pos ⟨hc.1, hc.2.1, hc.2.2, h3⟩, if_pos ⟨hc.1, hc.2.1, hc.2.2, by omega⟩]
        · rw [if_neg (by omega), if_neg (by omega)]
      · rw [if_neg (by omega), if_neg (by omega)]
/-- the table of a painting -/
def shX (n : Nat) (l : List Int) : Nat → Nat → Int := shK n l (allP n).length
theorem shX_col {n : Nat} {l : List Int} (hn : n ≤ 8) {i j : Nat} (hi : i < n) (hj : j < n) (hij : i ≠ j) : shX n l i j = colX n l i j := by
  unfold shX colX
  rw [shK_at hn _ (Nat.le_refl _), if_pos ⟨hij, hi, hj, atP_lt hn (by omega) (by omega)⟩]
theorem shX_out {n : Nat} {l : List Int} (hn : n ≤ 8) {i j : Nat} (h : ¬ (i ≠ j ∧ i < n ∧ j < n)) : shX n l i j = 0 := by
  unfold shX
  rw [shK_at hn _ (Nat.le_refl _), if_neg (by omega)]

set_option maxHeartbeats 4000000 in
set_option maxRecDepth 100000 in
theorem shadesOf_any (n : Nat) (k : Int) (l : List Int) (A : Option Addr) (c : Nat) (w : World) (hx : isX n k l = true) (hA : CRead w w.heap.size A (icells l)) :
    Calls Try.prog 70 #[.agg #[.int .i64 n, .int .i64 k, .slice A l.length c]] w fun e w' => e = .returned (.agg (shC (shX n l))) ∧ Below w.heap.size w w' := by
  have hn := (isX_parts hx).1
  have hn8 : n ≤ 8 := by omega
  have hlen := isX_len hx
  have hsm := isX_small hx
  rw [Int.toNat_natCast] at hlen
  obtain ⟨F, hF⟩ : ∃ F, shC (shX n l) = F := ⟨_, rfl⟩
  have hFs : F.size = 64 := by rw [← hF]; exact shC_size _
  have hF1 : F.all (·.oneCell') = true := by rw [← hF]; exact shC_one _
  rw [hF]
  have HF := Lib.hid hF
  have HFs := Lib.hid hFs
  have HF1 := Lib.hid hF1
  have Hlen := Lib.hid hlen
  have Hx := Lib.hid hx
  clear hF hFs hF1 hx hlen
  obtain ⟨W, hW⟩ : ∃ W, ((w.alloc (Obj.cells #[.int .i64 n, .int .i64 k, .slice A l.length c] 27)).alloc (Obj.cells (shC fun _ _ => 0) 78)).alloc (Obj.cells (shC fun _ _ => 0) 78) = W := ⟨_, rfl⟩
  have kW : Below w.heap.size w W := by rw [← hW]; go_grown
  have a0 : W.cell? ⟨w.heap.size, 0, none⟩ = some (.int .i64 n) := by rw [← hW]; exact (World.cell?_alloc_lt _ _ _ (by simp; omega)).trans ((World.cell?_alloc_lt _ _ _ (by simp)).trans (by simp))
  have a2 : W.cell? ⟨w.heap.size, 2, none⟩ = some (.slice A l.length c) := by rw [← hW]; exact (World.cell?_alloc_lt _ _ _ (by simp; omega)).trans ((World.cell?_alloc_lt _ _ _ (by simp)).trans (by simp))
  have rowR : W.rowIs (w.heap.size + 1) 78 64 (fun _ => .int .i64 0) := by
    rw [← hW]
    have := (rowIs_sh (w.alloc (Obj.cells #[.int .i64 n, .int .i64 k, .slice A l.length c] 27)) (fun _ _ => 0) 78).alloc (Obj.cells (shC fun _ _ => 0) 78)
    simp only [World.size_alloc] at this
    exact this
  have rowS : W.rowIs (w.heap.size + 2) 78 64 (fun _ => .int .i64 0) := by
    rw [← hW]
    have := rowIs_sh ((w.alloc (Obj.cells #[.int .i64 n, .int .i64 k, .slice A l.length c] 27)).alloc (Obj.cells (shC fun _ _ => 0) 78)) (fun _ _ => 0) 78
    simp only [World.size_alloc] at this
    exact this
  have sW : W.heap.size = w.heap.size + 3 := by rw [← hW]; simp
  have s1 : w.heap.size + 2 < W.heap.size := by omega
  have bR := sh_block (f := fun _ _ => 0) rowR
  have bS := sh_block (f := fun _ _ => 0) rowS
  rw [shC_zero] at hW
  have HW := Lib.hid hW
  clear hW rowR rowS sW
  go_enter Try.func70, Try.ntmps70
  go_upto_region 2 with fail
  rw [HW.out]
  go_wp2_with fail
  refine (everyPair_any n (by omega) _).mono ?_
  rintro e w1 ⟨P1, c1, rfl, own1, hb1⟩
  have s2 := hb1.size
  have b0 := carry hb1 a0 (by omega)
  have b2 := carry hb1 a2 (by omega)
  have k1 := kW.trans (hb1.mono kW.size)
  have br1 := (hb1.block (w.heap.size + 2) s1).trans bS
  have bq1 := (hb1.block (w.heap.size + 1) (by omega)).trans bR
  have Own1 := Lib.hid own1
  clear a0 a2 bR bS own1 hb1
  obtain ⟨N, hN⟩ : ∃ N, (allP n).length = N := ⟨_, rfl⟩
  have HN := Lib.hid hN
  rw [hN]
  clear hN
  go_wp2_with fail
  go_loopw [10] (fun i wr => ∃ q : Nat, q ≤ N ∧ i = .int .i64 q ∧ wr.heap[w.heap.size + 2]? = some (.cells (shC (shK n l q)) 78 (0, 0)) ∧ Below (w.heap.size + 2) w1 wr ∧ w1.heap.size ≤ wr.heap.size ∧ (∀ j, j ≠ w.heap.size + 2 → j < w1.heap.size → wr.heap[j]? = w1.heap[j]?)) (fun i _ => N - (intOf i).toNat)
  case atStart => exact ⟨0, Nat.zero_le _, rfl, br1, Below.refl _ _, Nat.le_refl _, fun _ _ _ => rfl⟩
  case round =>
    obtain ⟨q, hq, rfl, bq, hb, sb, hk⟩ := hrel
    have sq : Below w.heap.size w wr := k1.trans (hb.mono (by omega))
    have e2 := (cell_of_blk (o := 2) (hk w.heap.size (by omega) (by omega))).trans b2
    have Hb := Lib.hid hb
    have Hk := Lib.hid hk
    clear hb hk
    by_cases hlt : q < N
    · obtain ⟨a, b, hab, hbn, hat, hpq, hpair⟩ := pairAt_of hn8 (show q < (allP n).length by rw [HN.out]; exact hlt)
      obtain ⟨b1, off, rfl, hbb, c0, c1⟩ := (CRead.of_own Own1.out).pair hpq
      have hgb := (Own1.out.lt b1 rfl).1
      have d0 := (cell_of_blk (o := off + q * 2) (Hk.out b1 (by omega) hbb)).trans c0
      have d1 := (cell_of_blk (o := off + q * 2 + 1) (Hk.out b1 (by omega) hbb)).trans c1
      obtain ⟨x, hx⟩ := getSome l q (by rw [Hlen.out, HN.out]; exact hlt)
      obtain ⟨bb, off2, rfl, hbb2, c2⟩ := (hA.below sq (Nat.le_refl _)).int hx
      have hqi : (q : Int) < (N : Int) := by omega
      have hql : (q : Int) < (l.length : Int) := by rw [Hlen.out, HN.out]; exact hqi
      have hnext := shK_next hpair hx
      obtain ⟨S, hS⟩ : ∃ S, shC (shK n l q) = S := ⟨_, rfl⟩
      have hSs : S.size = 64 := by rw [← hS]; exact shC_size _
      have call := fun X : World => with_any (shK n l q) a b x (by omega) (by omega) X
      rw [hS] at bq call
      rw [← hnext] at call
      obtain ⟨T, hT⟩ : ∃ T, shC (shK n l (q + 1)) = T := ⟨_, rfl⟩
      have hTs : T.size = 64 := by rw [← hT]; exact shC_size _
      have hT1 : T.all (·.oneCell') = true := by rw [← hT]; exact shC_one _
      rw [hT] at call
      have hi : (Try.prog.info? 78).map (·.size) = some S.size := by rw [hSs]; exact sh_info
      have hi' : (Try.prog.info? 78).map (·.size) = some T.size := by rw [hTs]; exact sh_info
      have Call := Lib.hid call
      have HT := Lib.hid hT
      have HSs := Lib.hid hSs
      have HTs := Lib.hid hTs
      have HT1 := Lib.hid hT1
      have Bq := Lib.hid bq
      clear c0 c1 hx hpq hpair hat hnext hS call hT hSs hTs hT1 bq
      go_upto_region 5 with fail
      obtain ⟨X, hX⟩ : ∃ X, wr.alloc (Obj.cells #[.int .i64 a, .int .i64 b] 85) = X := ⟨_, rfl⟩
      have kX : Below wr.heap.size wr X := by rw [← hX]; exact (Below.refl _ _).alloc (Nat.le_refl _) _
      have m0 : X.cell? ⟨wr.heap.size, 0, none⟩ = some (.int .i64 a) := by rw [← hX]; simp
      have m1 : X.cell? ⟨wr.heap.size, 1, none⟩ = some (.int .i64 b) := by rw [← hX]; simp
      have hwr : w.heap.size + 2 < wr.heap.size := by omega
      have e2X := carry kX e2 (by omega)
      have c2X := carry kX c2 (by have := sq.size; omega)
      have bqX : X.heap[w.heap.size + 2]? = some (.cells S 78 (0, 0)) := (kX.block _ hwr).trans Bq.out
      rw [hX]
      have BqX := Lib.hid bqX
      have KX := Lib.hid kX
      clear hX d0 d1 e2 c2 bqX kX
      refine wp_region_still_tail 7 (by kernel_rfl) (by kernel_rfl) ?_
      simp only [List.take_succ_cons, List.take_zero, List.drop_succ_cons, List.drop_zero]
      refine wpStill_load_row rfl 78 _ rfl (w.heap.size + 2) rfl 78 S (0, 0) _ BqX.out sh_under rfl hi ?_
      repeat still_step
      refine wpStill_nil ?_
      change wpList _ _ _ _ _ (World.drew _)
      clear m0 m1 e2X c2X
      go_wp2_with fail
      refine (Call.out _).mono ?_
      rintro e w2 ⟨rfl, hb2⟩
      have g2 : Below X.heap.size X w2 := (Below.refl _ _).drew.trans hb2
      have g3 : Below wr.heap.size wr w2 := KX.out.trans (g2.mono KX.out.size)
      have bq2 : w2.heap[w.heap.size + 2]? = some (.cells S 78 (0, 0)) := (g2.block _ (by have := KX.out.size; omega)).trans BqX.out
      have Bq2 := Lib.hid bq2
      clear bq2 hb2
      go_wp2_with (first | (refine wpList_store_row rfl 78 _ _ rfl (w.heap.size + 2) T rfl rfl 78 S Bq2.out hi' (by rw [HSs.out, HTs.out]) HT1.out ?_))
      go_roundw
      case rel =>
        refine ⟨q + 1, by omega, by go_num, ?_, below_setRow (Hb.out.trans (g3.mono (by omega))) (Nat.le_refl _) T, ?_, fun j hj hjl => ?_⟩
        · rw [HT.out]
          exact setRow_heap w2 _ S T _ (0, 0) Bq2.out
        · rw [size_setRow]
          have := g3.size
          omega
        · rw [setRow_other _ _ _ _ hj]
          exact (g3.block j (by omega)).trans (Hk.out j hj hjl)
      case measure => simp [intOf]; omega
    · have hqN : q = N := by omega
      subst hqN
      have hge : ¬ ((q : Int) < (q : Int)) := by omega
      have hfin : shC (shK n l q) = F := by rw [← HF.out, ← HN.out]; rfl
      rw [hfin] at bq
      have bg := (Hk.out (w.heap.size + 1) (by omega) (by omega)).trans bq1
      obtain ⟨G, hG⟩ : ∃ G, shC (fun _ _ => 0) = G := ⟨_, rfl⟩
      have hGs : G.size = 64 := by rw [← hG]; exact shC_size _
      rw [hG] at bg
      have hi : (Try.prog.info? 78).map (·.size) = some F.size := by rw [HFs.out]; exact sh_info
      have Bq := Lib.hid bq
      have Bg := Lib.hid bg
      have Sq := Lib.hid sq
      clear bq bg hG hfin sq e2
      go_wp2_with (first | (refine wpList_load_row rfl 78 _ rfl (w.heap.size + 2) rfl 78 F (0, 0) _ Bq.out sh_under rfl hi ?_) | (refine wpList_store_row rfl 78 _ _ rfl (w.heap.size + 1) F rfl rfl 78 G Bg.out hi (by rw [hGs, HFs.out]) HF1.out ?_))
      refine bodyPost_ret (v := .agg F) (results_cell_row rfl _ _ (w.heap.size + 1) 78 F (0, 0) _ rfl (setRow_heap wr (w.heap.size + 1) G F 78 (0, 0) Bg.out) sh_under rfl hi) rfl ?_
      exact ⟨rfl, below_setRow Sq.out (by omega) F⟩
end Go.Proofs.Ytepoabbkalhifaa
/-
  A PAINTING IN A BOX OF THE CALL's OWN, whose colours are appended one by one.
-/
namespace Go.Proofs.Ytepoabbkalhifaa
open Go.RowKit

/-- The worlds above w0: a box at g holds a painting of n people and k colours, whose colours so far, L, lie in a row of the call's own. -/
structure PBox (B : Nat) (w0 wr : World) (n k : Int) (g : Nat) (v : Value) (L : List Int) : Prop where
  below : Below B w0 wr
  gB : B ≤ g
  box : wr.heap[g]? = some (.cells #[.int .i64 n, .int .i64 k, v] 27 (0, 0))
  own : wr.ownsRow B 3 1 v L.length (icells L)
section
variable {B g : Nat} {w0 wr W1 w1 : World} {n k : Int} {v v' : Value} {L : List Int}
theorem PBox.lt (h : PBox B w0 wr n k g v L) : g < wr.heap.size := lt_of_heap h.box
theorem ne_of_pbox (h : wr.heap[g]? = some (.cells #[.int .i64 n, .int .i64 k, v] 27 (0, 0))) {m : Nat} {xs : List Value} (ho : wr.ownsRow B 3 1 v' m xs) : v'.ownBlock ≠ some g := by
  rcases ho.2 with ⟨rfl, _⟩ | ⟨g', cap, cur, rfl, _, hh, _⟩
  · simp [Value.ownBlock]
  · intro e
    have hgb : g' = g := by simpa [Value.ownBlock] using e
    subst hgb
    rw [hh] at h
    injection h with h
    injection h with _ ht
    exact absurd ht (by decide)
theorem PBox.ne (h : PBox B w0 wr n k g v L) : v.ownBlock ≠ some g := ne_of_pbox h.box h.own
theorem PBox.cells (h : PBox B w0 wr n k g v L) : wr.cell? ⟨g, 0, none⟩ = some (.int .i64 n) ∧ wr.cell? ⟨g, 1, none⟩ = some (.int .i64 k) ∧ wr.cell? ⟨g, 2, none⟩ = some v ∧ ∀ j, wr.frozen? ⟨g, j, none⟩ = false :=
  ⟨by rw [cell_of_row _ _ _ _ _ _ h.box]; rfl, by rw [cell_of_row _ _ _ _ _ _ h.box]; rfl, by rw [cell_of_row _ _ _ _ _ _ h.box]; rfl, fun j => frozen_of_row _ _ j _ _ h.box⟩
theorem PBox.kept (h : PBox B w0 wr n k g v L) (hW : Below wr.heap.size wr W1) (hB : B ≤ wr.heap.size) : PBox B w0 W1 n k g v L :=
  ⟨h.below.trans (hW.mono hB), h.gB, (hW.block _ h.lt).trans h.box, own_below h.own hW (Nat.le_refl _)⟩
theorem PBox.le (h : PBox B w0 wr n k g v L) : B ≤ wr.heap.size := Nat.le_trans h.gB (Nat.le_of_lt h.lt)
/-- what stands behind an append -/
theorem PBox.grown (h : PBox B w0 wr n k g v L) (hW : Below wr.heap.size wr W1) (hg : W1.grownBy w1 v.ownBlock) :
    w1.heap[g]? = some (.cells #[.int .i64 n, .int .i64 k, v] 27 (0, 0)) ∧ w1.cell? ⟨g, 0, none⟩ = some (.int .i64 n) ∧ w1.cell? ⟨g, 1, none⟩ = some (.int .i64 k) ∧ w1.cell? ⟨g, 2, none⟩ = some v ∧ (∀ j, w1.frozen? ⟨g, j, none⟩ = false) ∧ Below B w0 w1 ∧ wr.heap.size ≤ w1.heap.size := by
  have hlt := h.lt
  have e : w1.heap[g]? = some (.cells #[.int .i64 n, .int .i64 k, v] 27 (0, 0)) := by
    rw [hg.block g (Nat.lt_of_lt_of_le hlt hW.size) (fun e => h.ne e.symm), hW.block g hlt]
    exact h.box
  refine ⟨e, by rw [cell_of_row _ _ _ _ _ _ e]; rfl, by rw [cell_of_row _ _ _ _ _ _ e]; rfl, by rw [cell_of_row _ _ _ _ _ _ e]; rfl, fun j => frozen_of_row _ _ j _ _ e, ?_, Nat.le_trans hW.size hg.size⟩
  exact (h.below.trans (hW.mono h.le)).grown hg (Nat.le_trans h.le hW.size) (fun k hk => (h.own.lt k hk).1)
/-- one colour more -/
theorem PBox.push {x : Int} (h : PBox B w0 wr n k g v L) (hW : Below wr.heap.size wr W1) (hg : W1.grownBy w1 v.ownBlock) (hown : w1.ownsRow B 3 1 v' (L.length + 1) (icells L ++ [.int .i64 x])) :
    PBox B w0 (w1.setCell ⟨g, 2, none⟩ v') n k g v' (L ++ [x]) := by
  obtain ⟨e, _, _, _, _, hb, _⟩ := h.grown hW hg
  have hne := ne_of_pbox e hown
  refine ⟨hb.setCell (p := ⟨g, 2, none⟩) h.gB _, h.gB, heap_setCell_same w1 g 2 _ _ v' e, ?_⟩
  have el : (L ++ [x]).length = L.length + 1 := by simp
  have ec : icells (L ++ [x]) = icells L ++ [.int .i64 x] := by simp [icells]
  rw [el, ec]
  exact hown.kept (row := some g) ⟨rfl, rfl, rfl, by simp, fun k _ hk => heap_setCell_other _ _ _ _ (fun e => hk (by rw [e]))⟩ (.inr hne)
/-- a colour is set -/
theorem PBox.set {g' m cap : Nat} (h : PBox B w0 wr n k g (.slice (some ⟨g', 0, none⟩) m cap) L) (hm : m = L.length) (j : Nat) (x : Int) :
    PBox B w0 (wr.setCell ⟨g', j, none⟩ (.int .i64 x)) n k g (.slice (some ⟨g', 0, none⟩) m cap) (L.set j x) := by
  subst hm
  have hne : g' ≠ g := fun e => h.ne (by rw [e]; rfl)
  have hlt := (h.own.lt g' rfl).1
  refine ⟨h.below.setCell (p := ⟨g', j, none⟩) hlt _, h.gB, (heap_setCell_other _ _ _ _ (fun e => hne e.symm)).trans h.box, ?_⟩
  rw [List.length_set]
  exact own_setInt h.own j x
end
end Go.Proofs.Ytepoabbkalhifaa
/-
  A STRUCT IN A BOX OF THE CALL's OWN that was laid ahead of what is read: its slice is appended to, all else that was there is kept.
-/
namespace Go.Proofs.Ytepoabbkalhifaa
open Go.RowKit

/-- behind w1, in which the box at g lies: the box holds a slice of the call's own, made later than w1; all other blocks of w1 are as they were -/
structure KBox (ty e : TypeId) (s : Nat) (mk : Value → Array Value) (w1 wr : World) (g : Nat) (v : Value) (m : Nat) (xs : List Value) : Prop where
  keep : ∀ j, j ≠ g → j < w1.heap.size → wr.heap[j]? = w1.heap[j]?
  below : Below g w1 wr
  size : w1.heap.size ≤ wr.heap.size
  lt : g < w1.heap.size
  box : wr.heap[g]? = some (.cells (mk v) ty (0, 0))
  own : wr.ownsRow w1.heap.size e s v m xs
section
variable {ty e : TypeId} {s : Nat} {mk : Value → Array Value} {w1 wr W1 w2 : World} {g : Nat} {v v' : Value} {m m' : Nat} {xs xs' : List Value}
theorem KBox.cell (h : KBox ty e s mk w1 wr g v m xs) {i : Nat} {u : Value} (hi : (mk v)[i]? = some u) : wr.cell? ⟨g, i, none⟩ = some u := by
  rw [cell_of_row _ _ _ _ _ _ h.box]; exact hi
theorem KBox.frozen (h : KBox ty e s mk w1 wr g v m xs) (i : Nat) : wr.frozen? ⟨g, i, none⟩ = false := frozen_of_row _ _ i _ _ h.box
theorem KBox.other (h : KBox ty e s mk w1 wr g v m xs) {b o : Nat} {u : Value} (hb : b ≠ g) (hlt : b < w1.heap.size) (hc : w1.cell? ⟨b, o, none⟩ = some u) : wr.cell? ⟨b, o, none⟩ = some u := by
  rw [← hc]
  simp [World.cell?, h.keep b hb hlt]
/-- what stands behind an append -/
theorem KBox.grown (h : KBox ty e s mk w1 wr g v m xs) (hW : Below wr.heap.size wr W1) (hg : W1.grownBy w2 v.ownBlock) : w2.heap[g]? = some (.cells (mk v) ty (0, 0)) ∧ Below g w1 w2 ∧ (∀ j, j < w1.heap.size → w2.heap[j]? = wr.heap[j]?) := by
  have hl := h.lt
  have hs := h.size
  have hb : ∀ j, j < w1.heap.size → w2.heap[j]? = wr.heap[j]? := fun j hj =>
    (hg.block j (by have := hW.size; omega) (fun e => by have := (h.own.lt j e.symm).1; omega)).trans (hW.block j (by omega))
  refine ⟨(hb g hl).trans h.box, ?_, hb⟩
  have h2 : Below g w1 W1 := h.below.trans (hW.mono (by omega))
  exact h2.grown hg (by have := hW.size; omega) (fun k hk => by have := (h.own.lt k hk).1; omega)
/-- the slice behind an append is stored -/
theorem KBox.push (h : KBox ty e s mk w1 wr g v m xs) (hW : Below wr.heap.size wr W1) (hg : W1.grownBy w2 v.ownBlock) (i : Nat) (hmk : (mk v).setIfInBounds i v' = mk v') (hown : w2.ownsRow w1.heap.size e s v' m' xs') :
    KBox ty e s mk w1 (w2.setCell ⟨g, i, none⟩ v') g v' m' xs' := by
  obtain ⟨hbx, hb2, hk⟩ := h.grown hW hg
  have hl := h.lt
  refine ⟨fun j hj hjl => ?_, hb2.setCell (p := ⟨g, i, none⟩) (Nat.le_refl _) _, ?_, hl, ?_, ownsRow_setCell_below hown (a := ⟨g, i, none⟩) hl _⟩
  · rw [heap_setCell_other _ _ _ _ hj, hk j hjl]
    exact h.keep j hj hjl
  · have h1 := h.size; have h2 := hW.size; have h3 := hg.size
    simp only [World.size_setCell]
    omega
  · rw [← hmk]
    exact heap_setCell_same w2 g i _ _ v' hbx
end
end Go.Proofs.Ytepoabbkalhifaa
/-
  'partyOfColour' of the program, by its contract; the pairs of a colour, pure.
-/
namespace Go.Proofs.Ytepoabbkalhifaa
open Go.RowKit

def ofColour (n : Nat) (l : List Int) (x : Int) (q : Int × Int) : Bool := colX n l q.1.toNat q.2.toNat == x
/-- the pairs of a colour -/
def pairsX (n : Nat) (l : List Int) (x : Int) : PL := (allP n).filter (ofColour n l x)
theorem pairsX_len {n : Nat} (hn : n ≤ 8) (l : List Int) (x : Int) : (pairsX n l x).length ≤ 28 := by
  have h := (count_of (p := (n : Int)) (by omega)).2.1
  rw [Int.toNat_natCast] at h
  exact Nat.le_trans (List.length_filter_le _ _) h
theorem ofColour_at {n q a b : Nat} {l : List Int} {x y : Int} (hab : a < b) (hq : q = atP n a b) (hy : l[q]? = some y) : ofColour n l x ((a : Int), (b : Int)) = (y == x) := by
  unfold ofColour colX
  simp only [Int.toNat_natCast]
  rw [Nat.min_eq_left (by omega), Nat.max_eq_right (by omega), ← hq, List.getD_eq_getElem?_getD, hy]
  rfl
def mkP (n : Int) (v : Value) : Array Value := #[.int .i64 n, v]
set_option maxHeartbeats 4000000 in
set_option maxRecDepth 100000 in
theorem partyOfColour_any (n : Nat) (k : Int) (l : List Int) (A : Option Addr) (c : Nat) (x : Int) (w : World) (hx : isX n k l = true) (hA : CRead w w.heap.size A (icells l)) :
    Calls Try.prog 85 #[.agg #[.int .i64 n, .int .i64 k, .slice A l.length c], .int .i64 x] w (GotParty w n (pairsX n l x)) := by
  obtain ⟨i0, hi, hz0, hz1, hz2⟩ := info_parts Try.infoPair
  have hn := (isX_parts hx).1
  have hn8 : n ≤ 8 := by omega
  have hlen := isX_len hx
  rw [Int.toNat_natCast] at hlen
  have hcount := (count_of (p := (n : Int)) (by omega)).2.1
  rw [Int.toNat_natCast] at hcount
  obtain ⟨PX, hPX⟩ : ∃ P, pairsX n l x = P := ⟨_, rfl⟩
  rw [hPX]
  have HPX := Lib.hid hPX
  clear hPX
  have hpre : ∀ q, (((allP n).take q).filter (ofColour n l x)).length ≤ 28 := fun q => by
    have h1 := List.length_filter_le (ofColour n l x) ((allP n).take q)
    rw [List.length_take] at h1
    omega
  have Hpre := Lib.hid hpre
  have Hlen := Lib.hid hlen
  clear hlen hx hpre
  obtain ⟨W, hW⟩ : ∃ W, ((w.alloc (Obj.cells #[.int .i64 n, .int .i64 k, .slice A l.length c] 27)).alloc (Obj.cells #[.int .i64 0, .slice none 0 0] 45)).alloc (Obj.cells #[.int .i64 n, .slice none 0 0] 45) = W := ⟨_, rfl⟩
  have kW : Below w.heap.size w W := by rw [← hW]; go_grown
  have a0 : W.cell? ⟨w.heap.size, 0, none⟩ = some (.int .i64 n) := by rw [← hW]; exact (World.cell?_alloc_lt _ _ _ (by simp; omega)).trans ((World.cell?_alloc_lt _ _ _ (by simp)).trans (by simp))
  have a2 : W.cell? ⟨w.heap.size, 2, none⟩ = some (.slice A l.length c) := by rw [← hW]; exact (World.cell?_alloc_lt _ _ _ (by simp; omega)).trans ((World.cell?_alloc_lt _ _ _ (by simp)).trans (by simp))
  have bR : W.heap[w.heap.size + 1]? = some (.cells #[.int .i64 0, .slice none 0 0] 45 (0, 0)) := by
    rw [← hW]
    have := heap_alloc_new (w.alloc (Obj.cells #[.int .i64 n, .int .i64 k, .slice A l.length c] 27)) (Obj.cells #[.int .i64 0, .slice none 0 0] 45)
    simp only [World.size_alloc] at this
    exact (((Below.refl _ ((w.alloc (Obj.cells #[.int .i64 n, .int .i64 k, .slice A l.length c] 27)).alloc (Obj.cells #[.int .i64 0, .slice none 0 0] 45))).alloc (Nat.le_refl _) _).block _ (by simp)).trans this
  have bx : W.heap[w.heap.size + 1 + 1]? = some (.cells #[.int .i64 n, .slice none 0 0] 45 (0, 0)) := by
    rw [← hW]
    have := heap_alloc_new ((w.alloc (Obj.cells #[.int .i64 n, .int .i64 k, .slice A l.length c] 27)).alloc (Obj.cells #[.int .i64 0, .slice none 0 0] 45)) (Obj.cells #[.int .i64 n, .slice none 0 0] 45)
    simp only [World.size_alloc] at this
    exact this
  have sW : w.heap.size + 1 + 1 < W.heap.size := by rw [← hW]; simp
  have HW := Lib.hid hW
  clear hW
  go_enter Try.func85, Try.ntmps85
  go_upto_region 2 with fail
  rw [HW.out]
  go_wp2_with fail
  refine (everyPair_any n (by omega) _).mono ?_
  rintro e w1 ⟨P1, c1, rfl, own1, hb1⟩
  have s1 := hb1.size
  have k1 := kW.trans (hb1.mono kW.size)
  have u2 := carry hb1 a2 (by omega)
  have br := (hb1.block (w.heap.size + 1) (by omega)).trans bR
  have y0 : w1.cell? ⟨w.heap.size + 1, 0, none⟩ = some (.int .i64 0) := by rw [cell_of_row _ _ _ _ _ _ br]; rfl
  have y1 : w1.cell? ⟨w.heap.size + 1, 1, none⟩ = some (.slice none 0 0) := by rw [cell_of_row _ _ _ _ _ _ br]; rfl
  have v0 : ∀ j, w1.frozen? ⟨w.heap.size + 1, j, none⟩ = false := fun j => frozen_of_row _ _ j _ _ br
  have rel0 : KBox 45 85 2 (mkP n) w1 w1 (w.heap.size + 1 + 1) (.slice none 0 0) (((allP n).take 0).filter (ofColour n l x)).length (pcells (((allP n).take 0).filter (ofColour n l x))) :=
    ⟨fun _ _ _ => rfl, Below.refl _ _, Nat.le_refl _, by omega, (hb1.block _ sW).trans bx, World.ownsRow_nil _ _ _ _⟩
  have Own1 := Lib.hid own1
  clear a0 a2 bR bx br own1 hb1
  obtain ⟨N, hN⟩ : ∃ N, (allP n).length = N := ⟨_, rfl⟩
  have HN := Lib.hid hN
  rw [hN] at hcount ⊢
  clear hN
  go_wp2_with fail
  go_loopw [15] (fun i wr => ∃ (q : Nat) (v : Value), q ≤ N ∧ i = .int .i64 q ∧ KBox 45 85 2 (mkP n) w1 wr (w.heap.size + 1 + 1) v (((allP n).take q).filter (ofColour n l x)).length (pcells (((allP n).take q).filter (ofColour n l x)))) (fun i _ => N - (intOf i).toNat)
  case atStart => exact ⟨0, _, Nat.zero_le _, rfl, rel0⟩
  case round =>
    clear rel0
    obtain ⟨q, v, hq, rfl, rel⟩ := hrel
    have kX : Below w.heap.size w wr := k1.trans (rel.below.mono (by omega))
    have hlen := Hpre.out q
    obtain ⟨L, hL⟩ : ∃ L, ((allP n).take q).filter (ofColour n l x) = L := ⟨_, rfl⟩
    rw [hL] at rel hlen
    have HL := Lib.hid hL
    clear hL
    have hsz := rel.size
    have hlt2 := rel.lt
    have b1' : wr.cell? ⟨w.heap.size + 1 + 1, 1, none⟩ = some v := rel.cell rfl
    have bf1 := rel.frozen 1
    have e2 := rel.other (b := w.heap.size) (by omega) (by omega) u2
    by_cases hlt : q < N
    · obtain ⟨a, b, hab, hbn, hat, hpq, _⟩ := pairAt_of hn8 (show q < (allP n).length by rw [HN.out]; exact hlt)
      obtain ⟨b1, off, rfl, hbb, c0, c1'⟩ := (CRead.of_own Own1.out).pair hpq
      have hgb := (Own1.out.lt b1 rfl).1
      have d0 := rel.other (by omega) hbb c0
      have d1 := rel.other (by omega) hbb c1'
      obtain ⟨y, hy⟩ := getSome l q (by rw [Hlen.out, HN.out]; exact hlt)
      obtain ⟨bb, off2, rfl, hbb2, c2⟩ := (hA.below kX (Nat.le_refl _)).int hy
      have hof := ofColour_at (x := x) hab hat hy
      have hqi : (q : Int) < (N : Int) := by omega
      have hql : (q : Int) < (l.length : Int) := by rw [Hlen.out, HN.out]; exact hqi
      have hstep : ((allP n).take (q + 1)).filter (ofColour n l x) = L ++ (if (y == x) = true then [((a : Int), (b : Int))] else []) := by
        rw [List.take_add_one, hpq, Option.toList_some, List.filter_append, HL.out, ← hof]
        congr 1
        simp only [List.filter_cons, List.filter_nil]
      have hW1 : ∀ o o' : Obj, Below wr.heap.size wr ((wr.alloc o).alloc o') := fun o o' => ((Below.refl _ wr).alloc (Nat.le_refl _) o).alloc (by simp) o'
      have hW0 : ∀ o : Obj, Below wr.heap.size wr (wr.alloc o) := fun o => (Below.refl _ wr).alloc (Nat.le_refl _) o
      have Hstep := Lib.hid hstep
      clear c0 c1' hpq hat hy hof hstep
      have hbw : bb < wr.heap.size := by have := kX.size; omega
      have hw0 : w.heap.size < wr.heap.size := by omega
      have hw2 : w.heap.size + 1 + 1 < wr.heap.size := by omega
      cases hyx : (y == x) with
      | false =>
        have rel1 : KBox 45 85 2 (mkP n) w1 (wr.alloc (Obj.cells #[.int .i64 a, .int .i64 b] 85)) (w.heap.size + 1 + 1) v L.length (pcells L) :=
          ⟨fun j h1 h2 => ((hW0 _).block j (by omega)).trans (rel.keep j h1 h2), rel.below.trans ((hW0 _).mono (by omega)), by simp; omega, rel.lt, ((hW0 _).block _ (by omega)).trans rel.box, rel.own.alloc _⟩
        have Rel1 := Lib.hid rel1
        have hfin := Hstep.out
        rw [hyx, if_neg Bool.false_ne_true, List.append_nil] at hfin
        have Hfin := Lib.hid hfin
        clear rel1 rel hfin
        go_wp2
        go_roundw
        case rel => exact ⟨q + 1, v, by omega, by go_num, by rw [Hfin.out]; exact Rel1.out⟩
        case measure => simp [intOf]; omega
      | true =>
        have hfin := Hstep.out
        rw [hyx, if_pos rfl] at hfin
        have Hfin := Lib.hid hfin
        have Rel := Lib.hid rel
        have ow := rel.own
        clear rel hfin
        go_wp2_with (at_builtin; refine wpList_append_own _ rfl _ _ 43 rfl w1.heap.size 85 i0 _ 2 16 Try.underlying43 hi hz0 hz1 hz2 rfl (by decide) _ _ _ rfl ((ow.alloc _).alloc _) ⟨wr.heap.size + 1, 0, none⟩ 1 1 [.int .i64 a, .int .i64 b] rfl rfl (two_cells (by simp) (by simp)) (two_one rfl rfl) (by unfold maxLen; omega) (by omega) (by simp; omega) ?_; intro v1 w2 hown2 hg2 _; obtain ⟨A2, d2, rfl, _⟩ := own_shape hown2; have hr1 := Rel.out.push (hW1 _ _) hg2 1 rfl hown2; obtain ⟨mid, _, _⟩ := Rel.out.grown (hW1 _ _) hg2; have z1 : w2.cell? ⟨w.heap.size + 1 + 1, 1, none⟩ = some v := (by rw [cell_of_row _ _ _ _ _ _ mid]; rfl); have z2 : w2.frozen? ⟨w.heap.size + 1 + 1, 1, none⟩ = false := frozen_of_row _ _ 1 _ _ mid; clear mid)
        go_roundw
        case rel => exact ⟨q + 1, _, by omega, by go_num, by rw [Hfin.out, List.length_append, List.length_singleton, show pcells (L ++ [((a : Int), (b : Int))]) = pcells L ++ [.int .i64 a, .int .i64 b] by (rw [pcells_append]; rfl)]; exact hr1⟩
        case measure => simp [intOf]; omega
    · have hqN : q = N := by omega
      subst hqN
      have hge : ¬ ((q : Int) < (q : Int)) := by omega
      have hLL := HL.out
      rw [List.take_of_length_le (by rw [HN.out]; exact Nat.le_refl _)] at hLL
      have hLL2 : PX = L := by rw [← HPX.out]; exact hLL
      subst hLL2
      obtain ⟨A', c', rfl, _⟩ := own_shape rel.own
      have r0 := rel.other (by omega) (by omega) y0
      have r1 := rel.other (by omega) (by omega) y1
      have b0 : wr.cell? ⟨w.heap.size + 1 + 1, 0, none⟩ = some (.int .i64 n) := rel.cell rfl
      have hfz : ∀ j, wr.frozen? ⟨w.heap.size + 1, j, none⟩ = false := fun j => by
        rw [← v0 j]
        simp [World.frozen?, rel.keep (w.heap.size + 1) (by omega) (by omega)]
      have f0 := hfz 0
      have f1 := hfz 1
      have Rel := Lib.hid rel
      clear rel hfz y0 y1 v0 hLL
      go_wp2
      refine bodyPost_ret (v := .agg #[.int .i64 n, .slice A' PX.length c']) (by simp [results, Try.results85, go_sem, r0, r1]) rfl ?_
      exact ⟨A', c', rfl, own_lower (ownsRow_setCell_below (ownsRow_setCell_below Rel.out.own (a := ⟨w.heap.size + 1, 0, none⟩) (by simp; omega) _) (a := ⟨w.heap.size + 1, 1, none⟩) (by simp; omega) _) (by omega),
        (kX.setCell (p := ⟨w.heap.size + 1, 0, none⟩) (by simp) _).setCell (p := ⟨w.heap.size + 1, 1, none⟩) (by simp) _⟩
end Go.Proofs.Ytepoabbkalhifaa
/-
  WHETHER A NUMBER IS IN A LIST: the model's look; a list's front.
-/
namespace Go.Proofs.Ytepoabbkalhifaa
open Go.RowKit

theorem icells_getD {l : List Int} {j : Nat} (h : j < l.length) : (icells l)[j]? = some (.int .i64 (l.getD j 0)) := by
  simp [icells, List.getD_eq_getElem?_getD, List.getElem?_eq_getElem h]
theorem CRead.ints {w : World} {B : Nat} {A : Option Addr} {q : List Int} (h : CRead w B A (icells q)) (hq : 0 < q.length) : ∃ b off, A = some ⟨b, off, none⟩ ∧ b < B ∧ ∀ j, j < q.length → w.cell? ⟨b, off + j, none⟩ = some (.int .i64 (q.getD j 0)) := by
  obtain ⟨b, off, rfl, hb, _⟩ := h 0 _ (icells_getD hq)
  refine ⟨b, off, rfl, hb, fun j hj => ?_⟩
  obtain ⟨b', off', e, _, hc⟩ := h j _ (icells_getD hj)
  simp only [Option.some.injEq, Addr.mk.injEq, and_true] at e
  obtain ⟨rfl, rfl⟩ := e
  exact hc

theorem CRead.front {w : World} {B : Nat} {A : Option Addr} {q : List Int} (h : CRead w B A (icells q)) (k : Nat) : CRead w B A (icells (q.take k)) := fun j u hu => by
  refine h j u ?_
  unfold icells at hu ⊢
  rw [List.map_take, List.getElem?_take] at hu
  split at hu
  · exact hu
  · cases hu


/-- whether a number is in a list -/
def hasI (q : List Int) (x : Int) : Bool := q.contains x
theorem hasI_mem {q : List Int} {x : Int} : hasI q x = true ↔ x ∈ q := List.contains_iff_mem
set_option maxHeartbeats 1000000 in
theorem l1Has_any (q : List Int) (x : Int) (A : Option Addr) (c : Nat) (w : World) (hl : q.length ≤ 1048576) (hA : CRead w w.heap.size A (icells q)) :
    Calls Try.prog 114 #[.slice A q.length c, .int .i64 x] w fun e w' => e = .returned (.bool (hasI q x)) ∧ w = w' := by
  go_enter Try.func114, Try.ntmps114
  go_wp2
  go_loop [9] (fun i => ∃ k : Nat, k ≤ q.length ∧ i = .int .i64 k ∧ ∀ (j : Nat) (y : Int), j < k → q[j]? = some y → y ≠ x) (fun i => q.length - (intOf i).toNat)
  case atStart => exact ⟨0, Nat.zero_le _, rfl, fun j x hj => by omega⟩
  case round =>
    obtain ⟨k, hk, rfl, hg⟩ := hrel
    have Hg := Lib.hid hg
    clear hg
    by_cases hlt : k < q.length
    · obtain ⟨y, hy⟩ := getSome q k hlt
      obtain ⟨b, off, rfl, hbb, c0⟩ := hA.int hy
      have hki : (k : Int) < (q.length : Int) := by omega
      have Hy := Lib.hid hy
      clear hy
      by_cases hyx : y = x
      · subst hyx
        have He := Lib.hid (show hasI q y = true from hasI_mem.2 (List.mem_of_getElem? Hy.out))
        go_wp2
        go_ret
        exact ⟨by rw [He.out]; rfl, rfl⟩
      · go_wp2
        go_round
        case rel =>
          refine ⟨k + 1, by omega, by go_num, fun j z hj hz => ?_⟩
          by_cases hjk : j = k
          · subst hjk
            rw [Hy.out] at hz
            simp only [Option.some.injEq] at hz
            subst hz
            exact hyx
          · exact Hg.out j z (by omega) hz
        case measure => simp [intOf]; omega
    · have hkl : k = q.length := by omega
      have e : hasI q x = false := by
        rw [Bool.eq_false_iff]
        intro hc
        rw [hasI_mem] at hc
        obtain ⟨i, hi, e⟩ := List.getElem_of_mem hc
        exact Hg.out i _ (by omega) (List.getElem?_eq_getElem hi) e
      have He := Lib.hid e
      clear e
      have hge : ¬ ((k : Int) < (q.length : Int)) := by omega
      go_wp2
      go_ret
      exact ⟨by rw [He.out]; rfl, rfl⟩
end Go.Proofs.Ytepoabbkalhifaa
/-
  'spec.l1Own': a copy of a list of numbers, by its contract.
-/
namespace Go.Proofs.Ytepoabbkalhifaa
open Go.RowKit

set_option maxHeartbeats 1000000 in
set_option maxRecDepth 100000 in
theorem l1Own_any (q : List Int) (A : Option Addr) (c : Nat) (w : World) (hq : q.length ≤ 1048576) (h0 : 0 < q.length) (hA : CRead w w.heap.size A (icells q)) :
    Calls Try.prog 101 #[.slice A q.length c] w fun e w' => ∃ A' c', e = .returned (.slice A' q.length c') ∧ w'.ownsRow w.heap.size 3 1 (.slice A' q.length c') q.length (icells q) ∧ Below w.heap.size w w' := by
  obtain ⟨i0, hi, hz0, hz1, hz2⟩ := info_parts Try.infoInt
  obtain ⟨b, off, rfl, hb, hr⟩ := hA.ints h0
  go_enter Try.func101, Try.ntmps101
  have hc : ∀ j u, (icells q)[j]? = some u → (w.alloc (Obj.cells #[] 3)).cell? ((⟨b, off, none⟩ : Addr).add j) = some u := fun j u hu => by
    rw [Addr.add_lit]
    obtain ⟨b', off', e, _, hcell⟩ := hA j u hu
    simp only [Option.some.injEq, Addr.mk.injEq, and_true] at e
    obtain ⟨rfl, rfl⟩ := e
    exact (World.cell?_alloc_lt _ _ _ hb).trans hcell
  clear hr
  go_wp2_with (at_builtin; refine wpList_append_grows _ rfl _ _ 22 rfl 3 i0 _ 1 8 Try.underlying22 hi hz0 hz1 hz2 rfl (by decide) (some ⟨w.heap.size, 0, none⟩) 0 0 [] rfl (fun h => by cases h) rfl (fun b' hb' m u hu => by simp at hu) ⟨b, off, none⟩ q.length c (icells q) rfl (by simp [icells]) hc (icells_one q) (by omega) (by unfold maxLen; omega) (by omega) ?_; intro v1 w4 own4 gr4; simp only [Nat.zero_add, List.nil_append] at own4; obtain ⟨A4, d4, rfl, _⟩ := own_shape own4)
  go_ret
  exact ⟨A4, d4, rfl, own_lower own4 (by simp), below_of_gb (gb_trans (World.grownBy_alloc w _ none) gr4) (Nat.le_refl _)⟩
end Go.Proofs.Ytepoabbkalhifaa
/-
  LISTS OF NUMBERS UNDER ONE SLICE, each row in a block of the call's own; 'spec.l1Own' of any list; 'spec.trGroups' as a plain list.
-/
namespace Go.Proofs.Ytepoabbkalhifaa
open Go.RowKit

structure LRows (w : World) (B : Nat) (v : Value) (LL : List (List Int)) (hs : List Value) : Prop where
  own : w.ownsRow B 22 1 v LL.length hs
  row : ∀ (i : Nat) (l : List Int), LL[i]? = some l → ∃ A c, hs[i]? = some (Value.slice A l.length c) ∧ w.ownsRow B 3 1 (Value.slice A l.length c) l.length (icells l)
  nil : LL = [] → v = Value.slice none 0 0
section
variable {w w' : World} {B B' : Nat} {v v' v2 : Value} {LL L2 : List (List Int)} {hs hs2 : List Value}
theorem LRows.none (w : World) (B : Nat) : LRows w B (Value.slice Option.none 0 0) [] [] := ⟨World.ownsRow_nil _ _ _ _, fun i l h => by simp at h, fun _ => rfl⟩
theorem LRows.below (h : LRows w B v LL hs) (hb : Below w.heap.size w w') : LRows w' B v LL hs :=
  ⟨own_below h.own hb (Nat.le_refl _), fun i l hi => by obtain ⟨A, c, e, o⟩ := h.row i l hi; exact ⟨A, c, e, own_below o hb (Nat.le_refl _)⟩, h.nil⟩
theorem LRows.lower (h : LRows w B v LL hs) (hB : B' ≤ B) : LRows w B' v LL hs :=
  ⟨own_lower h.own hB, fun i l hi => by obtain ⟨A, c, e, o⟩ := h.row i l hi; exact ⟨A, c, e, own_lower o hB⟩, h.nil⟩
theorem LRows.length (h : LRows w B v LL hs) : hs.length = LL.length := by have := h.own.1; omega
theorem LRows.one (h : LRows w B v LL hs) : ∀ u ∈ hs, u.oneCell' = true := by
  intro u hu
  obtain ⟨i, hi, rfl⟩ := List.getElem_of_mem hu
  have hl := h.length
  obtain ⟨A, c, e, _⟩ := h.row i LL[i] (List.getElem?_eq_getElem (by omega))
  rw [List.getElem?_eq_getElem hi] at e
  simp only [Option.some.injEq] at e
  rw [e]
  rfl
theorem blocks_apart {e e' : TypeId} {size size' n m : Nat} {xs ys : List Value} (h : w.ownsRow B e size v n xs) (h' : w.ownsRow B' e' size' v' m ys) (hne : e ≠ e') : v'.ownBlock = .none ∨ v'.ownBlock ≠ v.ownBlock := by
  rcases h'.2 with ⟨rfl, _⟩ | ⟨g, cap, cur, rfl, _, hg, _⟩
  · exact .inl rfl
  · refine .inr fun e => ?_
    rcases h.2 with ⟨rfl, _⟩ | ⟨g2, cap2, cur2, rfl, _, hg2, _⟩
    · simp [Value.ownBlock] at e
    · have : g = g2 := by simpa [Value.ownBlock] using e
      subst this
      rw [hg] at hg2
      simp only [Option.some.injEq, Obj.cells.injEq] at hg2
      exact hne hg2.2.1.symm
/-- rows appended to rows -/
theorem LRows.append (h : LRows w B v LL hs) (h2 : LRows w B v2 L2 hs2) (hown : w'.ownsRow B 22 1 v' (LL.length + L2.length) (hs ++ hs2)) (hg : w.grownBy w' v.ownBlock) (hn : L2 ≠ []) : LRows w' B v' (LL ++ L2) (hs ++ hs2) := by
  have keep : ∀ A c l, w.ownsRow B 3 1 (.slice A l.length c) l.length (icells l) → w'.ownsRow B 3 1 (.slice A l.length c) l.length (icells l) := fun A c l o => o.kept hg (blocks_apart h.own o (show (22 : TypeId) ≠ 3 by decide))
  refine ⟨by rw [List.length_append]; exact hown, fun i l hi => ?_, fun e => ?_⟩
  · have hl := h.length
    by_cases hlt : i < LL.length
    · rw [List.getElem?_append_left hlt] at hi
      obtain ⟨A, c, e, o⟩ := h.row i l hi
      exact ⟨A, c, by rw [List.getElem?_append_left (by omega)]; exact e, keep A c l o⟩
    · rw [List.getElem?_append_right (by omega)] at hi
      obtain ⟨A, c, e, o⟩ := h2.row _ l hi
      exact ⟨A, c, by rw [List.getElem?_append_right (by omega), hl]; exact e, keep A c l o⟩
  · simp at e
    exact absurd e.2 hn
end
/-- A call came back with lists of numbers. -/
def GotLL (w : World) (LL : List (List Int)) (e : Ending) (w' : World) : Prop := ∃ A c hs, e = .returned (.slice A LL.length c) ∧ LRows w' w.heap.size (.slice A LL.length c) LL hs ∧ Below w.heap.size w w'

set_option maxHeartbeats 1000000 in
set_option maxRecDepth 100000 in
theorem l1Own_all (q : List Int) (A : Option Addr) (c : Nat) (w : World) (hq : q.length ≤ 1048576) (hA : CRead w w.heap.size A (icells q)) (h0 : q = [] → A = none ∧ c = 0) :
    Calls Try.prog 101 #[.slice A q.length c] w fun e w' => ∃ A' c', e = .returned (.slice A' q.length c') ∧ w'.ownsRow w.heap.size 3 1 (.slice A' q.length c') q.length (icells q) ∧ Below w.heap.size w w' := by
  by_cases hz : q = []
  · obtain ⟨rfl, rfl⟩ := h0 hz
    subst hz
    obtain ⟨i0, hi, hz0, hz1, hz2⟩ := info_parts Try.infoInt
    have h1 : (w.alloc (.cells #[] 3)).ownsRow w.heap.size 3 1 (.slice (some ⟨w.heap.size, 0, none⟩) 0 0) 0 [] := World.ownsRow_made w #[] 0 (Nat.le_refl _) (Nat.zero_le _) rfl
    go_enter Try.func101, Try.ntmps101
    go_wp2_with (at_builtin; refine wpList_append_own_none rfl _ _ 22 rfl w.heap.size 3 i0 1 Try.underlying22 hi (.slice (some ⟨w.heap.size, 0, none⟩) 0 0) 0 [] rfl h1 rfl ?_)
    go_ret
    exact ⟨_, _, rfl, h1, by go_grown⟩
  · have hpos : 0 < q.length := by cases q with | nil => exact absurd rfl hz | cons x q => simp
    exact l1Own_any q A c w hq hpos hA

/-! ## The model's candidates -/
def fromQ (q : List Int) : Nat := match q.getLast? with | none => 0 | some x => x.toNat + 1
def candR (t : Nat → Nat → Bool) (n : Nat) (q : List Int) (a : Nat) : List Nat := (List.range' a (n - a)).filter fun b => q.all fun y => t b y.toNat
theorem candR_end (t : Nat → Nat → Bool) (n : Nat) (q : List Int) {a : Nat} (h : n ≤ a) : candR t n q a = [] := by unfold candR; rw [Nat.sub_eq_zero_of_le h]; rfl
theorem candR_no {t : Nat → Nat → Bool} {n : Nat} {q : List Int} {a : Nat} (h : a < n) (hk : (q.all fun y => t a y.toNat) = false) : candR t n q a = candR t n q (a + 1) := by
  unfold candR
  rw [show n - a = (n - (a + 1)) + 1 from by omega, List.range'_succ, List.filter_cons_of_neg (by simp [hk])]
theorem candR_yes {t : Nat → Nat → Bool} {n : Nat} {q : List Int} {a : Nat} (h : a < n) (hk : (q.all fun y => t a y.toNat) = true) : candR t n q a = a :: candR t n q (a + 1) := by
  unfold candR
  rw [show n - a = (n - (a + 1)) + 1 from by omega, List.range'_succ, List.filter_cons_of_pos (by simpa using hk)]
theorem candR_tied {t : Nat → Nat → Bool} (hs : ∀ i j, t i j = t j i) (n : Nat) (q : List Int) (a : Nat) : (candR t n q (a + 1)).filter (t a) = candR t n (q ++ [(a : Int)]) (fromQ (q ++ [(a : Int)])) := by
  unfold candR fromQ
  simp only [List.getLast?_append, List.getLast?_singleton, Option.some_or, Int.toNat_natCast]
  rw [List.filter_filter]
  refine List.filter_congr fun b _ => ?_
  rw [List.all_append]
  simp [hs a b, Bool.and_comm]
end Go.Proofs.Ytepoabbkalhifaa
/-
  A COPY OF A LIST of any length, and what an own row's slice looks like.
-/
namespace Go.Proofs.Ytepoabbkalhifaa
open Go.RowKit

theorem own_none {w : World} {B : Nat} {e : TypeId} {m c : Nat} {A : Option Addr} {xs : List Value} (h : w.ownsRow B e 1 (.slice A m c) m xs) : (A = none ∧ m = 0 ∧ c = 0) ∨ ∃ g, A = some ⟨g, 0, none⟩ := by
  rcases h.2 with ⟨h1, h2⟩ | ⟨g, cap, cur, hv, _⟩
  · simp only [Value.slice.injEq] at h1
    exact .inl ⟨h1.1, h2, h1.2.2⟩
  · simp only [Value.slice.injEq] at hv
    exact .inr ⟨g, hv.1⟩

theorem own_zero {w : World} {B : Nat} {e : TypeId} {m c : Nat} {A : Option Addr} {xs : List Value} (h : w.ownsRow B e 1 (.slice A m c) m xs) : A = none → c = 0 := by
  intro hA
  rcases own_none h with ⟨_, _, h3⟩ | ⟨g, h1⟩
  · exact h3
  · rw [hA] at h1; cases h1
set_option maxHeartbeats 4000000 in
set_option maxRecDepth 100000 in
theorem l1Own_row (q : List Int) (A : Option Addr) (c : Nat) (w : World) (hq : q.length ≤ 1048576) (hA : CRead w w.heap.size A (icells q)) (h0 : A = none → c = 0) :
    Calls Try.prog 101 #[.slice A q.length c] w fun e w' => ∃ A' c', e = .returned (.slice A' q.length c') ∧ w'.ownsRow w.heap.size 3 1 (.slice A' q.length c') q.length (icells q) ∧ Below w.heap.size w w' := by
  by_cases hz : q = []
  · cases A with
    | none => exact l1Own_all q none c w hq hA fun _ => ⟨rfl, h0 rfl⟩
    | some ad =>
      subst hz
      obtain ⟨i0, hi, hz0, hz1, hz2⟩ := info_parts Try.infoInt
      have h1 : (w.alloc (.cells #[] 3)).ownsRow w.heap.size 3 1 (.slice (some ⟨w.heap.size, 0, none⟩) 0 0) 0 [] := World.ownsRow_made w #[] 0 (Nat.le_refl _) (Nat.zero_le _) rfl
      go_enter Try.func101, Try.ntmps101
      go_wp2_with (at_builtin; refine wpList_append_own _ rfl _ _ 22 rfl w.heap.size 3 i0 _ 1 8 Try.underlying22 hi hz0 hz1 hz2 rfl (by decide) (.slice (some ⟨w.heap.size, 0, none⟩) 0 0) 0 [] rfl h1 ad 0 c [] rfl rfl (fun j u hj => by simp at hj) (by simp) (by unfold maxLen; omega) (by omega) (by simp) ?_; intro v1 w1 own1 gr1 _; have k1 : Below w.heap.size w w1 := ((Below.refl _ w).alloc (Nat.le_refl _) _).grown gr1 (by simp) (by intro m hm; simp [Value.ownBlock] at hm; omega); obtain ⟨A1, c1, rfl, _⟩ := own_shape own1)
      go_ret
      exact ⟨A1, c1, rfl, own1, k1⟩
  · exact l1Own_all q A c w hq hA fun e => absurd e hz
end Go.Proofs.Ytepoabbkalhifaa
/-
  PAINTINGS, THE MODEL's own small functions: two people, the place of a pair, its colour, a copy; by their contracts.
-/
namespace Go.Proofs.Ytepoabbkalhifaa
open Go.RowKit

/-- a painting and two different people of it -/
def twoX (p k : Int) (l : List Int) (a b : Int) : Bool := isX p k l && (decide (0 ≤ a ∧ a ≤ p - 1) && (decide (0 ≤ b ∧ b ≤ p - 1) && decide (a ≠ b)))
theorem twoX_parts {p k a b : Int} {l : List Int} (h : twoX p k l a b = true) : isX p k l = true ∧ (0 ≤ a ∧ a ≤ p - 1) ∧ (0 ≤ b ∧ b ≤ p - 1) ∧ a ≠ b := by
  simp only [twoX, Bool.and_eq_true, decide_eq_true_eq] at h
  exact ⟨h.1, h.2.1, h.2.2.1, h.2.2.2⟩
set_option maxHeartbeats 2000000 in
set_option maxRecDepth 100000 in
theorem ptTwo_any (p k : Int) (l : List Int) (A : Option Addr) (c : Nat) (a b : Int) (w : World) (hl : l.length ≤ 1048576) (hA : CRead w w.heap.size A (icells l)) :
    Calls Try.prog 67 #[.agg #[.int .i64 p, .int .i64 k, .slice A l.length c], .int .i64 a, .int .i64 b] w fun e w' => e = .returned (.bool (twoX p k l a b)) ∧ Below w.heap.size w w' := by
  have RA : CRead (w.alloc (Obj.cells #[.int .i64 p, .int .i64 k, .slice A l.length c] 27)) (w.alloc (Obj.cells #[.int .i64 p, .int .i64 k, .slice A l.length c] 27)).heap.size A (icells l) := (hA.below (B' := w.heap.size) (by go_grown) (Nat.le_refl _)).more (by go_size)
  cases hp : isX p k l with
  | false =>
    have e : twoX p k l a b = false := by simp [twoX, hp]
    rw [e]
    have Hp := Lib.hid hp
    clear hp e
    go_enter Try.func67, Try.ntmps67
    go_wp2_with fail
    refine (ptGood_any _ _ _ _ _ _ hl RA).mono ?_
    rw [Hp.out]
    rintro e w2 ⟨rfl, hb2⟩
    simp only [World.size_alloc] at hb2
    go_wp2
    go_ret
    exact ⟨rfl, Below.trans (b := _) (by go_grown) (hb2.mono (by omega))⟩
  | true =>
    have hr := (isX_parts hp).1
    obtain ⟨hr0, hr1⟩ := hr
    have Hp := Lib.hid hp
    by_cases ha : 0 ≤ a ∧ a ≤ p - 1
    · obtain ⟨ha0, ha1⟩ := ha
      by_cases hb : 0 ≤ b ∧ b ≤ p - 1
      · obtain ⟨hb0, hb1⟩ := hb
        obtain ⟨r, hr⟩ : ∃ r, (a != b) = r := ⟨_, rfl⟩
        have e : twoX p k l a b = r := by
          rw [← hr]
          simp only [twoX, hp, ha0, ha1, hb0, hb1, and_self, decide_true, Bool.true_and]
          by_cases hab : a = b <;> simp [hab]
        rw [e]
        clear hp e
        go_enter Try.func67, Try.ntmps67
        go_wp2_with fail
        refine (ptGood_any _ _ _ _ _ _ hl RA).mono ?_
        rw [Hp.out]
        rintro e w2 ⟨rfl, hb2⟩
        simp only [World.size_alloc] at hb2
        have c0 : w2.cell? ⟨w.heap.size, 0, none⟩ = some (.int .i64 p) := carry hb2 (by simp) (by omega)
        go_wp2_with fail
        refine (l1In_yes a 0 (p - 1) ha0 ha1 _).mono ?_
        rintro e w' ⟨rfl, rfl⟩
        go_wp2_with fail
        refine (l1In_yes b 0 (p - 1) hb0 hb1 _).mono ?_
        rintro e w' ⟨rfl, rfl⟩
        go_wp2
        go_ret
        exact ⟨by rw [← hr]; rfl, Below.trans (b := _) (by go_grown) (hb2.mono (by omega))⟩
      · have e : twoX p k l a b = false := by simp [twoX, hb]
        rw [e]
        clear hp e
        go_enter Try.func67, Try.ntmps67
        go_wp2_with fail
        refine (ptGood_any _ _ _ _ _ _ hl RA).mono ?_
        rw [Hp.out]
        rintro e w2 ⟨rfl, hb2⟩
        simp only [World.size_alloc] at hb2
        have c0 : w2.cell? ⟨w.heap.size, 0, none⟩ = some (.int .i64 p) := carry hb2 (by simp) (by omega)
        go_wp2_with fail
        refine (l1In_yes a 0 (p - 1) ha0 ha1 _).mono ?_
        rintro e w' ⟨rfl, rfl⟩
        go_wp2_with fail
        refine (l1In_no b 0 (p - 1) (by omega) _).mono ?_
        rintro e w' ⟨rfl, rfl⟩
        go_wp2
        go_ret
        exact ⟨rfl, Below.trans (b := _) (by go_grown) (hb2.mono (by omega))⟩
    · have e : twoX p k l a b = false := by simp [twoX, ha]
      rw [e]
      clear hp e
      go_enter Try.func67, Try.ntmps67
      go_wp2_with fail
      refine (ptGood_any _ _ _ _ _ _ hl RA).mono ?_
      rw [Hp.out]
      rintro e w2 ⟨rfl, hb2⟩
      simp only [World.size_alloc] at hb2
      have c0 : w2.cell? ⟨w.heap.size, 0, none⟩ = some (.int .i64 p) := carry hb2 (by simp) (by omega)
      go_wp2_with fail
      refine (l1In_no a 0 (p - 1) (by omega) _).mono ?_
      rintro e w' ⟨rfl, rfl⟩
      go_wp2
      go_ret
      exact ⟨rfl, Below.trans (b := _) (by go_grown) (hb2.mono (by omega))⟩
/-- the place, in the model's own words -/
theorem ptAt_num : ∀ n : Fin 9, ∀ a : Fin 8, ∀ b : Fin 8, a.val < b.val → b.val < n.val →
    ((a.val : Int) * (2 * (n.val : Int) - a.val - 1)).tdiv 2 + b.val - a.val - 1 = (atP n.val a.val b.val : Int) ∧ (0 ≤ (a.val : Int) * (2 * (n.val : Int) - a.val - 1) ∧ (a.val : Int) * (2 * (n.val : Int) - a.val - 1) ≤ 1000) ∧ (0 ≤ ((a.val : Int) * (2 * (n.val : Int) - a.val - 1)).tdiv 2 ∧ ((a.val : Int) * (2 * (n.val : Int) - a.val - 1)).tdiv 2 ≤ 1000) := by decide +kernel
set_option maxHeartbeats 2000000 in
set_option maxRecDepth 100000 in
theorem ptAt_any (n a b : Nat) (hn : n ≤ 8) (ha : a < n) (hb : b < n) (hab : a ≠ b) (w : World) :
    Calls Try.prog 73 #[.int .i64 n, .int .i64 a, .int .i64 b] w fun e w' => e = .returned (.int .i64 (atP n (min a b) (max a b))) ∧ w = w' := by
  rcases Nat.lt_or_gt_of_ne hab with h | h
  · rw [Nat.min_eq_left (by omega), Nat.max_eq_right (by omega)]
    obtain ⟨e, ⟨q0, q1⟩, r0, r1⟩ := ptAt_num ⟨n, by omega⟩ ⟨a, by omega⟩ ⟨b, by omega⟩ h hb
    simp only at e q0 q1 r0 r1
    have w1 : IntKind.i64.wrap ((a : Int) * (2 * (n : Int) - a - 1)) = (a : Int) * (2 * (n : Int) - a - 1) := wrap_small (by omega)
    have w2 : IntKind.i64.wrap (((a : Int) * (2 * (n : Int) - a - 1)).tdiv 2) = ((a : Int) * (2 * (n : Int) - a - 1)).tdiv 2 := wrap_small (by omega)
    have hgt : ¬ ((b : Int) < (a : Int)) := by omega
    rw [← e]
    clear e
    go_enter Try.func73, Try.ntmps73
    go_wp2
    go_ret
    exact ⟨rfl, rfl⟩
  · rw [Nat.min_eq_right (by omega), Nat.max_eq_left (by omega)]
    obtain ⟨e, ⟨q0, q1⟩, r0, r1⟩ := ptAt_num ⟨n, by omega⟩ ⟨b, by omega⟩ ⟨a, by omega⟩ h ha
    simp only at e q0 q1 r0 r1
    have w1 : IntKind.i64.wrap ((b : Int) * (2 * (n : Int) - b - 1)) = (b : Int) * (2 * (n : Int) - b - 1) := wrap_small (by omega)
    have w2 : IntKind.i64.wrap (((b : Int) * (2 * (n : Int) - b - 1)).tdiv 2) = ((b : Int) * (2 * (n : Int) - b - 1)).tdiv 2 := wrap_small (by omega)
    have hgt : (b : Int) < (a : Int) := by omega
    rw [← e]
    clear e
    go_enter Try.func73, Try.ntmps73
    go_wp2
    go_ret
    exact ⟨rfl, rfl⟩
set_option maxHeartbeats 2000000 in
set_option maxRecDepth 100000 in
theorem ptOf_any (n : Nat) (k : Int) (l : List Int) (A : Option Addr) (c : Nat) (a b : Nat) (w : World) (hx : isX n k l = true) (ha : a < n) (hb : b < n) (hab : a ≠ b) (hA : CRead w w.heap.size A (icells l)) :
    Calls Try.prog 68 #[.agg #[.int .i64 n, .int .i64 k, .slice A l.length c], .int .i64 a, .int .i64 b] w fun e w' => e = .returned (.int .i64 (colX n l a b)) ∧ Below w.heap.size w w' := by
  have hn := (isX_parts hx).1
  have hi : atP n (min a b) (max a b) < l.length := by
    rw [isX_len hx, Int.toNat_natCast]
    exact atP_lt (by omega) (by omega) (by omega)
  obtain ⟨i, hi2⟩ : ∃ i, atP n (min a b) (max a b) = i := ⟨_, rfl⟩
  rw [hi2] at hi
  obtain ⟨x, hx2⟩ := getSome l i hi
  have e : colX n l a b = x := by unfold colX; rw [hi2, List.getD_eq_getElem?_getD, hx2]; rfl
  rw [e]
  have call := fun X : World => ptAt_any n a b (by omega) ha hb hab X
  simp only [hi2] at call
  obtain ⟨bb, off, rfl, hbb, c0⟩ := (hA.below (B' := w.heap.size) (w' := w.alloc (Obj.cells #[.int .i64 n, .int .i64 k, .slice A l.length c] 27)) (by go_grown) (Nat.le_refl _)).int hx2
  have hii : (i : Int) < (l.length : Int) := by omega
  have Call := Lib.hid call
  clear call e hx2 hi2 hx hn
  obtain ⟨X, hX⟩ : ∃ X, w.alloc (Obj.cells #[.int .i64 n, .int .i64 k, .slice (some ⟨bb, off, none⟩) l.length c] 27) = X := ⟨_, rfl⟩
  have x0 : X.cell? ⟨w.heap.size, 0, none⟩ = some (.int .i64 n) := by rw [← hX]; simp
  have x2 : X.cell? ⟨w.heap.size, 2, none⟩ = some (.slice (some ⟨bb, off, none⟩) l.length c) := by rw [← hX]; simp
  have kX : Below w.heap.size w X := by rw [← hX]; go_grown
  rw [hX] at c0
  have HX := Lib.hid hX
  have KX := Lib.hid kX
  clear hX kX
  go_enter Try.func68, Try.ntmps68
  go_wp2_with fail
  rw [HX.out]
  go_quiet (first | (go_at_call 73; refine Calls.quiet_of_same ((Call.out _).mono fun _ _ ⟨he, hw⟩ => ⟨he, hw.symm⟩)))
  go_wp2
  go_ret
  exact ⟨rfl, ⟨KX.out.os, KX.out.tape, KX.out.output, KX.out.size, KX.out.block⟩⟩
set_option maxHeartbeats 2000000 in
set_option maxRecDepth 100000 in
theorem ptOwn_any (p k : Int) (l : List Int) (A : Option Addr) (c : Nat) (w : World) (hl : l.length ≤ 1048576) (hA : CRead w w.heap.size A (icells l)) (h0 : A = none → c = 0) :
    Calls Try.prog 72 #[.agg #[.int .i64 p, .int .i64 k, .slice A l.length c]] w (GotPaint w p k l) := by
  go_enter Try.func72, Try.ntmps72
  go_wp2
  obtain ⟨W, hW⟩ : ∃ W, (w.alloc (Obj.cells #[.int .i64 p, .int .i64 k, .slice A l.length c] 27)).alloc (Obj.cells #[.int .i64 0, .int .i64 0, .slice none 0 0] 27) = W := ⟨_, rfl⟩
  have a0 : W.cell? ⟨w.heap.size, 0, none⟩ = some (.int .i64 p) := by rw [← hW]; simp
  have a1 : W.cell? ⟨w.heap.size, 1, none⟩ = some (.int .i64 k) := by rw [← hW]; simp
  have a2 : W.cell? ⟨w.heap.size, 2, none⟩ = some (.slice A l.length c) := by rw [← hW]; simp
  have x0 : W.cell? ⟨w.heap.size + 1, 0, none⟩ = some (.int .i64 0) := by rw [← hW]; simp
  have x1 : W.cell? ⟨w.heap.size + 1, 1, none⟩ = some (.int .i64 0) := by rw [← hW]; simp
  have x2 : W.cell? ⟨w.heap.size + 1, 2, none⟩ = some (.slice none 0 0) := by rw [← hW]; simp
  have z0 : W.frozen? ⟨w.heap.size + 1, 0, none⟩ = false := by rw [← hW]; simp
  have z1 : W.frozen? ⟨w.heap.size + 1, 1, none⟩ = false := by rw [← hW]; simp
  have z2 : W.frozen? ⟨w.heap.size + 1, 2, none⟩ = false := by rw [← hW]; simp
  have kW : Below w.heap.size w W := by rw [← hW]; go_grown
  have sW : w.heap.size + 1 < W.heap.size := by rw [← hW]; simp
  rw [hW]
  clear hW
  go_region_held3 (fun w' => w'.cell? ⟨w.heap.size, 0, none⟩ = some (.int .i64 p) ∧ w'.cell? ⟨w.heap.size, 1, none⟩ = some (.int .i64 k) ∧ w'.cell? ⟨w.heap.size, 2, none⟩ = some (.slice A l.length c)) (first | exact ⟨a0, a1, a2⟩ | exact ⟨b0, b1, b2⟩ | exact ⟨(World.cell?_setCell_other _ _ _ _ (by simp)).trans ((World.cell?_setCell_other _ _ _ _ (by simp)).trans ((World.cell?_setCell_other _ _ _ _ (by simp)).trans b0)), (World.cell?_setCell_other _ _ _ _ (by simp)).trans ((World.cell?_setCell_other _ _ _ _ (by simp)).trans ((World.cell?_setCell_other _ _ _ _ (by simp)).trans b1)), (World.cell?_setCell_other _ _ _ _ (by simp)).trans ((World.cell?_setCell_other _ _ _ _ (by simp)).trans ((World.cell?_setCell_other _ _ _ _ (by simp)).trans b2))⟩) ((first
    | (go_at_call 101; refine (l1Own_row l A c _ hl ((hA.below kW.drew (Nat.le_refl _)).more kW.size) h0).mono ?_; rintro e w1 ⟨A1, c1, rfl, own1, hb1⟩; have g1 : Below W.heap.size W w1 := (Below.refl _ _).drew.trans hb1; have b0 := carry g1 a0 (by omega); have b1 := carry g1 a1 (by omega); have b2 := carry g1 a2 (by omega); have y0 := carry g1 x0 (by omega); have y1 := carry g1 x1 (by omega); have y2 := carry g1 x2 (by omega); have v0 := (g1.frozen (p := ⟨w.heap.size + 1, 0, none⟩) sW).trans z0; have v1 := (g1.frozen (p := ⟨w.heap.size + 1, 1, none⟩) sW).trans z1; have v2 := (g1.frozen (p := ⟨w.heap.size + 1, 2, none⟩) sW).trans z2; have s1 := g1.size)
    | skip))
  go_wp2
  refine bodyPost_ret (v := .agg #[.int .i64 p, .int .i64 k, .slice A1 l.length c1]) (by simp [results, Try.results72, go_sem, y0, y1, y2]) rfl ?_
  exact ⟨A1, c1, rfl, own_lower (ownsRow_setCell_below (ownsRow_setCell_below (ownsRow_setCell_below own1 (a := ⟨w.heap.size + 1, 0, none⟩) sW _) (a := ⟨w.heap.size + 1, 1, none⟩) sW _) (a := ⟨w.heap.size + 1, 2, none⟩) sW _) (show w.heap.size ≤ W.heap.size by omega),
    (((kW.trans (g1.mono kW.size)).setCell (p := ⟨w.heap.size + 1, 0, none⟩) (by simp) _).setCell (p := ⟨w.heap.size + 1, 1, none⟩) (by simp) _).setCell (p := ⟨w.heap.size + 1, 2, none⟩) (by simp) _⟩
theorem colIn_any (k x : Int) (w : World) : Calls Try.prog 71 #[.int .i64 x, .int .i64 0, .int .i64 (k - 1)] w fun e w' => e = .returned (.bool (isColB k x)) ∧ Below w.heap.size w w' :=
  (l1In_any x 0 (k - 1) w).mono fun _ _ h => by
    have e : l1InB x 0 (k - 1) = isColB k x := by
      unfold l1InB isColB
      by_cases h0 : 0 ≤ x <;> by_cases h1 : x < k <;> simp [h0, h1] <;> omega
    rw [e] at h
    exact ⟨h.1, h.2 ▸ Below.refl _ _⟩
end Go.Proofs.Ytepoabbkalhifaa
/-
  A PARTY IN A BOX OF THE CALL's OWN, whose pairs are appended one by one.
-/
namespace Go.Proofs.Ytepoabbkalhifaa
open Go.RowKit

/-- The worlds above w0: a box at g holds a party of n people whose pairs so far, L, lie in a row of the call's own. -/
structure BoxRel (B : Nat) (w0 wr : World) (n : Int) (g : Nat) (v : Value) (L : PL) : Prop where
  below : Below B w0 wr
  gB : B ≤ g
  box : wr.heap[g]? = some (.cells #[.int .i64 n, v] 45 (0, 0))
  own : wr.ownsRow B 85 2 v L.length (pcells L)
section
variable {B g : Nat} {w0 wr W1 w1 : World} {n : Int} {v v' : Value} {L : PL}
theorem BoxRel.lt (h : BoxRel B w0 wr n g v L) : g < wr.heap.size := lt_of_heap h.box
theorem ne_of_box (h : wr.heap[g]? = some (.cells #[.int .i64 n, v] 45 (0, 0))) {k : Nat} {xs : List Value} (ho : wr.ownsRow B 85 2 v' k xs) : v'.ownBlock ≠ some g := by
  rcases ho.2 with ⟨rfl, _⟩ | ⟨g', cap, cur, rfl, _, hh, _⟩
  · simp [Value.ownBlock]
  · intro e
    have hgb : g' = g := by simpa [Value.ownBlock] using e
    subst hgb
    rw [hh] at h
    injection h with h
    injection h with _ ht
    exact absurd ht (by decide)
theorem BoxRel.ne (h : BoxRel B w0 wr n g v L) : v.ownBlock ≠ some g := ne_of_box h.box h.own
theorem BoxRel.cells (h : BoxRel B w0 wr n g v L) : wr.cell? ⟨g, 0, none⟩ = some (.int .i64 n) ∧ wr.cell? ⟨g, 1, none⟩ = some v ∧ ∀ j, wr.frozen? ⟨g, j, none⟩ = false :=
  ⟨by rw [cell_of_row _ _ _ _ _ _ h.box]; rfl, by rw [cell_of_row _ _ _ _ _ _ h.box]; rfl, fun j => frozen_of_row _ _ j _ _ h.box⟩
/-- a world that keeps all that was -/
theorem BoxRel.kept (h : BoxRel B w0 wr n g v L) (hW : Below wr.heap.size wr W1) (hB : B ≤ wr.heap.size) : BoxRel B w0 W1 n g v L :=
  ⟨h.below.trans (hW.mono hB), h.gB, (hW.block _ h.lt).trans h.box, own_below h.own hW (Nat.le_refl _)⟩
theorem BoxRel.le (h : BoxRel B w0 wr n g v L) : B ≤ wr.heap.size := Nat.le_trans h.gB (Nat.le_of_lt h.lt)
/-- what stands behind an append -/
theorem BoxRel.grown (h : BoxRel B w0 wr n g v L) (hW : Below wr.heap.size wr W1) (hg : W1.grownBy w1 v.ownBlock) :
    w1.heap[g]? = some (.cells #[.int .i64 n, v] 45 (0, 0)) ∧ w1.cell? ⟨g, 0, none⟩ = some (.int .i64 n) ∧ w1.cell? ⟨g, 1, none⟩ = some v ∧ (∀ j, w1.frozen? ⟨g, j, none⟩ = false) ∧ Below B w0 w1 ∧ wr.heap.size ≤ w1.heap.size := by
  have hlt := h.lt
  have e : w1.heap[g]? = some (.cells #[.int .i64 n, v] 45 (0, 0)) := by
    rw [hg.block g (Nat.lt_of_lt_of_le hlt hW.size) (fun e => h.ne e.symm), hW.block g hlt]
    exact h.box
  refine ⟨e, by rw [cell_of_row _ _ _ _ _ _ e]; rfl, by rw [cell_of_row _ _ _ _ _ _ e]; rfl, fun j => frozen_of_row _ _ j _ _ e, ?_, Nat.le_trans hW.size hg.size⟩
  exact (h.below.trans (hW.mono h.le)).grown hg (Nat.le_trans h.le hW.size) (fun k hk => (h.own.lt k hk).1)
/-- one pair more -/
theorem BoxRel.push {x y : Int} (h : BoxRel B w0 wr n g v L) (hW : Below wr.heap.size wr W1) (hg : W1.grownBy w1 v.ownBlock) (hown : w1.ownsRow B 85 2 v' (L.length + 1) (pcells L ++ [.int .i64 x, .int .i64 y])) :
    BoxRel B w0 (w1.setCell ⟨g, 1, none⟩ v') n g v' (L ++ [(x, y)]) := by
  obtain ⟨e, _, _, _, hb, _⟩ := h.grown hW hg
  have hne := ne_of_box e hown
  refine ⟨hb.setCell (p := ⟨g, 1, none⟩) h.gB _, h.gB, heap_setCell_same w1 g 1 _ _ v' e, ?_⟩
  have el : (L ++ [(x, y)]).length = L.length + 1 := by simp
  rw [el, pcells_append]
  exact hown.kept (row := some g) ⟨rfl, rfl, rfl, by simp, fun k _ hk => heap_setCell_other _ _ _ _ (fun e => hk (by rw [e]))⟩ (.inr hne)
end
end Go.Proofs.Ytepoabbkalhifaa
/-
  'PartyOfColour': the model's and the program's, by their contracts. Written by wip/tools/gen_partyc.py.
-/
namespace Go.Proofs.Ytepoabbkalhifaa
open Go.RowKit

def resPartyOfColour (p k : Int) (l : List Int) (x : Int) : Int × PL × Bool := if isX p k l && isColB k x then (p, pairsX p.toNat l x, true) else (0, [], false)
theorem resPartyOfColour_len (p k : Int) (l : List Int) (x : Int) : (resPartyOfColour p k l x).2.1.length ≤ 1048576 := by
  unfold resPartyOfColour
  split
  · rename_i h
    simp only [Bool.and_eq_true] at h
    have h1 := (isX_parts h.1).1
    have h2 := pairsX_len (n := p.toNat) (by omega) l x
    simp only
    omega
  · simp

set_option maxHeartbeats 4000000 in
set_option maxRecDepth 100000 in
theorem implPartyOfColour_any (p k : Int) (l : List Int) (A : Option Addr) (c : Nat) (x : Int) (w : World) (hl : l.length ≤ 1048576) (hA : CRead w w.heap.size A (icells l)) :
    Calls Try.prog 35 #[.agg #[.int .i64 p, .int .i64 k, .slice A l.length c], .int .i64 x] w (GotPartyOk w (resPartyOfColour p k l x).1 (resPartyOfColour p k l x).2.1 (resPartyOfColour p k l x).2.2) := by
  obtain ⟨w0, hW⟩ : ∃ W, (w.alloc (Obj.cells #[.int .i64 p, .int .i64 k, .slice A l.length c] 27)).alloc (Obj.cells #[.int .i64 0, .slice none 0 0] 45) = W := ⟨_, rfl⟩
  have a0_0 : w0.cell? ⟨w.heap.size, 0, none⟩ = some (.int .i64 p) := by rw [← hW]; simp
  have a1_0 : w0.cell? ⟨w.heap.size, 1, none⟩ = some (.int .i64 k) := by rw [← hW]; simp
  have a2_0 : w0.cell? ⟨w.heap.size, 2, none⟩ = some (.slice A l.length c) := by rw [← hW]; simp
  have x0_0 : w0.cell? ⟨w.heap.size + 1, 0, none⟩ = some (.int .i64 0) := by rw [← hW]; simp
  have z0_0 : w0.frozen? ⟨w.heap.size + 1, 0, none⟩ = false := by rw [← hW]; simp
  have x1_0 : w0.cell? ⟨w.heap.size + 1, 1, none⟩ = some (.slice none 0 0) := by rw [← hW]; simp
  have z1_0 : w0.frozen? ⟨w.heap.size + 1, 1, none⟩ = false := by rw [← hW]; simp
  have k0 : Below w.heap.size w w0 := by rw [← hW]; go_grown
  have sP_0 : w.heap.size < w0.heap.size := by rw [← hW]; simp only [World.size_alloc]; omega
  have sR_0 : w.heap.size + 1 < w0.heap.size := by rw [← hW]; simp only [World.size_alloc]; omega
  have RA0 : CRead w0 w0.heap.size A (icells l) := (hA.below k0 (Nat.le_refl _)).more k0.size
  have HW := Lib.hid hW
  clear hW
  cases h1 : isX p k l with
  | false =>
    have e : resPartyOfColour p k l x = (0, [], false) := by simp [resPartyOfColour, h1]
    rw [e]
    have H1 := Lib.hid h1
    clear e h1
    go_enter Try.func35, Try.ntmps35
    go_wp2_with fail
    rw [HW.out]
    refine (isPainting_any p k l A c _ hl RA0).mono ?_
    rw [H1.out]
    rintro e w1 ⟨rfl, hb1⟩
    have k1 := k0.trans (hb1.mono k0.size)
    have RA1 := (RA0.below hb1 (Nat.le_refl _)).more hb1.size
    have a0_1 := carry hb1 a0_0 sP_0
    have a1_1 := carry hb1 a1_0 sP_0
    have a2_1 := carry hb1 a2_0 sP_0
    have x0_1 := carry hb1 x0_0 sR_0
    have z0_1 := (hb1.frozen (p := ⟨w.heap.size + 1, 0, none⟩) sR_0).trans z0_0
    have x1_1 := carry hb1 x1_0 sR_0
    have z1_1 := (hb1.frozen (p := ⟨w.heap.size + 1, 1, none⟩) sR_0).trans z1_0
    have sP_1 := Nat.lt_of_lt_of_le sP_0 hb1.size
    have sR_1 := Nat.lt_of_lt_of_le sR_0 hb1.size
    clear RA0 hb1 a0_0 a1_0 a2_0 x0_0 z0_0 x1_0 z1_0 sP_0 sR_0
    go_wp2
    refine bodyPost_ret (v := .tuple #[.agg #[.int .i64 0, .slice none 0 0], .bool false]) (by simp [results, Try.results35, go_sem, x0_1, x1_1]) rfl ?_
    exact ⟨none, 0, rfl, World.ownsRow_nil _ _ _ _, ((k1.setCell (p := ⟨w.heap.size + 1, 0, none⟩) (by simp) _).setCell (p := ⟨w.heap.size + 1, 1, none⟩) (by simp) _)⟩
  | true =>
    cases h2 : isColB k x with
    | false =>
      have e : resPartyOfColour p k l x = (0, [], false) := by simp [resPartyOfColour, h1, h2]
      rw [e]
      have H1 := Lib.hid h1
      have H2 := Lib.hid h2
      clear e h1 h2
      go_enter Try.func35, Try.ntmps35
      go_wp2_with fail
      rw [HW.out]
      refine (isPainting_any p k l A c _ hl RA0).mono ?_
      rw [H1.out]
      rintro e w1 ⟨rfl, hb1⟩
      have k1 := k0.trans (hb1.mono k0.size)
      have RA1 := (RA0.below hb1 (Nat.le_refl _)).more hb1.size
      have a0_1 := carry hb1 a0_0 sP_0
      have a1_1 := carry hb1 a1_0 sP_0
      have a2_1 := carry hb1 a2_0 sP_0
      have x0_1 := carry hb1 x0_0 sR_0
      have z0_1 := (hb1.frozen (p := ⟨w.heap.size + 1, 0, none⟩) sR_0).trans z0_0
      have x1_1 := carry hb1 x1_0 sR_0
      have z1_1 := (hb1.frozen (p := ⟨w.heap.size + 1, 1, none⟩) sR_0).trans z1_0
      have sP_1 := Nat.lt_of_lt_of_le sP_0 hb1.size
      have sR_1 := Nat.lt_of_lt_of_le sR_0 hb1.size
      clear RA0 hb1 a0_0 a1_0 a2_0 x0_0 z0_0 x1_0 z1_0 sP_0 sR_0
      go_wp2_with fail
      refine (isColour_any p k l A c x _).mono ?_
      rw [H2.out]
      rintro e w2 ⟨rfl, hb2⟩
      have k2 := k1.trans (hb2.mono k1.size)
      have RA2 := (RA1.below hb2 (Nat.le_refl _)).more hb2.size
      have a0_2 := carry hb2 a0_1 sP_1
      have a1_2 := carry hb2 a1_1 sP_1
      have a2_2 := carry hb2 a2_1 sP_1
      have x0_2 := carry hb2 x0_1 sR_1
      have z0_2 := (hb2.frozen (p := ⟨w.heap.size + 1, 0, none⟩) sR_1).trans z0_1
      have x1_2 := carry hb2 x1_1 sR_1
      have z1_2 := (hb2.frozen (p := ⟨w.heap.size + 1, 1, none⟩) sR_1).trans z1_1
      have sP_2 := Nat.lt_of_lt_of_le sP_1 hb2.size
      have sR_2 := Nat.lt_of_lt_of_le sR_1 hb2.size
      clear RA1 hb2 a0_1 a1_1 a2_1 x0_1 z0_1 x1_1 z1_1 sP_1 sR_1
      go_wp2
      refine bodyPost_ret (v := .tuple #[.agg #[.int .i64 0, .slice none 0 0], .bool false]) (by simp [results, Try.results35, go_sem, x0_2, x1_2]) rfl ?_
      exact ⟨none, 0, rfl, World.ownsRow_nil _ _ _ _, ((k2.setCell (p := ⟨w.heap.size + 1, 0, none⟩) (by simp) _).setCell (p := ⟨w.heap.size + 1, 1, none⟩) (by simp) _)⟩
    | true =>
      have H1 := Lib.hid h1
      have H2 := Lib.hid h2
      obtain ⟨n, rfl⟩ : ∃ n : Nat, p = n := ⟨p.toNat, by have := (isX_parts h1).1; omega⟩
      have hn8 := (isX_parts h1).1
      have hn9 : n ≤ 8 := by omega
      have e : resPartyOfColour n k l x = ((n : Int), pairsX n l x, true) := by unfold resPartyOfColour; rw [h1, h2, Bool.and_self, if_pos rfl]; simp
      rw [e]
      have call := fun (X : World) (hR : CRead X X.heap.size A (icells l)) => partyOfColour_any n k l A c x X h1 hR
      obtain ⟨R, hR⟩ : ∃ R, pairsX n l x = R := ⟨_, rfl⟩
      simp only [hR] at call ⊢
      have Call := Lib.hid call
      clear e h1 h2 hR call
      go_enter Try.func35, Try.ntmps35
      go_wp2_with fail
      rw [HW.out]
      refine (isPainting_any n k l A c _ hl RA0).mono ?_
      rw [H1.out]
      rintro e w1 ⟨rfl, hb1⟩
      have k1 := k0.trans (hb1.mono k0.size)
      have RA1 := (RA0.below hb1 (Nat.le_refl _)).more hb1.size
      have a0_1 := carry hb1 a0_0 sP_0
      have a1_1 := carry hb1 a1_0 sP_0
      have a2_1 := carry hb1 a2_0 sP_0
      have x0_1 := carry hb1 x0_0 sR_0
      have z0_1 := (hb1.frozen (p := ⟨w.heap.size + 1, 0, none⟩) sR_0).trans z0_0
      have x1_1 := carry hb1 x1_0 sR_0
      have z1_1 := (hb1.frozen (p := ⟨w.heap.size + 1, 1, none⟩) sR_0).trans z1_0
      have sP_1 := Nat.lt_of_lt_of_le sP_0 hb1.size
      have sR_1 := Nat.lt_of_lt_of_le sR_0 hb1.size
      clear RA0 hb1 a0_0 a1_0 a2_0 x0_0 z0_0 x1_0 z1_0 sP_0 sR_0
      go_wp2_with fail
      refine (isColour_any n k l A c x _).mono ?_
      rw [H2.out]
      rintro e w2 ⟨rfl, hb2⟩
      have k2 := k1.trans (hb2.mono k1.size)
      have RA2 := (RA1.below hb2 (Nat.le_refl _)).more hb2.size
      have a0_2 := carry hb2 a0_1 sP_1
      have a1_2 := carry hb2 a1_1 sP_1
      have a2_2 := carry hb2 a2_1 sP_1
      have x0_2 := carry hb2 x0_1 sR_1
      have z0_2 := (hb2.frozen (p := ⟨w.heap.size + 1, 0, none⟩) sR_1).trans z0_1
      have x1_2 := carry hb2 x1_1 sR_1
      have z1_2 := (hb2.frozen (p := ⟨w.heap.size + 1, 1, none⟩) sR_1).trans z1_1
      have sP_2 := Nat.lt_of_lt_of_le sP_1 hb2.size
      have sR_2 := Nat.lt_of_lt_of_le sR_1 hb2.size
      clear RA1 hb2 a0_1 a1_1 a2_1 x0_1 z0_1 x1_1 z1_1 sP_1 sR_1
      go_wp2_with fail
      refine (Call.out _ RA2).mono ?_
      rintro e w3 ⟨A3, c3, rfl, own3, hb3⟩
      have k3 := k2.trans (hb3.mono k2.size)
      have y0 := carry hb3 x0_2 sR_2
      have y1 := carry hb3 x1_2 sR_2
      have f0 := (hb3.frozen (p := ⟨w.heap.size + 1, 0, none⟩) sR_2).trans z0_2
      have f1 := (hb3.frozen (p := ⟨w.heap.size + 1, 1, none⟩) sR_2).trans z1_2
      have Own3 := Lib.hid own3
      clear a0_2 a1_2 a2_2 x0_2 x1_2 z0_2 z1_2 hb3 RA2 own3
      go_wp2
      refine bodyPost_ret (v := .tuple #[.agg #[.int .i64 n, .slice A3 R.length c3], .bool true]) (by simp [results, Try.results35, go_sem, y0, y1]) rfl ?_
      exact ⟨A3, c3, rfl, own_lower (ownsRow_setCell_below (ownsRow_setCell_below Own3.out (a := ⟨w.heap.size + 1, 0, none⟩) sR_2 _) (a := ⟨w.heap.size + 1, 1, none⟩) sR_2 _) (by omega), (k3.setCell (p := ⟨w.heap.size + 1, 0, none⟩) (by simp) _).setCell (p := ⟨w.heap.size + 1, 1, none⟩) (by simp) _⟩
set_option maxHeartbeats 4000000 in
set_option maxRecDepth 100000 in
theorem specPartyOfColour_any (p k : Int) (l : List Int) (A : Option Addr) (c : Nat) (x : Int) (w : World) (hl : l.length ≤ 1048576) (hA : CRead w w.heap.size A (icells l)) :
    Calls Try.prog 34 #[.agg #[.int .i64 p, .int .i64 k, .slice A l.length c], .int .i64 x] w (GotPartyOk w (resPartyOfColour p k l x).1 (resPartyOfColour p k l x).2.1 (resPartyOfColour p k l x).2.2) := by
  obtain ⟨w0, hW⟩ : ∃ W, (w.alloc (Obj.cells #[.int .i64 p, .int .i64 k, .slice A l.length c] 27)).alloc (Obj.cells #[.int .i64 0, .slice none 0 0] 45) = W := ⟨_, rfl⟩
  have a0_0 : w0.cell? ⟨w.heap.size, 0, none⟩ = some (.int .i64 p) := by rw [← hW]; simp
  have a1_0 : w0.cell? ⟨w.heap.size, 1, none⟩ = some (.int .i64 k) := by rw [← hW]; simp
  have a2_0 : w0.cell? ⟨w.heap.size, 2, none⟩ = some (.slice A l.length c) := by rw [← hW]; simp
  have x0_0 : w0.cell? ⟨w.heap.size + 1, 0, none⟩ = some (.int .i64 0) := by rw [← hW]; simp
  have z0_0 : w0.frozen? ⟨w.heap.size + 1, 0, none⟩ = false := by rw [← hW]; simp
  have x1_0 : w0.cell? ⟨w.heap.size + 1, 1, none⟩ = some (.slice none 0 0) := by rw [← hW]; simp
  have z1_0 : w0.frozen? ⟨w.heap.size + 1, 1, none⟩ = false := by rw [← hW]; simp
  have k0 : Below w.heap.size w w0 := by rw [← hW]; go_grown
  have sP_0 : w.heap.size < w0.heap.size := by rw [← hW]; simp only [World.size_alloc]; omega
  have sR_0 : w.heap.size + 1 < w0.heap.size := by rw [← hW]; simp only [World.size_alloc]; omega
  have RA0 : CRead w0 w0.heap.size A (icells l) := (hA.below k0 (Nat.le_refl _)).more k0.size
  have HW := Lib.hid hW
  clear hW
  cases h1 : isX p k l with
  | false =>
    have e : resPartyOfColour p k l x = (0, [], false) := by simp [resPartyOfColour, h1]
    rw [e]
    have H1 := Lib.hid h1
    clear e h1
    go_enter Try.func34, Try.ntmps34
    go_wp2_with fail
    rw [HW.out]
    refine (ptGood_any p k l A c _ hl RA0).mono ?_
    rw [H1.out]
    rintro e w1 ⟨rfl, hb1⟩
    have k1 := k0.trans (hb1.mono k0.size)
    have RA1 := (RA0.below hb1 (Nat.le_refl _)).more hb1.size
    have a0_1 := carry hb1 a0_0 sP_0
    have a1_1 := carry hb1 a1_0 sP_0
    have a2_1 := carry hb1 a2_0 sP_0
    have x0_1 := carry hb1 x0_0 sR_0
    have z0_1 := (hb1.frozen (p := ⟨w.heap.size + 1, 0, none⟩) sR_0).trans z0_0
    have x1_1 := carry hb1 x1_0 sR_0
    have z1_1 := (hb1.frozen (p := ⟨w.heap.size + 1, 1, none⟩) sR_0).trans z1_0
    have sP_1 := Nat.lt_of_lt_of_le sP_0 hb1.size
    have sR_1 := Nat.lt_of_lt_of_le sR_0 hb1.size
    clear RA0 hb1 a0_0 a1_0 a2_0 x0_0 z0_0 x1_0 z1_0 sP_0 sR_0
    go_wp2
    refine bodyPost_ret (v := .tuple #[.agg #[.int .i64 0, .slice none 0 0], .bool false]) (by simp [results, Try.results34, go_sem, x0_1, x1_1]) rfl ?_
    exact ⟨none, 0, rfl, World.ownsRow_nil _ _ _ _, ((k1.setCell (p := ⟨w.heap.size + 1, 0, none⟩) (by simp) _).setCell (p := ⟨w.heap.size + 1, 1, none⟩) (by simp) _)⟩
  | true =>
    obtain ⟨hk0, hk1⟩ := (isX_parts h1).2.1
    cases h2 : isColB k x with
    | false =>
      have e : resPartyOfColour p k l x = (0, [], false) := by simp [resPartyOfColour, h1, h2]
      rw [e]
      have H1 := Lib.hid h1
      have H2 := Lib.hid h2
      clear e h1 h2
      go_enter Try.func34, Try.ntmps34
      go_wp2_with fail
      rw [HW.out]
      refine (ptGood_any p k l A c _ hl RA0).mono ?_
      rw [H1.out]
      rintro e w1 ⟨rfl, hb1⟩
      have k1 := k0.trans (hb1.mono k0.size)
      have RA1 := (RA0.below hb1 (Nat.le_refl _)).more hb1.size
      have a0_1 := carry hb1 a0_0 sP_0
      have a1_1 := carry hb1 a1_0 sP_0
      have a2_1 := carry hb1 a2_0 sP_0
      have x0_1 := carry hb1 x0_0 sR_0
      have z0_1 := (hb1.frozen (p := ⟨w.heap.size + 1, 0, none⟩) sR_0).trans z0_0
      have x1_1 := carry hb1 x1_0 sR_0
      have z1_1 := (hb1.frozen (p := ⟨w.heap.size + 1, 1, none⟩) sR_0).trans z1_0
      have sP_1 := Nat.lt_of_lt_of_le sP_0 hb1.size
      have sR_1 := Nat.lt_of_lt_of_le sR_0 hb1.size
      clear RA0 hb1 a0_0 a1_0 a2_0 x0_0 z0_0 x1_0 z1_0 sP_0 sR_0
      go_wp2_with fail
      refine (colIn_any k x _).mono ?_
      rw [H2.out]
      rintro e w2 ⟨rfl, hb2⟩
      have k2 := k1.trans (hb2.mono k1.size)
      have RA2 := (RA1.below hb2 (Nat.le_refl _)).more hb2.size
      have a0_2 := carry hb2 a0_1 sP_1
      have a1_2 := carry hb2 a1_1 sP_1
      have a2_2 := carry hb2 a2_1 sP_1
      have x0_2 := carry hb2 x0_1 sR_1
      have z0_2 := (hb2.frozen (p := ⟨w.heap.size + 1, 0, none⟩) sR_1).trans z0_1
      have x1_2 := carry hb2 x1_1 sR_1
      have z1_2 := (hb2.frozen (p := ⟨w.heap.size + 1, 1, none⟩) sR_1).trans z1_1
      have sP_2 := Nat.lt_of_lt_of_le sP_1 hb2.size
      have sR_2 := Nat.lt_of_lt_of_le sR_1 hb2.size
      clear RA1 hb2 a0_1 a1_1 a2_1 x0_1 z0_1 x1_1 z1_1 sP_1 sR_1
      go_wp2
      refine bodyPost_ret (v := .tuple #[.agg #[.int .i64 0, .slice none 0 0], .bool false]) (by simp [results, Try.results34, go_sem, x0_2, x1_2]) rfl ?_
      exact ⟨none, 0, rfl, World.ownsRow_nil _ _ _ _, ((k2.setCell (p := ⟨w.heap.size + 1, 0, none⟩) (by simp) _).setCell (p := ⟨w.heap.size + 1, 1, none⟩) (by simp) _)⟩
    | true =>
      have H1 := Lib.hid h1
      have H2 := Lib.hid h2
      obtain ⟨n, rfl⟩ : ∃ n : Nat, p = n := ⟨p.toNat, by have := (isX_parts h1).1; omega⟩
      have hn8 := (isX_parts h1).1
      have hn9 : n ≤ 8 := by omega
      have e : resPartyOfColour n k l x = ((n : Int), pairsX n l x, true) := by unfold resPartyOfColour; rw [h1, h2, Bool.and_self, if_pos rfl]; simp
      rw [e]
      obtain ⟨i0, hi, hz0, hz1, hz2⟩ := info_parts Try.infoPair
      have hcount := (count_of (p := (n : Int)) (by omega)).2.1
      rw [Int.toNat_natCast] at hcount
      have call : ∀ (X : World) (hR : CRead X X.heap.size A (icells l)) (i j : Nat), i < j → j < n → Calls Try.prog 68 #[.agg #[.int .i64 n, .int .i64 k, .slice A l.length c], .int .i64 i, .int .i64 j] X fun e w' => e = .returned (.int .i64 (colX n l i j)) ∧ Below X.heap.size X w' := fun X hR i j hij hj => ptOf_any n k l A c i j X h1 (by omega) hj (by omega) hR
      have hpre : ∀ a b, a < n → a < b → b ≤ n → ((upTo n a b).filter (ofColour n l x)).length ≤ 28 := fun a b h1 h2 h3 => by
        obtain ⟨rest, hr⟩ := upTo_prefix h1 h2 h3
        have h4 := List.length_filter_le (ofColour n l x) (upTo n a b)
        have h5 := congrArg List.length hr
        rw [List.length_append] at h5
        omega
      have hend : (upTo n n (n + 1)).filter (ofColour n l x) = pairsX n l x := by rw [upTo_all]; rfl
      obtain ⟨T, hT⟩ : ∃ T, pairsX n l x = T := ⟨_, rfl⟩
      rw [hT] at hend ⊢
      have hcx : ∀ i j : Nat, ofColour n l x ((i : Int), (j : Int)) = (colX n l i j == x) := fun i j => by simp [ofColour]
      have Hcx := Lib.hid hcx
      have Call := Lib.hid call
      have Hpre := Lib.hid hpre
      have Hend := Lib.hid hend
      clear e h1 h2 hT call hpre hend hcx
      go_enter Try.func34, Try.ntmps34
      go_wp2_with fail
      rw [HW.out]
      refine (ptGood_any n k l A c _ hl RA0).mono ?_
      rw [H1.out]
      rintro e w1 ⟨rfl, hb1⟩
      have k1 := k0.trans (hb1.mono k0.size)
      have RA1 := (RA0.below hb1 (Nat.le_refl _)).more hb1.size
      have a0_1 := carry hb1 a0_0 sP_0
      have a1_1 := carry hb1 a1_0 sP_0
      have a2_1 := carry hb1 a2_0 sP_0
      have x0_1 := carry hb1 x0_0 sR_0
      have z0_1 := (hb1.frozen (p := ⟨w.heap.size + 1, 0, none⟩) sR_0).trans z0_0
      have x1_1 := carry hb1 x1_0 sR_0
      have z1_1 := (hb1.frozen (p := ⟨w.heap.size + 1, 1, none⟩) sR_0).trans z1_0
      have sP_1 := Nat.lt_of_lt_of_le sP_0 hb1.size
      have sR_1 := Nat.lt_of_lt_of_le sR_0 hb1.size
      clear RA0 hb1 a0_0 a1_0 a2_0 x0_0 z0_0 x1_0 z1_0 sP_0 sR_0
      go_wp2_with fail
      refine (colIn_any k x _).mono ?_
      rw [H2.out]
      rintro e w2 ⟨rfl, hb2⟩
      have k2 := k1.trans (hb2.mono k1.size)
      have RA2 := (RA1.below hb2 (Nat.le_refl _)).more hb2.size
      have a0_2 := carry hb2 a0_1 sP_1
      have a1_2 := carry hb2 a1_1 sP_1
      have a2_2 := carry hb2 a2_1 sP_1
      have x0_2 := carry hb2 x0_1 sR_1
      have z0_2 := (hb2.frozen (p := ⟨w.heap.size + 1, 0, none⟩) sR_1).trans z0_1
      have x1_2 := carry hb2 x1_1 sR_1
      have z1_2 := (hb2.frozen (p := ⟨w.heap.size + 1, 1, none⟩) sR_1).trans z1_1
      have sP_2 := Nat.lt_of_lt_of_le sP_1 hb2.size
      have sR_2 := Nat.lt_of_lt_of_le sR_1 hb2.size
      clear RA1 hb2 a0_1 a1_1 a2_1 x0_1 z0_1 x1_1 z1_1 sP_1 sR_1
      have X0 := Lib.hid x0_2
      have X1 := Lib.hid x1_2
      have Z0 := Lib.hid z0_2
      have Z1 := Lib.hid z1_2
      have A0 := Lib.hid a0_2
      have A1 := Lib.hid a1_2
      have A2 := Lib.hid a2_2
      go_upto_region 4 with fail
      obtain ⟨W, hW⟩ : ∃ W, w2.alloc (Obj.cells #[.int .i64 n, .slice none 0 0] 45) = W := ⟨_, rfl⟩
      obtain ⟨G, hG⟩ : ∃ G, w2.heap.size = G := ⟨_, rfl⟩
      have rel0 : BoxRel G w2 W n G (.slice none 0 0) ((upTo n 0 (0 + 1)).filter (ofColour n l x)) := by
        rw [← hW, ← hG]
        exact ⟨(Below.refl _ _).alloc (Nat.le_refl _) _, Nat.le_refl _, heap_alloc_new w2 _, World.ownsRow_nil _ _ _ _⟩
      rw [hW, hG]
      have sP : w.heap.size < G := by omega
      have sR : w.heap.size + 1 < G := by omega
      have hGle : G ≤ w2.heap.size := by omega
      have hGge : w2.heap.size ≤ G := by omega
      clear hW hG x0_2 x1_2 z0_2 z1_2 a0_2 a1_2 a2_2 sP_2 sR_2
      go_wp2_with fail
      go_loopw [7] (fun i wa => ∃ (a : Nat) (v : Value), a ≤ n ∧ i = .int .i64 a ∧ BoxRel G w2 wa n G v ((upTo n a (a + 1)).filter (ofColour n l x))) (fun i _ => n - (intOf i).toNat)
      case atStart => exact ⟨0, _, Nat.zero_le _, rfl, rel0⟩
      case round =>
        clear rel0
        obtain ⟨a, v, ha, rfl, rel⟩ := hrel
        have u0 := carry rel.below A0.out sP
        have hlt2 := rel.lt
        have Rel := Lib.hid rel
        clear rel
        by_cases hlt : a < n
        · have hai : (a : Int) < n := by omega
          go_wp2_with fail
          clear u0
          go_loopw [8] (fun i wb => ∃ (b : Nat) (v : Value), a < b ∧ b ≤ n ∧ i = .int .i64 b ∧ BoxRel G w2 wb n G v ((upTo n a b).filter (ofColour n l x))) (fun i _ => n - (intOf i).toNat)
          case atStart => exact ⟨a + 1, v, by omega, by omega, by go_num, Rel.out⟩
          case round =>
            clear Rel hlt2
            obtain ⟨b, v, hab, hbn, rfl, rel⟩ := hrel
            have u0 := carry rel.below A0.out sP
            have u1 := carry rel.below A1.out sP
            have u2 := carry rel.below A2.out sP
            have hlt2 := rel.lt
            by_cases hbt : b < n
            · have hbi : (b : Int) < n := by omega
              have hlen := Hpre.out a b hlt hab hbn
              obtain ⟨L, hL⟩ : ∃ L, (upTo n a b).filter (ofColour n l x) = L := ⟨_, rfl⟩
              rw [hL] at rel hlen
              obtain ⟨y, hy⟩ : ∃ y, colX n l a b = y := ⟨_, rfl⟩
              have hnext : (upTo n a (b + 1)).filter (ofColour n l x) = L ++ (if (y == x) = true then [((a : Int), (b : Int))] else []) := by
                rw [upTo_next hab, List.filter_append, hL, ← hy, ← Hcx.out]
                congr 1
                simp only [List.filter_cons, List.filter_nil]
              have kX : Below w.heap.size w wr := k2.trans (rel.below.mono (by omega))
              have cl := Call.out wr ((hA.below kX (Nat.le_refl _)).more kX.size) a b hab hbt
              rw [hy] at cl
              have Cl := Lib.hid cl
              have Hnext := Lib.hid hnext
              clear hL hy hnext cl
              cases hyx : (y == x) with
              | false =>
                have hfin := Hnext.out
                rw [hyx, if_neg Bool.false_ne_true, List.append_nil] at hfin
                have Hfin := Lib.hid hfin
                have Rel := Lib.hid rel
                clear rel hfin
                go_wp2_with fail
                refine Cl.out.mono ?_
                rintro e w5 ⟨rfl, hb5⟩
                have Rel5 := Lib.hid (Rel.out.kept hb5 (by omega))
                clear u0 u1 u2 hb5
                go_wp2
                go_roundw
                case rel => exact ⟨b + 1, v, by omega, by omega, by go_num, by rw [Hfin.out]; exact Rel5.out⟩
                case measure => simp [intOf]; omega
              | true =>
                have hfin := Hnext.out
                rw [hyx, if_pos rfl] at hfin
                have Hfin := Lib.hid hfin
                have Rel := Lib.hid rel
                clear rel hfin
                go_wp2_with fail
                refine Cl.out.mono ?_
                rintro e w5 ⟨rfl, hb5⟩
                have rel5 := Rel.out.kept hb5 (by omega)
                obtain ⟨b0, b1, b2⟩ := rel5.cells
                have b21 := b2 1
                have hG5 := rel5.lt
                have ow := rel5.own
                have hW1 : ∀ o : Obj, Below w5.heap.size w5 (w5.alloc o) := fun o => (Below.refl _ w5).alloc (Nat.le_refl _) o
                have Rel5 := Lib.hid rel5
                clear u0 u1 u2 hb5 rel5 b2
                go_wp2_with (at_builtin; refine wpList_append_own _ rfl _ _ 43 rfl G 85 i0 _ 2 16 Try.underlying43 hi hz0 hz1 hz2 rfl (by decide) _ _ _ rfl (ow.alloc _) ⟨w5.heap.size, 0, none⟩ 1 1 [.int .i64 a, .int .i64 b] rfl rfl (two_cells (by simp) (by simp)) (two_one rfl rfl) (by unfold maxLen; omega) (by omega) (by simp; omega) ?_; intro v1 w6 hown2 hg2 _; obtain ⟨A2, d2, rfl, _⟩ := own_shape hown2; have hr1 := Rel5.out.push (hW1 _) hg2 hown2; obtain ⟨_, g0, g1, g2, g3, g4⟩ := Rel5.out.grown (hW1 _) hg2; have g21 := g2 1; clear g2)
                go_roundw
                case rel => exact ⟨b + 1, _, by omega, by omega, by go_num, by rw [Hfin.out]; exact hr1⟩
                case measure => simp [intOf]; omega
            · have hbn2 : b = n := by omega
              have hge : ¬ ((b : Int) < n) := by omega
              rw [hbn2, upTo_row] at rel
              have Rel := Lib.hid rel
              subst hbn2
              clear rel u1 u2
              go_wp2
              go_roundw
              case rel => exact ⟨a + 1, v, by omega, by go_num, Rel.out⟩
              case measure => simp [intOf]; omega
        · have han : a = n := by omega
          have hge : ¬ ((a : Int) < n) := by omega
          subst han
          have rel := Rel.out
          rw [Hend.out] at rel
          obtain ⟨A', c', rfl, _⟩ := own_shape rel.own
          obtain ⟨b0, b1, b2⟩ := rel.cells
          have r0 := carry rel.below X0.out sR
          have r1 := carry rel.below X1.out sR
          have f0 := (rel.below.frozen (p := ⟨w.heap.size + 1, 0, none⟩) sR).trans Z0.out
          have f1 := (rel.below.frozen (p := ⟨w.heap.size + 1, 1, none⟩) sR).trans Z1.out
          have hne : ¬ G = w.heap.size + 1 := by omega
          have kX : Below w.heap.size w wr := k2.trans (rel.below.mono (by omega))
          have RelT := Lib.hid rel
          clear rel b2 Rel
          go_wp2
          refine bodyPost_ret (v := .tuple #[.agg #[.int .i64 a, .slice A' T.length c'], .bool true]) (by simp [results, Try.results34, go_sem, r0, r1]) rfl ?_
          exact ⟨A', c', rfl, own_lower (ownsRow_setCell_below (ownsRow_setCell_below RelT.out.own (a := ⟨w.heap.size + 1, 0, none⟩) sR _) (a := ⟨w.heap.size + 1, 1, none⟩) sR _) (by omega), (kX.setCell (p := ⟨w.heap.size + 1, 0, none⟩) (by simp) _).setCell (p := ⟨w.heap.size + 1, 1, none⟩) (by simp) _⟩
end Go.Proofs.Ytepoabbkalhifaa
