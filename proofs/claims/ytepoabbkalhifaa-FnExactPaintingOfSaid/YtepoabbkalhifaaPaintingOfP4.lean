/-
  Texts put together for the claim of 'PaintingOf' (pack 4): ShadesOf, PBox, KBox, PaintOf, Join, Join2, PaintI.
-/
import Derived.Test.YtepoabbkalhifaaPaintingOfP2
import Derived.Test.YtepoabbkalhifaaPaintingOfP3
import Derived.Deep.RegionLaw
import Derived.Deep.AppendLies
/-
  SHADES made of a painting, a painting made of shades: pure parts, 'shadesOf' by its contract.
-/
namespace Go.Proofs.Ytepoabbkalhifaa
open Go.RowKit

def pairAt (n q : Nat) : Nat × Nat := (((allP n).getD q (0, 0)).1.toNat, ((allP n).getD q (0, 0)).2.toNat)
theorem pairAt_of {n q : Nat} (hn : n ≤ 8) (hq : q < (allP n).length) : ∃ a b : Nat, a < b ∧ b < n ∧ q = atP n a b ∧ (allP n)[q]? = some ((a : Int), (b : Int)) ∧ pairAt n q = (a, b) := by
  obtain ⟨a, b, hab, hb, e⟩ := atP_of hn hq
  have h := atP_get hn hab hb
  rw [← e] at h
  refine ⟨a, b, hab, hb, e, h, ?_⟩
  unfold pairAt
  rw [List.getD_eq_getElem?_getD, h]
  simp
/-- the table behind so many pairs painted -/
def shK (n : Nat) (l : List Int) : Nat → Nat → Nat → Int
  | 0 => fun _ _ => 0
  | q + 1 => paintF (shK n l q) (pairAt n q).1 (pairAt n q).2 (l.getD q 0)
theorem shK_next {n q a b : Nat} {l : List Int} {x : Int} (hp : pairAt n q = (a, b)) (hx : l[q]? = some x) : shK n l (q + 1) = paintF (shK n l q) a b x := by
  show paintF (shK n l q) (pairAt n q).1 (pairAt n q).2 (l.getD q 0) = _
  rw [hp, List.getD_eq_getElem?_getD, hx]
  rfl
theorem atP_inj {n a b a' b' : Nat} (hn : n ≤ 8) (hab : a < b) (hb : b < n) (hab' : a' < b') (hb' : b' < n) (h : atP n a b = atP n a' b') : a = a' ∧ b = b' := by
  have h1 := atP_get hn hab hb
  have h2 := atP_get hn hab' hb'
  rw [h, h2] at h1
  simp only [Option.some.injEq, Prod.mk.injEq] at h1
  omega
theorem shK_at {n : Nat} {l : List Int} (hn : n ≤ 8) : ∀ q, q ≤ (allP n).length → ∀ i j, shK n l q i j = if i ≠ j ∧ i < n ∧ j < n ∧ atP n (min i j) (max i j) < q then l.getD (atP n (min i j) (max i j)) 0 else 0
  | 0, _, i, j => by rw [if_neg (by omega)]; rfl
  | q + 1, hq, i, j => by
    obtain ⟨a, b, hab, hb, e, h, hp⟩ := pairAt_of hn (show q < (allP n).length by omega)
    show paintF (shK n l q) (pairAt n q).1 (pairAt n q).2 (l.getD q 0) i j = _
    rw [hp]
    unfold paintF
    simp only
    by_cases hit : (i = a ∧ j = b) ∨ (i = b ∧ j = a)
    · rw [if_pos hit]
      have e1 : min i j = a := by omega
      have e2 : max i j = b := by omega
      rw [e1, e2, ← e, if_pos (by omega)]
    · rw [if_neg hit, shK_at hn q (by omega) i j]
      by_cases hc : i ≠ j ∧ i < n ∧ j < n
      · have hne : atP n (min i j) (max i j) ≠ q := by
          intro h2
          rw [e] at h2
          have := atP_inj hn (by omega) (by omega) hab hb h2
          omega
        by_cases h3 : atP n (min i j) (max i j) < q
        · rw [if_pos ⟨hc.1, hc.2.1, hc.2.2, h3⟩, if_pos ⟨hc.1, hc.2.1, hc.2.2, by omega⟩]
        · rw [if_neg (by omega), if_neg (by omega)]
      · rw [if_neg (by omega), if_neg (by omega)]
/-- the table of a painting -/
def shX (n : Nat) (l : List Int) : Nat → Nat → Int := shK n l (allP n).length
theorem shX_col {n : Nat} {l : List Int} (hn : n ≤ 8) {i j : Nat} (hi : i < n) (hj : j < n) (hij : i ≠ j) : shX n l i j = colX n l i j := by
  unfold shX colX
  rw [shK_at hn _ (Nat.le_refl _), if_pos ⟨hij, hi, hj, atP_lt hn (by omega) (by omega)⟩]
theorem shX_out {n : Nat} {l : List Int} (hn : n ≤ 8) {i j : Nat} (h : ¬ (i ≠ j ∧ i < n ∧ j < n)) : shX n l i j = 0 := by
  unfold shX
  rw [shK_at hn _ (Nat.le_refl _), if_neg (by omega)]

set_option maxHeartbeats 4000000 in
set_option maxRecDepth 100000 in
theorem shadesOf_any (n : Nat) (k : Int) (l : List Int) (A : Option Addr) (c : Nat) (w : World) (hx : isX n k l = true) (hA : CRead w w.heap.size A (icells l)) :
    Calls Try.prog 70 #[.agg #[.int .i64 n, .int .i64 k, .slice A l.length c]] w fun e w' => e = .returned (.agg (shC (shX n l))) ∧ Below w.heap.size w w' := by
  have hn := (isX_parts hx).1
  have hn8 : n ≤ 8 := by omega
  have hlen := isX_len hx
  have hsm := isX_small hx
  rw [Int.toNat_natCast] at hlen
  obtain ⟨F, hF⟩ : ∃ F, shC (shX n l) = F := ⟨_, rfl⟩
  have hFs : F.size = 64 := by rw [← hF]; exact shC_size _
  have hF1 : F.all (·.oneCell') = true := by rw [← hF]; exact shC_one _
  rw [hF]
  have HF := Lib.hid hF
  have HFs := Lib.hid hFs
  have HF1 := Lib.hid hF1
  have Hlen := Lib.hid hlen
  have Hx := Lib.hid hx
  clear hF hFs hF1 hx hlen
  obtain ⟨W, hW⟩ : ∃ W, ((w.alloc (Obj.cells #[.int .i64 n, .int .i64 k, .slice A l.length c] 27)).alloc (Obj.cells (shC fun _ _ => 0) 78)).alloc (Obj.cells (shC fun _ _ => 0) 78) = W := ⟨_, rfl⟩
  have kW : Below w.heap.size w W := by rw [← hW]; go_grown
  have a0 : W.cell? ⟨w.heap.size, 0, none⟩ = some (.int .i64 n) := by rw [← hW]; exact (World.cell?_alloc_lt _ _ _ (by simp; omega)).trans ((World.cell?_alloc_lt _ _ _ (by simp)).trans (by simp))
  have a2 : W.cell? ⟨w.heap.size, 2, none⟩ = some (.slice A l.length c) := by rw [← hW]; exact (World.cell?_alloc_lt _ _ _ (by simp; omega)).trans ((World.cell?_alloc_lt _ _ _ (by simp)).trans (by simp))
  have rowR : W.rowIs (w.heap.size + 1) 78 64 (fun _ => .int .i64 0) := by
    rw [← hW]
    have := (rowIs_sh (w.alloc (Obj.cells #[.int .i64 n, .int .i64 k, .slice A l.length c] 27)) (fun _ _ => 0) 78).alloc (Obj.cells (shC fun _ _ => 0) 78)
    simp only [World.size_alloc] at this
    exact this
  have rowS : W.rowIs (w.heap.size + 2) 78 64 (fun _ => .int .i64 0) := by
    rw [← hW]
    have := rowIs_sh ((w.alloc (Obj.cells #[.int .i64 n, .int .i64 k, .slice A l.length c] 27)).alloc (Obj.cells (shC fun _ _ => 0) 78)) (fun _ _ => 0) 78
    simp only [World.size_alloc] at this
    exact this
  have sW : W.heap.size = w.heap.size + 3 := by rw [← hW]; simp
  have s1 : w.heap.size + 2 < W.heap.size := by omega
  have bR := sh_block (f := fun _ _ => 0) rowR
  have bS := sh_block (f := fun _ _ => 0) rowS
  rw [shC_zero] at hW
  have HW := Lib.hid hW
  clear hW rowR rowS sW
  go_enter Try.func70, Try.ntmps70
  go_upto_region 2 with fail
  rw [HW.out]
  go_wp2_with fail
  refine (everyPair_any n (by omega) _).mono ?_
  rintro e w1 ⟨P1, c1, rfl, own1, hb1⟩
  have s2 := hb1.size
  have b0 := carry hb1 a0 (by omega)
  have b2 := carry hb1 a2 (by omega)
  have k1 := kW.trans (hb1.mono kW.size)
  have br1 := (hb1.block (w.heap.size + 2) s1).trans bS
  have bq1 := (hb1.block (w.heap.size + 1) (by omega)).trans bR
  have Own1 := Lib.hid own1
  clear a0 a2 bR bS own1 hb1
  obtain ⟨N, hN⟩ : ∃ N, (allP n).length = N := ⟨_, rfl⟩
  have HN := Lib.hid hN
  rw [hN]
  clear hN
  go_wp2_with fail
  go_loopw [10] (fun i wr => ∃ q : Nat, q ≤ N ∧ i = .int .i64 q ∧ wr.heap[w.heap.size + 2]? = some (.cells (shC (shK n l q)) 78 (0, 0)) ∧ Below (w.heap.size + 2) w1 wr ∧ w1.heap.size ≤ wr.heap.size ∧ (∀ j, j ≠ w.heap.size + 2 → j < w1.heap.size → wr.heap[j]? = w1.heap[j]?)) (fun i _ => N - (intOf i).toNat)
  case atStart => exact ⟨0, Nat.zero_le _, rfl, br1, Below.refl _ _, Nat.le_refl _, fun _ _ _ => rfl⟩
  case round =>
    obtain ⟨q, hq, rfl, bq, hb, sb, hk⟩ := hrel
    have sq : Below w.heap.size w wr := k1.trans (hb.mono (by omega))
    have e2 := (cell_of_blk (o := 2) (hk w.heap.size (by omega) (by omega))).trans b2
    have Hb := Lib.hid hb
    have Hk := Lib.hid hk
    clear hb hk
    by_cases hlt : q < N
    · obtain ⟨a, b, hab, hbn, hat, hpq, hpair⟩ := pairAt_of hn8 (show q < (allP n).length by rw [HN.out]; exact hlt)
      obtain ⟨b1, off, rfl, hbb, c0, c1⟩ := (CRead.of_own Own1.out).pair hpq
      have hgb := (Own1.out.lt b1 rfl).1
      have d0 := (cell_of_blk (o := off + q * 2) (Hk.out b1 (by omega) hbb)).trans c0
      have d1 := (cell_of_blk (o := off + q * 2 + 1) (Hk.out b1 (by omega) hbb)).trans c1
      obtain ⟨x, hx⟩ := getSome l q (by rw [Hlen.out, HN.out]; exact hlt)
      obtain ⟨bb, off2, rfl, hbb2, c2⟩ := (hA.below sq (Nat.le_refl _)).int hx
      have hqi : (q : Int) < (N : Int) := by omega
      have hql : (q : Int) < (l.length : Int) := by rw [Hlen.out, HN.out]; exact hqi
      have hnext := shK_next hpair hx
      obtain ⟨S, hS⟩ : ∃ S, shC (shK n l q) = S := ⟨_, rfl⟩
      have hSs : S.size = 64 := by rw [← hS]; exact shC_size _
      have call := fun X : World => with_any (shK n l q) a b x (by omega) (by omega) X
      rw [hS] at bq call
      rw [← hnext] at call
      obtain ⟨T, hT⟩ : ∃ T, shC (shK n l (q + 1)) = T := ⟨_, rfl⟩
      have hTs : T.size = 64 := by rw [← hT]; exact shC_size _
      have hT1 : T.all (·.oneCell') = true := by rw [← hT]; exact shC_one _
      rw [hT] at call
      have hi : (Try.prog.info? 78).map (·.size) = some S.size := by rw [hSs]; exact sh_info
      have hi' : (Try.prog.info? 78).map (·.size) = some T.size := by rw [hTs]; exact sh_info
      have Call := Lib.hid call
      have HT := Lib.hid hT
      have HSs := Lib.hid hSs
      have HTs := Lib.hid hTs
      have HT1 := Lib.hid hT1
      have Bq := Lib.hid bq
      clear c0 c1 hx hpq hpair hat hnext hS call hT hSs hTs hT1 bq
      go_upto_region 5 with fail
      obtain ⟨X, hX⟩ : ∃ X, wr.alloc (Obj.cells #[.int .i64 a, .int .i64 b] 85) = X := ⟨_, rfl⟩
      have kX : Below wr.heap.size wr X := by rw [← hX]; exact (Below.refl _ _).alloc (Nat.le_refl _) _
      have m0 : X.cell? ⟨wr.heap.size, 0, none⟩ = some (.int .i64 a) := by rw [← hX]; simp
      have m1 : X.cell? ⟨wr.heap.size, 1, none⟩ = some (.int .i64 b) := by rw [← hX]; simp
      have hwr : w.heap.size + 2 < wr.heap.size := by omega
      have e2X := carry kX e2 (by omega)
      have c2X := carry kX c2 (by have := sq.size; omega)
      have bqX : X.heap[w.heap.size + 2]? = some (.cells S 78 (0, 0)) := (kX.block _ hwr).trans Bq.out
      rw [hX]
      have BqX := Lib.hid bqX
      have KX := Lib.hid kX
      clear hX d0 d1 e2 c2 bqX kX
      refine wp_region_still_tail 7 (by kernel_rfl) (by kernel_rfl) ?_
      simp only [List.take_succ_cons, List.take_zero, List.drop_succ_cons, List.drop_zero]
      refine wpStill_load_row rfl 78 _ rfl (w.heap.size + 2) rfl 78 S (0, 0) _ BqX.out sh_under rfl hi ?_
      repeat still_step
      refine wpStill_nil ?_
      change wpList _ _ _ _ _ (World.drew _)
      clear m0 m1 e2X c2X
      go_wp2_with fail
      refine (Call.out _).mono ?_
      rintro e w2 ⟨rfl, hb2⟩
      have g2 : Below X.heap.size X w2 := (Below.refl _ _).drew.trans hb2
      have g3 : Below wr.heap.size wr w2 := KX.out.trans (g2.mono KX.out.size)
      have bq2 : w2.heap[w.heap.size + 2]? = some (.cells S 78 (0, 0)) := (g2.block _ (by have := KX.out.size; omega)).trans BqX.out
      have Bq2 := Lib.hid bq2
      clear bq2 hb2
      go_wp2_with (first | (refine wpList_store_row rfl 78 _ _ rfl (w.heap.size + 2) T rfl rfl 78 S Bq2.out hi' (by rw [HSs.out, HTs.out]) HT1.out ?_))
      go_roundw
      case rel =>
        refine ⟨q + 1, by omega, by go_num, ?_, below_setRow (Hb.out.trans (g3.mono (by omega))) (Nat.le_refl _) T, ?_, fun j hj hjl => ?_⟩
        · rw [HT.out]
          exact setRow_heap w2 _ S T _ (0, 0) Bq2.out
        · rw [size_setRow]
          have := g3.size
          omega
        · rw [setRow_other _ _ _ _ hj]
          exact (g3.block j (by omega)).trans (Hk.out j hj hjl)
      case measure => simp [intOf]; omega
    · have hqN : q = N := by omega
      subst hqN
      have hge : ¬ ((q : Int) < (q : Int)) := by omega
      have hfin : shC (shK n l q) = F := by rw [← HF.out, ← HN.out]; rfl
      rw [hfin] at bq
      have bg := (Hk.out (w.heap.size + 1) (by omega) (by omega)).trans bq1
      obtain ⟨G, hG⟩ : ∃ G, shC (fun _ _ => 0) = G := ⟨_, rfl⟩
      have hGs : G.size = 64 := by rw [← hG]; exact shC_size _
      rw [hG] at bg
      have hi : (Try.prog.info? 78).map (·.size) = some F.size := by rw [HFs.out]; exact sh_info
      have Bq := Lib.hid bq
      have Bg := Lib.hid bg
      have Sq := Lib.hid sq
      clear bq bg hG hfin sq e2
      go_wp2_with (first | (refine wpList_load_row rfl 78 _ rfl (w.heap.size + 2) rfl 78 F (0, 0) _ Bq.out sh_under rfl hi ?_) | (refine wpList_store_row rfl 78 _ _ rfl (w.heap.size + 1) F rfl rfl 78 G Bg.out hi (by rw [hGs, HFs.out]) HF1.out ?_))
      refine bodyPost_ret (v := .agg F) (results_cell_row rfl _ _ (w.heap.size + 1) 78 F (0, 0) _ rfl (setRow_heap wr (w.heap.size + 1) G F 78 (0, 0) Bg.out) sh_under rfl hi) rfl ?_
      exact ⟨rfl, below_setRow Sq.out (by omega) F⟩
end Go.Proofs.Ytepoabbkalhifaa
/-
  A PAINTING IN A BOX OF THE CALL's OWN, whose colours are appended one by one.
-/
namespace Go.Proofs.Ytepoabbkalhifaa
open Go.RowKit

/-- The worlds above w0: a box at g holds a painting of n people and k colours, whose colours so far, L, lie in a row of the call's own. -/
structure PBox (B : Nat) (w0 wr : World) (n k : Int) (g : Nat) (v : Value) (L : List Int) : Prop where
  below : Below B w0 wr
  gB : B ≤ g
  box : wr.heap[g]? = some (.cells #[.int .i64 n, .int .i64 k, v] 27 (0, 0))
  own : wr.ownsRow B 3 1 v L.length (icells L)
section
variable {B g : Nat} {w0 wr W1 w1 : World} {n k : Int} {v v' : Value} {L : List Int}
theorem PBox.lt (h : PBox B w0 wr n k g v L) : g < wr.heap.size := lt_of_heap h.box
theorem ne_of_pbox (h : wr.heap[g]? = some (.cells #[.int .i64 n, .int .i64 k, v] 27 (0, 0))) {m : Nat} {xs : List Value} (ho : wr.ownsRow B 3 1 v' m xs) : v'.ownBlock ≠ some g := by
  rcases ho.2 with ⟨rfl, _⟩ | ⟨g', cap, cur, rfl, _, hh, _⟩
  · simp [Value.ownBlock]
  · intro e
    have hgb : g' = g := by simpa [Value.ownBlock] using e
    subst hgb
    rw [hh] at h
    injection h with h
    injection h with _ ht
    exact absurd ht (by decide)
theorem PBox.ne (h : PBox B w0 wr n k g v L) : v.ownBlock ≠ some g := ne_of_pbox h.box h.own
theorem PBox.cells (h : PBox B w0 wr n k g v L) : wr.cell? ⟨g, 0, none⟩ = some (.int .i64 n) ∧ wr.cell? ⟨g, 1, none⟩ = some (.int .i64 k) ∧ wr.cell? ⟨g, 2, none⟩ = some v ∧ ∀ j, wr.frozen? ⟨g, j, none⟩ = false :=
  ⟨by rw [cell_of_row _ _ _ _ _ _ h.box]; rfl, by rw [cell_of_row _ _ _ _ _ _ h.box]; rfl, by rw [cell_of_row _ _ _ _ _ _ h.box]; rfl, fun j => frozen_of_row _ _ j _ _ h.box⟩
theorem PBox.kept (h : PBox B w0 wr n k g v L) (hW : Below wr.heap.size wr W1) (hB : B ≤ wr.heap.size) : PBox B w0 W1 n k g v L :=
  ⟨h.below.trans (hW.mono hB), h.gB, (hW.block _ h.lt).trans h.box, own_below h.own hW (Nat.le_refl _)⟩
theorem PBox.le (h : PBox B w0 wr n k g v L) : B ≤ wr.heap.size := Nat.le_trans h.gB (Nat.le_of_lt h.lt)
/-- what stands behind an append -/
theorem PBox.grown (h : PBox B w0 wr n k g v L) (hW : Below wr.heap.size wr W1) (hg : W1.grownBy w1 v.ownBlock) :
    w1.heap[g]? = some (.cells #[.int .i64 n, .int .i64 k, v] 27 (0, 0)) ∧ w1.cell? ⟨g, 0, none⟩ = some (.int .i64 n) ∧ w1.cell? ⟨g, 1, none⟩ = some (.int .i64 k) ∧ w1.cell? ⟨g, 2, none⟩ = some v ∧ (∀ j, w1.frozen? ⟨g, j, none⟩ = false) ∧ Below B w0 w1 ∧ wr.heap.size ≤ w1.heap.size := by
  have hlt := h.lt
  have e : w1.heap[g]? = some (.cells #[.int .i64 n, .int .i64 k, v] 27 (0, 0)) := by
    rw [hg.block g (Nat.lt_of_lt_of_le hlt hW.size) (fun e => h.ne e.symm), hW.block g hlt]
    exact h.box
  refine ⟨e, by rw [cell_of_row _ _ _ _ _ _ e]; rfl, by rw [cell_of_row _ _ _ _ _ _ e]; rfl, by rw [cell_of_row _ _ _ _ _ _ e]; rfl, fun j => frozen_of_row _ _ j _ _ e, ?_, Nat.le_trans hW.size hg.size⟩
  exact (h.below.trans (hW.mono h.le)).grown hg (Nat.le_trans h.le hW.size) (fun k hk => (h.own.lt k hk).1)
/-- one colour more -/
theorem PBox.push {x : Int} (h : PBox B w0 wr n k g v L) (hW : Below wr.heap.size wr W1) (hg : W1.grownBy w1 v.ownBlock) (hown : w1.ownsRow B 3 1 v' (L.length + 1) (icells L ++ [.int .i64 x])) :
    PBox B w0 (w1.setCell ⟨g, 2, none⟩ v') n k g v' (L ++ [x]) := by
  obtain ⟨e, _, _, _, _, hb, _⟩ := h.grown hW hg
  have hne := ne_of_pbox e hown
  refine ⟨hb.setCell (p := ⟨g, 2, none⟩) h.gB _, h.gB, heap_setCell_same w1 g 2 _ _ v' e, ?_⟩
  have el : (L ++ [x]).length = L.length + 1 := by simp
  have ec : icells (L ++ [x]) = icells L ++ [.int .i64 x] := by simp [icells]
  rw [el, ec]
  exact hown.kept (row := some g) ⟨rfl, rfl, rfl, by simp, fun k _ hk => heap_setCell_other _ _ _ _ (fun e => hk (by rw [e]))⟩ (.inr hne)
/-- a colour is set -/
theorem PBox.set {g' m cap : Nat} (h : PBox B w0 wr n k g (.slice (some ⟨g', 0, none⟩) m cap) L) (hm : m = L.length) (j : Nat) (x : Int) :
    PBox B w0 (wr.setCell ⟨g', j, none⟩ (.int .i64 x)) n k g (.slice (some ⟨g', 0, none⟩) m cap) (L.set j x) := by
  subst hm
  have hne : g' ≠ g := fun e => h.ne (by rw [e]; rfl)
  have hlt := (h.own.lt g' rfl).1
  refine ⟨h.below.setCell (p := ⟨g', j, none⟩) hlt _, h.gB, (heap_setCell_other _ _ _ _ (fun e => hne e.symm)).trans h.box, ?_⟩
  rw [List.length_set]
  exact own_setInt h.own j x
end
end Go.Proofs.Ytepoabbkalhifaa
/-
  A STRUCT IN A BOX OF THE CALL's OWN that was laid ahead of what is read: its slice is appended to, all else that was there is kept.
-/
namespace Go.Proofs.Ytepoabbkalhifaa
open Go.RowKit

/-- behind w1, in which the box at g lies: the box holds a slice of the call's own, made later than w1; all other blocks of w1 are as they were -/
structure KBox (ty e : TypeId) (s : Nat) (mk : Value → Array Value) (w1 wr : World) (g : Nat) (v : Value) (m : Nat) (xs : List Value) : Prop where
  keep : ∀ j, j ≠ g → j < w1.heap.size → wr.heap[j]? = w1.heap[j]?
  below : Below g w1 wr
  size : w1.heap.size ≤ wr.heap.size
  lt : g < w1.heap.size
  box : wr.heap[g]? = some (.cells (mk v) ty (0, 0))
  own : wr.ownsRow w1.heap.size e s v m xs
section
variable {ty e : TypeId} {s : Nat} {mk : Value → Array Value} {w1 wr W1 w2 : World} {g : Nat} {v v' : Value} {m m' : Nat} {xs xs' : List Value}
theorem KBox.cell (h : KBox ty e s mk w1 wr g v m xs) {i : Nat} {u : Value} (hi : (mk v)[i]? = some u) : wr.cell? ⟨g, i, none⟩ = some u := by
  rw [cell_of_row _ _ _ _ _ _ h.box]; exact hi
theorem KBox.frozen (h : KBox ty e s mk w1 wr g v m xs) (i : Nat) : wr.frozen? ⟨g, i, none⟩ = false := frozen_of_row _ _ i _ _ h.box
theorem KBox.other (h : KBox ty e s mk w1 wr g v m xs) {b o : Nat} {u : Value} (hb : b ≠ g) (hlt : b < w1.heap.size) (hc : w1.cell? ⟨b, o, none⟩ = some u) : wr.cell? ⟨b, o, none⟩ = some u := by
  rw [← hc]
  simp [World.cell?, h.keep b hb hlt]
/-- what stands behind an append -/
theorem KBox.grown (h : KBox ty e s mk w1 wr g v m xs) (hW : Below wr.heap.size wr W1) (hg : W1.grownBy w2 v.ownBlock) : w2.heap[g]? = some (.cells (mk v) ty (0, 0)) ∧ Below g w1 w2 ∧ (∀ j, j < w1.heap.size → w2.heap[j]? = wr.heap[j]?) := by
  have hl := h.lt
  have hs := h.size
  have hb : ∀ j, j < w1.heap.size → w2.heap[j]? = wr.heap[j]? := fun j hj =>
    (hg.block j (by have := hW.size; omega) (fun e => by have := (h.own.lt j e.symm).1; omega)).trans (hW.block j (by omega))
  refine ⟨(hb g hl).trans h.box, ?_, hb⟩
  have h2 : Below g w1 W1 := h.below.trans (hW.mono (by omega))
  exact h2.grown hg (by have := hW.size; omega) (fun k hk => by have := (h.own.lt k hk).1; omega)
/-- the slice behind an append is stored -/
theorem KBox.push (h : KBox ty e s mk w1 wr g v m xs) (hW : Below wr.heap.size wr W1) (hg : W1.grownBy w2 v.ownBlock) (i : Nat) (hmk : (mk v).setIfInBounds i v' = mk v') (hown : w2.ownsRow w1.heap.size e s v' m' xs') :
    KBox ty e s mk w1 (w2.setCell ⟨g, i, none⟩ v') g v' m' xs' := by
  obtain ⟨hbx, hb2, hk⟩ := h.grown hW hg
  have hl := h.lt
  refine ⟨fun j hj hjl => ?_, hb2.setCell (p := ⟨g, i, none⟩) (Nat.le_refl _) _, ?_, hl, ?_, ownsRow_setCell_below hown (a := ⟨g, i, none⟩) hl _⟩
  · rw [heap_setCell_other _ _ _ _ hj, hk j hjl]
    exact h.keep j hj hjl
  · have h1 := h.size; have h2 := hW.size; have h3 := hg.size
    simp only [World.size_setCell]
    omega
  · rw [← hmk]
    exact heap_setCell_same w2 g i _ _ v' hbx
end
end Go.Proofs.Ytepoabbkalhifaa
/-
  A PAINTING made of shades: '(shades).painting', by its contract.
-/
namespace Go.Proofs.Ytepoabbkalhifaa
open Go.RowKit

/-- the colours that a table gives to all pairs, in order -/
def colsP (n : Nat) (f : Nat → Nat → Int) : List Int := (allP n).map fun q => f q.1.toNat q.2.toNat
theorem colsP_len (n : Nat) (f : Nat → Nat → Int) : (colsP n f).length = (allP n).length := by simp [colsP]
def mkX (n k : Int) (v : Value) : Array Value := #[.int .i64 n, .int .i64 k, v]
set_option maxHeartbeats 4000000 in
set_option maxRecDepth 100000 in
theorem painting_any (f : Nat → Nat → Int) (n : Nat) (k : Int) (hn : n ≤ 8) (w : World) :
    Calls Try.prog 75 #[.agg (shC f), .int .i64 n, .int .i64 k] w (GotPaint w n k (colsP n f)) := by
  obtain ⟨i0, hi, hz0, hz1, hz2⟩ := info_parts Try.infoInt
  have hcount := (count_of (p := (n : Int)) (by omega)).2.1
  rw [Int.toNat_natCast] at hcount
  obtain ⟨W, hW⟩ : ∃ W, ((w.alloc (Obj.cells (shC f) 78)).alloc (Obj.cells #[.int .i64 0, .int .i64 0, .slice none 0 0] 27)).alloc (Obj.cells #[.int .i64 n, .int .i64 k, .slice none 0 0] 27) = W := ⟨_, rfl⟩
  have kW : Below w.heap.size w W := by rw [← hW]; go_grown
  have row0 : W.rowIs w.heap.size 78 64 (fun q => .int .i64 (f (q / 8) (q % 8))) := by rw [← hW]; exact ((rowIs_sh w f _).alloc _).alloc _
  have bR : W.heap[w.heap.size + 1]? = some (.cells #[.int .i64 0, .int .i64 0, .slice none 0 0] 27 (0, 0)) := by
    rw [← hW]
    have := heap_alloc_new (w.alloc (Obj.cells (shC f) 78)) (Obj.cells #[.int .i64 0, .int .i64 0, .slice none 0 0] 27)
    simp only [World.size_alloc] at this
    exact (((Below.refl _ ((w.alloc (Obj.cells (shC f) 78)).alloc (Obj.cells #[.int .i64 0, .int .i64 0, .slice none 0 0] 27))).alloc (Nat.le_refl _) _).block _ (by simp)).trans this
  have x0 : W.cell? ⟨w.heap.size + 1, 0, none⟩ = some (.int .i64 0) := by rw [cell_of_row _ _ _ _ _ _ bR]; rfl
  have x1 : W.cell? ⟨w.heap.size + 1, 1, none⟩ = some (.int .i64 0) := by rw [cell_of_row _ _ _ _ _ _ bR]; rfl
  have x2 : W.cell? ⟨w.heap.size + 1, 2, none⟩ = some (.slice none 0 0) := by rw [cell_of_row _ _ _ _ _ _ bR]; rfl
  have z0 : ∀ j, W.frozen? ⟨w.heap.size + 1, j, none⟩ = false := fun j => frozen_of_row _ _ j _ _ bR
  clear bR
  have bx : W.heap[w.heap.size + 1 + 1]? = some (.cells #[.int .i64 n, .int .i64 k, .slice none 0 0] 27 (0, 0)) := by
    rw [← hW]
    have := heap_alloc_new ((w.alloc (Obj.cells (shC f) 78)).alloc (Obj.cells #[.int .i64 0, .int .i64 0, .slice none 0 0] 27)) (Obj.cells #[.int .i64 n, .int .i64 k, .slice none 0 0] 27)
    simp only [World.size_alloc] at this
    exact this
  have sW : w.heap.size + 1 + 1 < W.heap.size := by rw [← hW]; simp
  have HW := Lib.hid hW
  clear hW
  go_enter Try.func75, Try.ntmps75
  go_upto_region 2 with fail
  rw [HW.out]
  go_wp2_with fail
  refine (everyPair_any n (by omega) _).mono ?_
  rintro e w1 ⟨P1, c1, rfl, own1, hb1⟩
  have s1 := hb1.size
  have k1 := kW.trans (hb1.mono kW.size)
  have row1 : w1.rowIs w.heap.size 78 64 (fun q => .int .i64 (f (q / 8) (q % 8))) := row0.of_block (hb1.block _ (by omega))
  have y0 := carry hb1 x0 (by omega)
  have y1 := carry hb1 x1 (by omega)
  have y2 := carry hb1 x2 (by omega)
  have v0 := fun j => (hb1.frozen (p := ⟨w.heap.size + 1, j, none⟩) (by simp; omega)).trans (z0 j)
  have rel0 : KBox 27 3 1 (mkX n k) w1 w1 (w.heap.size + 1 + 1) (.slice none 0 0) ((colsP n f).take 0).length (icells ((colsP n f).take 0)) :=
    ⟨fun _ _ _ => rfl, Below.refl _ _, Nat.le_refl _, by omega, (hb1.block _ sW).trans bx, World.ownsRow_nil _ _ _ _⟩
  have Own1 := Lib.hid own1
  have Row1 := Lib.hid row1
  clear row0 x0 x1 x2 z0 bx own1 row1 hb1
  obtain ⟨N, hN⟩ : ∃ N, (allP n).length = N := ⟨_, rfl⟩
  have HN := Lib.hid hN
  have HC := Lib.hid (colsP_len n f)
  rw [hN] at hcount ⊢
  clear hN
  go_wp2_with fail
  go_loopw [16] (fun i wr => ∃ (q : Nat) (v : Value), q ≤ N ∧ i = .int .i64 q ∧ KBox 27 3 1 (mkX n k) w1 wr (w.heap.size + 1 + 1) v ((colsP n f).take q).length (icells ((colsP n f).take q))) (fun i _ => N - (intOf i).toNat)
  case atStart => exact ⟨0, _, Nat.zero_le _, rfl, rel0⟩
  case round =>
    clear rel0
    obtain ⟨q, v, hq, rfl, rel⟩ := hrel
    have kX : Below w.heap.size w wr := k1.trans (rel.below.mono (by omega))
    have hlen : ((colsP n f).take q).length ≤ 28 := by rw [List.length_take, HC.out, HN.out]; omega
    obtain ⟨L, hL⟩ : ∃ L, (colsP n f).take q = L := ⟨_, rfl⟩
    rw [hL] at rel hlen
    have HL := Lib.hid hL
    clear hL
    have hsz := rel.size
    have hlt2 := rel.lt
    have b2 : wr.cell? ⟨w.heap.size + 1 + 1, 2, none⟩ = some v := rel.cell rfl
    have bf2 := rel.frozen 2
    have rowr : wr.rowIs w.heap.size 78 64 (fun q => .int .i64 (f (q / 8) (q % 8))) := Row1.out.of_block (rel.keep _ (by omega) (by omega))
    by_cases hlt : q < N
    · obtain ⟨a, b, hab, hbn, hat, hpq, _⟩ := pairAt_of hn (show q < (allP n).length by rw [HN.out]; exact hlt)
      obtain ⟨b1, off, rfl, hbb, c0, c1'⟩ := (CRead.of_own Own1.out).pair hpq
      have hgb := (Own1.out.lt b1 rfl).1
      have d0 := rel.other (by omega) hbb c0
      have d1 := rel.other (by omega) hbb c1'
      have hqi : (q : Int) < (N : Int) := by omega
      have hval : (colsP n f)[q]? = some (f a b) := by
        unfold colsP
        rw [List.getElem?_map, hpq]
        simp
      have hs := rowr.cell (show a * 8 + b < 64 by omega)
      have e1 : (a * 8 + b) / 8 = a := by omega
      have e2 : (a * 8 + b) % 8 = b := by omega
      simp only [e1, e2] at hs
      obtain ⟨x, hx⟩ : ∃ x, f a b = x := ⟨_, rfl⟩
      rw [hx] at hs hval
      have hai : (a : Int) < 8 := by omega
      have hbi : (b : Int) < 8 := by omega
      have Hval := Lib.hid hval
      clear c0 c1' hpq hat hval hx e1 e2 rowr
      go_upto_region 5 with fail
      obtain ⟨X, hX⟩ : ∃ X, wr.alloc (Obj.cells #[.int .i64 a, .int .i64 b] 85) = X := ⟨_, rfl⟩
      have kWX : Below wr.heap.size wr X := by rw [← hX]; exact (Below.refl _ _).alloc (Nat.le_refl _) _
      have m0 : X.cell? ⟨wr.heap.size, 0, none⟩ = some (.int .i64 a) := by rw [← hX]; simp
      have m1 : X.cell? ⟨wr.heap.size, 1, none⟩ = some (.int .i64 b) := by rw [← hX]; simp
      have q1 := carry kWX b2 (by omega)
      have hsX := carry kWX hs (by omega)
      rw [hX]
      have kb : Below wr.heap.size wr (X.alloc (Obj.cells #[.int .i64 x] 3)).drew := (kWX.alloc kWX.size _).drew
      have ownX := own_below rel.own kb (Nat.le_refl _)
      have ks : (X.alloc (Obj.cells #[.int .i64 x] 3)).drew.heap.size = X.heap.size + 1 := by
        show (X.alloc (Obj.cells #[.int .i64 x] 3)).heap.size = X.heap.size + 1
        simp
      have kc : ∀ (j : Nat) (u : Value), ([.int .i64 x] : List Value)[j]? = some u → (X.alloc (Obj.cells #[.int .i64 x] 3)).drew.cell? ((⟨X.heap.size, 0, none⟩ : Addr).add j) = some u := by
        refine one_cell ?_
        show (X.alloc (Obj.cells #[.int .i64 x] 3)).cell? ⟨X.heap.size, 0, none⟩ = _
        simp
      have kq : w1.heap.size ≤ (X.alloc (Obj.cells #[.int .i64 x] 3)).drew.heap.size := by rw [ks]; have := kWX.size; omega
      have k63 : L.length + 1 ≤ maxLen := by unfold maxLen; omega
      have kby : (L.length + 1) * 8 ≤ 140737488355328 := by omega
      have kq1 : ∀ o : Obj, (X.alloc o).cell? ⟨w.heap.size + 1 + 1, 2, none⟩ = some v := fun o => (World.cell?_alloc_lt X _ _ (by have := kWX.size; simp; omega)).trans q1
      have Rel := Lib.hid rel
      clear hX d0 d1 b2 hs rel
      go_region_law (first
        | (refine step_append_lies _ (by rfl) _ _ _ (by rfl) w1.heap.size 3 i0 _ 1 8 Try.underlying22 hi hz0 hz1 hz2 (by rfl) (by decide) v L.length (icells L) (by rfl) ownX ⟨X.heap.size, 0, none⟩ 1 1 [.int .i64 x] (by rfl) rfl kc (one_one rfl) (by decide) k63 kby kq (X.heap.size + 1) ks ?_; intro g3 c3 w3 own3 gr3 hat3 hlt3; obtain ⟨mid, _, _⟩ := Rel.out.grown kb gr3; have z1 : w3.cell? ⟨w.heap.size + 1 + 1, 2, none⟩ = some v := (by rw [cell_of_row _ _ _ _ _ _ mid]; rfl); have z2 : w3.frozen? ⟨w.heap.size + 1 + 1, 2, none⟩ = false := frozen_of_row _ _ 2 _ _ mid; have rel3 := Rel.out.push kb gr3 2 rfl own3; clear mid)
        | fail)
      all_goals (go_wp2_with fail)
      all_goals (go_roundw)
      all_goals first
        | exact ⟨q + 1, _, by omega, by go_num, by rw [List.take_add_one, Hval.out, Option.toList_some, HL.out, List.length_append, List.length_singleton, show icells (L ++ [x]) = icells L ++ [.int .i64 x] by simp [icells]]; exact rel3⟩
        | (simp [intOf]; omega)
    · have hqN : q = N := by omega
      subst hqN
      have hge : ¬ ((q : Int) < (q : Int)) := by omega
      have hLL := HL.out
      rw [List.take_of_length_le (by rw [HC.out, HN.out]; exact Nat.le_refl _)] at hLL
      subst hLL
      have hll : (colsP n f).length = q := by rw [HC.out, HN.out]
      obtain ⟨A', c', rfl, _⟩ := own_shape rel.own
      have r0 := rel.other (by omega) (by omega) y0
      have r1 := rel.other (by omega) (by omega) y1
      have r2 := rel.other (by omega) (by omega) y2
      have b0 : wr.cell? ⟨w.heap.size + 1 + 1, 0, none⟩ = some (.int .i64 n) := rel.cell rfl
      have b1 : wr.cell? ⟨w.heap.size + 1 + 1, 1, none⟩ = some (.int .i64 k) := rel.cell rfl
      have hfz : ∀ j, wr.frozen? ⟨w.heap.size + 1, j, none⟩ = false := fun j => by
        rw [← v0 j]
        simp [World.frozen?, rel.keep (w.heap.size + 1) (by omega) (by omega)]
      have f0 := hfz 0
      have f1 := hfz 1
      have f2 := hfz 2
      have Rel := Lib.hid rel
      clear rel hfz y0 y1 y2 v0 hll
      go_wp2
      refine bodyPost_ret (v := .agg #[.int .i64 n, .int .i64 k, .slice A' (colsP n f).length c']) (by simp [results, Try.results75, go_sem, r0, r1, r2]) rfl ?_
      exact ⟨A', c', rfl, own_lower (ownsRow_setCell_below (ownsRow_setCell_below (ownsRow_setCell_below Rel.out.own (a := ⟨w.heap.size + 1, 0, none⟩) (by simp; omega) _) (a := ⟨w.heap.size + 1, 1, none⟩) (by simp; omega) _) (a := ⟨w.heap.size + 1, 2, none⟩) (by simp; omega) _) (by omega),
        ((kX.setCell (p := ⟨w.heap.size + 1, 0, none⟩) (by simp) _).setCell (p := ⟨w.heap.size + 1, 1, none⟩) (by simp) _).setCell (p := ⟨w.heap.size + 1, 2, none⟩) (by simp) _⟩
end Go.Proofs.Ytepoabbkalhifaa
/-
  TWO PARTIES BESIDE EACH OTHER, as lists and as tables.
-/
namespace Go.Proofs.Ytepoabbkalhifaa
open Go.RowKit

def shifted (p : Int) (l : PL) : PL := l.map fun q => (q.1 + p, q.2 + p)
def besideP (p : Int) (l m : PL) : PL := l ++ shifted p m
theorem mem_shifted {p : Int} {l : PL} {q : Int × Int} : q ∈ shifted p l ↔ (q.1 - p, q.2 - p) ∈ l := by
  unfold shifted
  rw [List.mem_map]
  constructor
  · rintro ⟨r, hr, rfl⟩
    have e : (r.1 + p - p, r.2 + p - p) = r := Prod.ext (by simp) (by simp)
    rw [e]
    exact hr
  · intro h
    exact ⟨_, h, Prod.ext (by simp) (by simp)⟩
theorem beside_list {p s : Int} {l m : PL} (hl : isP p l = true) (hm : isP s m = true) (h : p + s ≤ 12) : IsList (p + s) (besideP p l m) := by
  obtain ⟨a0, a1, a2, a3⟩ := isP_list hl
  obtain ⟨b0, b1, b2, b3⟩ := isP_list hm
  refine ⟨by omega, h, fun q hq => ?_, ?_⟩
  · unfold besideP at hq
    rcases List.mem_append.1 hq with hq | hq
    · have := a2 q hq
      omega
    · have := b2 _ (mem_shifted.1 hq)
      simp only at this
      omega
  · unfold besideP
    rw [List.pairwise_append]
    refine ⟨a3, ?_, ?_⟩
    · unfold shifted
      rw [List.pairwise_map]
      exact b3.imp fun {x y} h => by unfold plt at *; simp only; omega
    · intro x hx y hy
      have h1 := a2 x hx
      have h2 := b2 _ (mem_shifted.1 hy)
      unfold plt
      simp only at h2
      omega
/-- the table of both: each one's own, and x between them -/
def joinT (p : Nat) (t t' : Nat → Nat → Bool) (x : Bool) : Nat → Nat → Bool := fun i j => if i < p then (if j < p then t i j else x) else if j < p then x else t' (i - p) (j - p)
theorem joinT_adj {p s : Nat} {l m : PL} (hl : isP p l = true) (hm : isP s m = true) {i j : Nat} (hij : i < j) : joinT p (adj l) (adj m) false i j = true ↔ ((i : Int), (j : Int)) ∈ besideP p l m := by
  have a2 := (isP_list hl).2.2.1
  have b2 := (isP_list hm).2.2.1
  unfold joinT besideP
  rw [List.mem_append, mem_shifted]
  by_cases hj : j < p
  · rw [if_pos (by omega), if_pos hj, adj_pair hl hij, List.contains_iff_mem]
    refine ⟨.inl, fun h => h.elim id fun h => ?_⟩
    have := b2 _ h
    simp only at this
    omega
  · have hn : ¬ ((i : Int), (j : Int)) ∈ l := fun h => by
      have := a2 _ h
      simp only at this
      omega
    by_cases hi : i < p
    · rw [if_pos hi, if_neg hj]
      refine ⟨fun h => (by cases h), fun h => ?_⟩
      rcases h with h | h
      · exact absurd h hn
      · have := b2 _ h
        simp only at this
        omega
    · rw [if_neg hi, if_neg hj, adj_pair hm (by omega), List.contains_iff_mem]
      have e1 : ((i - p : Nat) : Int) = (i : Int) - p := by omega
      have e2 : ((j - p : Nat) : Int) = (j : Int) - p := by omega
      rw [e1, e2]
      exact ⟨.inr, fun h => h.elim (fun h => absurd h hn) id⟩
theorem tabP_beside {p s : Nat} {l m : PL} (hl : isP p l = true) (hm : isP s m = true) (h : p + s ≤ 12) : tabP (p + s) (joinT p (adj l) (adj m) false) = besideP p l m := by
  have hb := beside_list hl hm (by omega)
  refine sorted_ext (filter_list h _).2.2.2 hb.2.2.2 fun q => ?_
  unfold tabP
  rw [List.mem_filter, mem_allP]
  constructor
  · rintro ⟨⟨h0, h1, h2⟩, ht⟩
    have e : q = (((q.1.toNat : Nat) : Int), ((q.2.toNat : Nat) : Int)) := Prod.ext (by simp; omega) (by simp; omega)
    rw [e]
    exact (joinT_adj hl hm (by omega)).1 ht
  · intro hq
    have h3 := hb.2.2.1 q hq
    have e : q = (((q.1.toNat : Nat) : Int), ((q.2.toNat : Nat) : Int)) := Prod.ext (by simp; omega) (by simp; omega)
    refine ⟨by omega, (joinT_adj hl hm (by omega)).2 ?_⟩
    rw [← e]
    exact hq
end Go.Proofs.Ytepoabbkalhifaa
/-
  TWO PARTIES TOGETHER: all of the one friends of all of the other, as lists and as tables; a table of both in the middle of being filled.
-/
namespace Go.Proofs.Ytepoabbkalhifaa
open Go.RowKit

theorem other_isP {n : Nat} {l : PL} (h : isP n l = true) : isP n (otherP n l) = true := by
  have h12 := (isP_range h).2
  exact filter_isP (by omega) _
theorem adj_other {n : Nat} {l : PL} (h : isP n l = true) {i j : Nat} (hij : i < j) (hj : j < n) : adj (otherP n l) i j = !adj l i j := by
  rw [adj_pair (other_isP h) hij, adj_pair h hij, Bool.eq_iff_iff, List.contains_iff_mem]
  unfold otherP
  rw [List.mem_filter, mem_allP]
  constructor
  · intro h; exact h.2
  · intro h; exact ⟨⟨by simp only; omega, by simp only; omega, by simp only; omega⟩, h⟩
def togetherP (p s : Nat) (l m : PL) : PL := otherP (p + s) (besideP p (otherP p l) (otherP s m))
theorem beside_isP {p s : Nat} {l m : PL} (hl : isP p l = true) (hm : isP s m = true) (h : p + s ≤ 12) : isP ((p + s : Nat) : Int) (besideP p l m) = true := by
  have := beside_list (p := p) (s := s) hl hm (by omega)
  have e : ((p + s : Nat) : Int) = (p : Int) + s := by omega
  rw [e]
  exact isP_of_list this
theorem tabP_together {p s : Nat} {l m : PL} (hl : isP p l = true) (hm : isP s m = true) (h : p + s ≤ 12) : tabP (p + s) (joinT p (adj l) (adj m) true) = togetherP p s l m := by
  have ho := other_isP hl
  have ho' := other_isP hm
  unfold togetherP
  rw [← tabP_other (beside_isP ho ho' h)]
  refine tabP_congr fun i j hij hj => ?_
  have hB := beside_isP ho ho' h
  rw [adj_pair hB hij]
  have e := joinT_adj ho ho' hij
  have e' : (besideP (p : Int) (otherP p l) (otherP s m)).contains ((i : Int), (j : Int)) = joinT p (adj (otherP p l)) (adj (otherP s m)) false i j := by
    rw [Bool.eq_iff_iff, List.contains_iff_mem, e]
  rw [e']
  unfold joinT
  by_cases hj' : j < p
  · rw [if_pos (show i < p by omega), if_pos hj', if_pos (show i < p by omega), if_pos hj', adj_other hl hij hj', Bool.not_not]
  · by_cases hi' : i < p
    · simp [hi', hj']
    · rw [if_neg hi', if_neg hj', if_neg hi', if_neg hj', adj_other hm (by omega) (by omega), Bool.not_not]

/-! ## The table of both, in the middle of being filled -/
/-- the first a rows of the one, its first p cells -/
def fillA (p : Nat) (t : Nat → Nat → Bool) (a : Nat) : Nat → Nat → Bool := fun i j => if i < a ∧ j < p then t i j else false
/-- the other one's too, its first a rows -/
def fillB (p : Nat) (t t' : Nat → Nat → Bool) (a : Nat) : Nat → Nat → Bool := fun i j => if i < p ∧ j < p then t i j else if p ≤ i ∧ i < p + a ∧ p ≤ j then t' (i - p) (j - p) else false
/-- what is between them: the first a rows, and of the next one up to b -/
def fillC (p : Nat) (t t' : Nat → Nat → Bool) (x : Bool) (a b : Nat) : Nat → Nat → Bool := fun i j =>
  if i < p ∧ j < p then t i j else if p ≤ i ∧ p ≤ j then t' (i - p) (j - p) else if i < p then (if i < a ∨ i = a ∧ j < b then x else false) else if j < a ∨ j = a ∧ i < b then x else false
theorem fillC_next (p : Nat) (t t' : Nat → Nat → Bool) (x : Bool) {a b : Nat} (ha : a < p) (hb : p ≤ b) : upd (upd (fillC p t t' x a b) a b x) b a x = fillC p t t' x a (b + 1) := by
  funext i j
  unfold upd fillC
  by_cases h1 : i = b ∧ j = a
  · obtain ⟨rfl, rfl⟩ := h1
    rw [if_pos ⟨rfl, rfl⟩, if_neg (by omega), if_neg (by omega), if_neg (by omega), if_pos (by omega)]
  · rw [if_neg h1]
    by_cases h2 : i = a ∧ j = b
    · obtain ⟨rfl, rfl⟩ := h2
      rw [if_pos ⟨rfl, rfl⟩, if_neg (by omega), if_neg (by omega), if_pos (by omega), if_pos (by omega)]
    · rw [if_neg h2]
      by_cases c1 : i < p ∧ j < p
      · rw [if_pos c1, if_pos c1]
      · rw [if_neg c1, if_neg c1]
        by_cases c2 : p ≤ i ∧ p ≤ j
        · rw [if_pos c2, if_pos c2]
        · rw [if_neg c2, if_neg c2]
          by_cases c3 : i < p
          · rw [if_pos c3, if_pos c3]
            have : (i < a ∨ i = a ∧ j < b) ↔ (i < a ∨ i = a ∧ j < b + 1) := by omega
            simp only [this]
          · rw [if_neg c3, if_neg c3]
            have : (j < a ∨ j = a ∧ i < b) ↔ (j < a ∨ j = a ∧ i < b + 1) := by omega
            simp only [this]
theorem fillC_row {n : Nat} (p : Nat) (t t' : Nat → Nat → Bool) (x : Bool) (a : Nat) : ∀ i j, i < n → j < n → fillC p t t' x a n i j = fillC p t t' x (a + 1) p i j := by
  intro i j hi hj
  unfold fillC
  by_cases c1 : i < p ∧ j < p
  · rw [if_pos c1, if_pos c1]
  · rw [if_neg c1, if_neg c1]
    by_cases c2 : p ≤ i ∧ p ≤ j
    · rw [if_pos c2, if_pos c2]
    · rw [if_neg c2, if_neg c2]
      by_cases c3 : i < p
      · rw [if_pos c3, if_pos c3]
        have : (i < a ∨ i = a ∧ j < n) ↔ (i < a + 1 ∨ i = a + 1 ∧ j < p) := by omega
        simp only [this]
      · rw [if_neg c3, if_neg c3]
        have : (j < a ∨ j = a ∧ i < n) ↔ (j < a + 1 ∨ j = a + 1 ∧ i < p) := by omega
        simp only [this]
theorem fillC_start {n : Nat} (p s : Nat) (t t' : Nat → Nat → Bool) (x : Bool) (hn : n = p + s) : ∀ i j, i < n → j < n → fillB p t t' s i j = fillC p t t' x 0 p i j := by
  intro i j hi hj
  unfold fillB fillC
  by_cases c1 : i < p ∧ j < p
  · rw [if_pos c1, if_pos c1]
  · rw [if_neg c1, if_neg c1]
    by_cases c2 : p ≤ i ∧ p ≤ j
    · rw [if_pos c2, if_pos (by omega)]
    · rw [if_neg c2, if_neg (by omega)]
      by_cases c3 : i < p
      · rw [if_pos c3, if_neg (by omega)]
      · rw [if_neg c3, if_neg (by omega)]
theorem fillC_all {n : Nat} (p : Nat) (t t' : Nat → Nat → Bool) (x : Bool) (b : Nat) : ∀ i j, i < n → j < n → fillC p t t' x p b i j = joinT p t t' x i j := by
  intro i j hi hj
  unfold fillC joinT
  by_cases c1 : i < p
  · by_cases c2 : j < p
    · simp [c1, c2]
    · rw [if_neg (by omega), if_neg (by omega), if_pos c1, if_pos (by omega), if_pos c1, if_neg c2]
  · by_cases c2 : j < p
    · rw [if_neg (by omega), if_neg (by omega), if_neg c1, if_pos (by omega), if_neg c1, if_pos c2]
    · rw [if_neg (by omega), if_pos (by omega), if_neg c1, if_neg c2]
theorem fillA_start (p : Nat) (t : Nat → Nat → Bool) : fillA p t 0 = fun _ _ => false := by funext i j; simp [fillA]
theorem fillB_start (p : Nat) (t t' : Nat → Nat → Bool) : fillB p t t' 0 = fillA p t p := by
  funext i j
  unfold fillB fillA
  by_cases c : i < p ∧ j < p
  · rw [if_pos c, if_pos c]
  · rw [if_neg c, if_neg c, if_neg (by omega)]
end Go.Proofs.Ytepoabbkalhifaa
/-
  'PaintingOf': the model's and the program's, by their contracts.
-/
namespace Go.Proofs.Ytepoabbkalhifaa
open Go.RowKit

def paintQ (l : PL) (q : Int × Int) : Int := if adj l q.1.toNat q.2.toNat = true then 0 else 1
def paintL (n : Nat) (l : PL) : List Int := (allP n).map (paintQ l)
theorem paintL_len (n : Nat) (l : PL) : (paintL n l).length = (allP n).length := by simp [paintL]
def isP8 (p : Int) (l : PL) : Bool := isP p l && decide (p ≤ 8)
def resPaintingOf (p : Int) (l : PL) : Int × Int × List Int × Bool := if isP8 p l then (p, 2, paintL p.toNat l, true) else (0, 0, [], false)
theorem resPaintingOf_len (p : Int) (l : PL) : (resPaintingOf p l).2.2.1.length ≤ 1048576 := by
  unfold resPaintingOf
  split
  · rename_i h
    simp only [isP8, Bool.and_eq_true, decide_eq_true_eq] at h
    have h1 := isP_range h.1
    have h2 := (count_of (p := p) (by omega)).2.1
    simp only [paintL_len]
    omega
  · simp
/-- the table behind so many pairs of strangers -/
def strF (m : PL) : Nat → Nat → Int := fun i j => if adj m i j = true then 1 else 0
theorem strF_snoc (m : PL) (a b : Nat) : strF (m ++ [((a : Int), (b : Int))]) = paintF (strF m) a b 1 := by
  funext i j
  unfold strF paintF
  rw [adj_snoc]
  simp only [upd]
  by_cases h1 : i = b ∧ j = a
  · simp [h1]
  · by_cases h2 : i = a ∧ j = b
    · simp [h2]
    · simp [h1, h2]
theorem strF_all {n : Nat} {l : PL} (h : isP n l = true) : colsP n (strF (otherP n l)) = paintL n l := by
  unfold colsP paintL
  apply List.map_congr_left
  intro q hq
  have hm := mem_allP.1 hq
  obtain ⟨x, y⟩ := q
  simp only at hm
  unfold strF paintQ
  simp only
  rw [adj_other h (by omega) (by omega)]
  cases adj l x.toNat y.toNat <;> simp

set_option maxHeartbeats 8000000 in
set_option maxRecDepth 100000 in
theorem implPaintingOf_any (p : Int) (l : PL) (A : Option Addr) (c : Nat) (w : World) (hl : l.length ≤ 1048576) (hA : CRead w w.heap.size A (pcells l)) :
    Calls Try.prog 31 #[.agg #[.int .i64 p, .slice A l.length c]] w (GotPaintOk w (resPaintingOf p l).1 (resPaintingOf p l).2.1 (resPaintingOf p l).2.2.1 (resPaintingOf p l).2.2.2) := by
  obtain ⟨w0, hW⟩ : ∃ W, (w.alloc (Obj.cells #[.int .i64 p, .slice A l.length c] 45)).alloc (Obj.cells #[.int .i64 0, .int .i64 0, .slice none 0 0] 27) = W := ⟨_, rfl⟩
  have a0 : w0.cell? ⟨w.heap.size, 0, none⟩ = some (.int .i64 p) := by rw [← hW]; simp
  have a1 : w0.cell? ⟨w.heap.size, 1, none⟩ = some (.slice A l.length c) := by rw [← hW]; simp
  have x0 : w0.cell? ⟨w.heap.size + 1, 0, none⟩ = some (.int .i64 0) := by rw [← hW]; simp
  have x1 : w0.cell? ⟨w.heap.size + 1, 1, none⟩ = some (.int .i64 0) := by rw [← hW]; simp
  have x2 : w0.cell? ⟨w.heap.size + 1, 2, none⟩ = some (.slice none 0 0) := by rw [← hW]; simp
  have z0 : w0.frozen? ⟨w.heap.size + 1, 0, none⟩ = false := by rw [← hW]; simp
  have z1 : w0.frozen? ⟨w.heap.size + 1, 1, none⟩ = false := by rw [← hW]; simp
  have z2 : w0.frozen? ⟨w.heap.size + 1, 2, none⟩ = false := by rw [← hW]; simp
  have k0 : Below w.heap.size w w0 := by rw [← hW]; go_grown
  have sR : w.heap.size + 1 < w0.heap.size := by rw [← hW]; simp
  have RA : CRead w0 w0.heap.size A (pcells l) := (hA.below k0 (Nat.le_refl _)).more k0.size
  have HW := Lib.hid hW
  clear hW
  cases h1 : isP p l with
  | false =>
    have e : resPaintingOf p l = (0, 0, [], false) := by simp [resPaintingOf, isP8, h1]
    rw [e]
    have H1 := Lib.hid h1
    clear e h1
    go_enter Try.func31, Try.ntmps31
    go_wp2_with fail
    rw [HW.out]
    refine (isParty_any p l A c _ hl RA).mono ?_
    rw [H1.out]
    rintro e w1 ⟨rfl, hb1⟩
    have k1 := k0.trans (hb1.mono k0.size)
    have y0 := carry hb1 x0 sR
    have y1 := carry hb1 x1 sR
    have y2 := carry hb1 x2 sR
    have f0 := (hb1.frozen (p := ⟨w.heap.size + 1, 0, none⟩) sR).trans z0
    have f1 := (hb1.frozen (p := ⟨w.heap.size + 1, 1, none⟩) sR).trans z1
    have f2 := (hb1.frozen (p := ⟨w.heap.size + 1, 2, none⟩) sR).trans z2
    clear a0 a1 x0 x1 x2 z0 z1 z2 hb1
    go_wp2
    refine bodyPost_ret (v := .tuple #[.agg #[.int .i64 0, .int .i64 0, .slice none 0 0], .bool false]) (by simp [results, Try.results31, go_sem, y0, y1, y2]) rfl ?_
    exact ⟨none, 0, rfl, World.ownsRow_nil _ _ _ _, ((k1.setCell (p := ⟨w.heap.size + 1, 0, none⟩) (by simp) _).setCell (p := ⟨w.heap.size + 1, 1, none⟩) (by simp) _).setCell (p := ⟨w.heap.size + 1, 2, none⟩) (by simp) _⟩
  | true =>
    have hr := isP_range h1
    by_cases h8 : p ≤ 8
    rotate_left
    · have e : resPaintingOf p l = (0, 0, [], false) := by simp [resPaintingOf, isP8, h8]
      rw [e]
      have h9 : 8 < p := by omega
      have H1 := Lib.hid h1
      clear e h1 h8
      go_enter Try.func31, Try.ntmps31
      go_wp2_with fail
      rw [HW.out]
      refine (isParty_any p l A c _ hl RA).mono ?_
      rw [H1.out]
      rintro e w1 ⟨rfl, hb1⟩
      have k1 := k0.trans (hb1.mono k0.size)
      have b0 := carry hb1 a0 (by omega)
      have y0 := carry hb1 x0 sR
      have y1 := carry hb1 x1 sR
      have y2 := carry hb1 x2 sR
      have f0 := (hb1.frozen (p := ⟨w.heap.size + 1, 0, none⟩) sR).trans z0
      have f1 := (hb1.frozen (p := ⟨w.heap.size + 1, 1, none⟩) sR).trans z1
      have f2 := (hb1.frozen (p := ⟨w.heap.size + 1, 2, none⟩) sR).trans z2
      clear a0 a1 x0 x1 x2 z0 z1 z2 hb1
      go_wp2
      refine bodyPost_ret (v := .tuple #[.agg #[.int .i64 0, .int .i64 0, .slice none 0 0], .bool false]) (by simp [results, Try.results31, go_sem, y0, y1, y2]) rfl ?_
      exact ⟨none, 0, rfl, World.ownsRow_nil _ _ _ _, ((k1.setCell (p := ⟨w.heap.size + 1, 0, none⟩) (by simp) _).setCell (p := ⟨w.heap.size + 1, 1, none⟩) (by simp) _).setCell (p := ⟨w.heap.size + 1, 2, none⟩) (by simp) _⟩
    · obtain ⟨n, rfl⟩ : ∃ n : Nat, p = n := ⟨p.toNat, by omega⟩
      have hn8 : n ≤ 8 := by omega
      have hng : ¬ ((8 : Int) < n) := by omega
      have e : resPaintingOf n l = ((n : Int), 2, paintL n l, true) := by simp [resPaintingOf, isP8, h1, h8]
      rw [e, ← strF_all h1]
      have hfin : colsP n (strF (otherP n l)) = colsP n (strF (otherP n l)) := rfl
      obtain ⟨M, hM⟩ : ∃ M, otherP n l = M := ⟨_, rfl⟩
      have hMp : ∀ q ∈ M, 0 ≤ q.1 ∧ q.1 < q.2 ∧ q.2 < n := fun q hq => by rw [← hM] at hq; exact mem_allP.1 (List.mem_filter.1 hq).1
      have hMl : M.length ≤ 66 := by rw [← hM]; exact filter_length_le (n := n) (by omega) _
      have callo := fun (X : World) (hR : CRead X X.heap.size A (pcells l)) => other_any (n : Int) l A c X h1 hR
      simp only [Int.toNat_natCast, hM] at callo
      have callp := fun (X : World) => painting_any (strF M) n 2 hn8 X
      have callw := fun (q a b : Nat) (ha : a < 8) (hb : b < 8) (X : World) => with_any (strF (M.take q)) a b 1 ha hb X
      rw [hM]
      obtain ⟨R, hR⟩ : ∃ R, colsP n (strF M) = R := ⟨_, rfl⟩
      simp only [hR] at callp ⊢
      have hst : strF (M.take M.length) = strF M := by rw [List.take_length]
      have Callo := Lib.hid callo
      have Callp := Lib.hid callp
      have Callw := Lib.hid callw
      have HMp := Lib.hid hMp
      have H1 := Lib.hid h1
      have Hst := Lib.hid hst
      clear e h1 h8 hfin hM hR callo callp callw hMp hst
      go_enter Try.func31, Try.ntmps31
      go_wp2_with fail
      rw [HW.out]
      refine (isParty_any n l A c _ hl RA).mono ?_
      rw [H1.out]
      rintro e w1 ⟨rfl, hb1⟩
      have k1 := k0.trans (hb1.mono k0.size)
      have b0 := carry hb1 a0 (by omega)
      have b1 := carry hb1 a1 (by omega)
      have X0 := Lib.hid (carry hb1 x0 sR)
      have X1 := Lib.hid (carry hb1 x1 sR)
      have X2 := Lib.hid (carry hb1 x2 sR)
      have Z0 := Lib.hid ((hb1.frozen (p := ⟨w.heap.size + 1, 0, none⟩) sR).trans z0)
      have Z1 := Lib.hid ((hb1.frozen (p := ⟨w.heap.size + 1, 1, none⟩) sR).trans z1)
      have Z2 := Lib.hid ((hb1.frozen (p := ⟨w.heap.size + 1, 2, none⟩) sR).trans z2)
      have s1 := hb1.size
      have sR1 : w.heap.size + 1 < w1.heap.size := by omega
      clear a0 a1 x0 x1 x2 z0 z1 z2 hb1 RA
      go_upto_region 4 with fail
      obtain ⟨W, hW⟩ : ∃ W, w1.alloc (Obj.cells (shC fun _ _ => 0) 78) = W := ⟨_, rfl⟩
      have kW : Below w1.heap.size w1 W := by rw [← hW]; exact (Below.refl _ _).alloc (Nat.le_refl _) _
      have sW : w1.heap.size < W.heap.size := by rw [← hW]; simp
      have c0 := carry kW b0 (by omega)
      have c1 := carry kW b1 (by omega)
      have bg : W.heap[w1.heap.size]? = some (.cells (shC fun _ _ => 0) 78 (0, 0)) := by rw [← hW]; exact heap_alloc_new w1 _
      have kwW := k1.trans (kW.mono k1.size)
      rw [shC_zero] at hW
      rw [hW]
      clear hW b0 b1
      go_wp2_with fail
      refine (Callo.out _ ((hA.below kwW (Nat.le_refl _)).more kwW.size)).mono ?_
      rintro e w2 ⟨P1, d1, rfl, own2, hb2⟩
      have s2 := hb2.size
      have k2 := kwW.trans (hb2.mono kwW.size)
      have u0 := carry hb2 c0 (by omega)
      have bg2 := (hb2.block _ sW).trans bg
      have Own2 := Lib.hid own2
      have hf := Try.run_pairsE
      have k12 : Below w1.heap.size w1 w2 := kW.trans (hb2.mono (by omega))
      obtain ⟨N, hN⟩ : ∃ N, M.length = N := ⟨_, rfl⟩
      have HN := Lib.hid hN
      have hNl : N ≤ 66 := by rw [← hN]; exact hMl
      rw [hN]
      clear c0 c1 own2 bg hb2 hN
      obtain ⟨G, hG⟩ : ∃ G, w1.heap.size = G := ⟨_, rfl⟩
      rw [hG] at bg2 sW sR1
      rw [hG]
      have k12' : Below G w1 w2 := k12.mono (by omega)
      have hGle : G ≤ w1.heap.size := by omega
      clear hG k12 kW
      go_wp2_with fail
      clear hf
      go_loopw [20] (fun i wr => ∃ q : Nat, q ≤ N ∧ i = .int .i64 q ∧ wr.heap[G]? = some (.cells (shC (strF (M.take q))) 78 (0, 0)) ∧ Below G w2 wr ∧ w2.heap.size ≤ wr.heap.size ∧ (∀ j, j ≠ G → j < w2.heap.size → wr.heap[j]? = w2.heap[j]?)) (fun i _ => N - (intOf i).toNat)
      case atStart => exact ⟨0, Nat.zero_le _, rfl, bg2, Below.refl _ _, Nat.le_refl _, fun _ _ _ => rfl⟩
      case round =>
        obtain ⟨q, hq, rfl, bq, hb, sb, hk⟩ := hrel
        have Hb := Lib.hid hb
        have Hk := Lib.hid hk
        have v0 := (cell_of_blk (o := 0) (hk w.heap.size (by omega) (by omega))).trans u0
        clear hb hk
        by_cases hlt : q < N
        · obtain ⟨⟨x, y⟩, hx⟩ := getSome M q (by rw [HN.out]; exact hlt)
          have hxy := HMp.out _ (List.mem_of_getElem? hx)
          simp only at hxy
          obtain ⟨a, rfl⟩ : ∃ a : Nat, x = a := ⟨x.toNat, by omega⟩
          obtain ⟨b, rfl⟩ : ∃ b : Nat, y = b := ⟨y.toNat, by omega⟩
          obtain ⟨b1, off, rfl, hbb, c0, c1⟩ := (CRead.of_own Own2.out).pair hx
          have hgb := (Own2.out.lt b1 rfl).1
          have d0 := (cell_of_blk (o := off + q * 2) (Hk.out b1 (by omega) hbb)).trans c0
          have d1' := (cell_of_blk (o := off + q * 2 + 1) (Hk.out b1 (by omega) hbb)).trans c1
          have hqi : (q : Int) < (N : Int) := by omega
          have call := Callw.out q a b (by omega) (by omega)
          have hnext : M.take (q + 1) = M.take q ++ [((a : Int), (b : Int))] := by rw [List.take_add_one, hx, Option.toList_some]
          obtain ⟨S, hS⟩ : ∃ S, shC (strF (M.take q)) = S := ⟨_, rfl⟩
          have hSs : S.size = 64 := by rw [← hS]; exact shC_size _
          rw [hS] at bq
          simp only [hS] at call
          rw [← strF_snoc, ← hnext] at call
          obtain ⟨T, hT⟩ : ∃ T, shC (strF (M.take (q + 1))) = T := ⟨_, rfl⟩
          have hTs : T.size = 64 := by rw [← hT]; exact shC_size _
          have hT1 : T.all (·.oneCell') = true := by rw [← hT]; exact shC_one _
          simp only [hT] at call
          have hi : (Try.prog.info? 78).map (·.size) = some S.size := by rw [hSs]; exact sh_info
          have hi' : (Try.prog.info? 78).map (·.size) = some T.size := by rw [hTs]; exact sh_info
          have Call := Lib.hid call
          have HT := Lib.hid hT
          have HSs := Lib.hid hSs
          have HTs := Lib.hid hTs
          have HT1 := Lib.hid hT1
          have Bq := Lib.hid bq
          clear c0 c1 hx hxy hnext hS call hT hSs hTs hT1 bq
          have hwr : G < wr.heap.size := by omega
          have kX : Below wr.heap.size wr (wr.alloc (Obj.cells #[.int .i64 a, .int .i64 b] 85)) := (Below.refl _ _).alloc (Nat.le_refl _) _
          have BqX := Lib.hid ((kX.block _ hwr).trans Bq.out)
          have KX := Lib.hid kX
          clear kX
          go_wp2_with (first
            | (go_at_call 74; refine (Call.out _).mono ?_; rintro e w4 ⟨rfl, hb4⟩; have g3 : Below wr.heap.size wr w4 := KX.out.trans (hb4.mono KX.out.size); have bq4 : w4.heap[G]? = some (.cells S 78 (0, 0)) := (g3.block _ hwr).trans Bq.out; have Bq4 := Lib.hid bq4; clear bq4 hb4 v0 d0 d1')
            | (refine wpList_load_row rfl 78 _ rfl G rfl 78 S (0, 0) _ BqX.out sh_under rfl hi ?_)
            | (refine wpList_store_row rfl 78 _ _ rfl G T rfl rfl 78 S Bq4.out hi' (by rw [HSs.out, HTs.out]) HT1.out ?_))
          go_roundw
          case rel =>
            refine ⟨q + 1, by omega, by go_num, ?_, below_setRow (Hb.out.trans (g3.mono (by omega))) (Nat.le_refl _) T, ?_, fun j hj hjl => ?_⟩
            · rw [HT.out]
              exact setRow_heap w4 _ S T _ (0, 0) Bq4.out
            · rw [size_setRow]
              have := g3.size
              omega
            · rw [setRow_other _ _ _ _ hj]
              exact (g3.block j (by omega)).trans (Hk.out j hj hjl)
          case measure => simp [intOf]; omega
        · have hqN : q = N := by omega
          subst hqN
          have hge : ¬ ((q : Int) < (q : Int)) := by omega
          rw [← HN.out, Hst.out] at bq
          obtain ⟨S, hS⟩ : ∃ S, shC (strF M) = S := ⟨_, rfl⟩
          have hSs : S.size = 64 := by rw [← hS]; exact shC_size _
          rw [hS] at bq
          have callp := Callp.out
          simp only [hS] at callp
          have hi : (Try.prog.info? 78).map (·.size) = some S.size := by rw [hSs]; exact sh_info
          have Bq := Lib.hid bq
          have Cp := Lib.hid callp
          have sq : Below w.heap.size w wr := k2.trans (Hb.out.mono (by omega))
          have g2 : Below G w1 wr := k12'.trans Hb.out
          have r0 := carry g2 X0.out sR1
          have r1 := carry g2 X1.out sR1
          have r2 := carry g2 X2.out sR1
          have f0 := (g2.frozen (p := ⟨w.heap.size + 1, 0, none⟩) sR1).trans Z0.out
          have f1 := (g2.frozen (p := ⟨w.heap.size + 1, 1, none⟩) sR1).trans Z1.out
          have f2 := (g2.frozen (p := ⟨w.heap.size + 1, 2, none⟩) sR1).trans Z2.out
          have hsz : w.heap.size + 1 < wr.heap.size := by omega
          have Sq := Lib.hid sq
          clear bq hS hSs callp sq
          go_wp2_with (first
            | (go_at_call 75; refine (Cp.out _).mono ?_; rintro e w4 ⟨A4, c4, rfl, own4, hb4⟩; have y0 := carry hb4 r0 hsz; have y1 := carry hb4 r1 hsz; have y2 := carry hb4 r2 hsz; have e0 := (hb4.frozen (p := ⟨w.heap.size + 1, 0, none⟩) hsz).trans f0; have e1 := (hb4.frozen (p := ⟨w.heap.size + 1, 1, none⟩) hsz).trans f1; have e2 := (hb4.frozen (p := ⟨w.heap.size + 1, 2, none⟩) hsz).trans f2; have k4 := Sq.out.trans (hb4.mono Sq.out.size); have Own4 := Lib.hid own4; clear own4 hb4 r0 r1 r2 f0 f1 f2 v0)
            | (refine wpList_load_row rfl 78 _ rfl G rfl 78 S (0, 0) _ Bq.out sh_under rfl hi ?_))
          refine bodyPost_ret (v := .tuple #[.agg #[.int .i64 n, .int .i64 2, .slice A4 R.length c4], .bool true]) (by simp [results, Try.results31, go_sem, y0, y1, y2]) rfl ?_
          exact ⟨A4, c4, rfl, own_lower (ownsRow_setCell_below (ownsRow_setCell_below (ownsRow_setCell_below Own4.out (a := ⟨w.heap.size + 1, 0, none⟩) hsz _) (a := ⟨w.heap.size + 1, 1, none⟩) hsz _) (a := ⟨w.heap.size + 1, 2, none⟩) hsz _) (by omega),
            ((k4.setCell (p := ⟨w.heap.size + 1, 0, none⟩) (by simp) _).setCell (p := ⟨w.heap.size + 1, 1, none⟩) (by simp) _).setCell (p := ⟨w.heap.size + 1, 2, none⟩) (by simp) _⟩
set_option maxHeartbeats 8000000 in
set_option maxRecDepth 100000 in
theorem specPaintingOf_any (p : Int) (l : PL) (A : Option Addr) (c : Nat) (w : World) (hl : l.length ≤ 1048576) (hA : CRead w w.heap.size A (pcells l)) :
    Calls Try.prog 29 #[.agg #[.int .i64 p, .slice A l.length c]] w (GotPaintOk w (resPaintingOf p l).1 (resPaintingOf p l).2.1 (resPaintingOf p l).2.2.1 (resPaintingOf p l).2.2.2) := by
  obtain ⟨w0, hW⟩ : ∃ W, (w.alloc (Obj.cells #[.int .i64 p, .slice A l.length c] 45)).alloc (Obj.cells #[.int .i64 0, .int .i64 0, .slice none 0 0] 27) = W := ⟨_, rfl⟩
  have a0 : w0.cell? ⟨w.heap.size, 0, none⟩ = some (.int .i64 p) := by rw [← hW]; simp
  have a1 : w0.cell? ⟨w.heap.size, 1, none⟩ = some (.slice A l.length c) := by rw [← hW]; simp
  have x0 : w0.cell? ⟨w.heap.size + 1, 0, none⟩ = some (.int .i64 0) := by rw [← hW]; simp
  have x1 : w0.cell? ⟨w.heap.size + 1, 1, none⟩ = some (.int .i64 0) := by rw [← hW]; simp
  have x2 : w0.cell? ⟨w.heap.size + 1, 2, none⟩ = some (.slice none 0 0) := by rw [← hW]; simp
  have z0 : w0.frozen? ⟨w.heap.size + 1, 0, none⟩ = false := by rw [← hW]; simp
  have z1 : w0.frozen? ⟨w.heap.size + 1, 1, none⟩ = false := by rw [← hW]; simp
  have z2 : w0.frozen? ⟨w.heap.size + 1, 2, none⟩ = false := by rw [← hW]; simp
  have k0 : Below w.heap.size w w0 := by rw [← hW]; go_grown
  have sR : w.heap.size + 1 < w0.heap.size := by rw [← hW]; simp
  have RA : CRead w0 w0.heap.size A (pcells l) := (hA.below k0 (Nat.le_refl _)).more k0.size
  have HW := Lib.hid hW
  clear hW
  cases h1 : isP p l with
  | false =>
    have e : resPaintingOf p l = (0, 0, [], false) := by simp [resPaintingOf, isP8, h1]
    rw [e]
    have H1 := Lib.hid h1
    clear e h1
    go_enter Try.func29, Try.ntmps29
    go_wp2_with fail
    rw [HW.out]
    refine (paGood_any p l A c _ hl RA).mono ?_
    rw [H1.out]
    rintro e w1 ⟨rfl, hb1⟩
    have k1 := k0.trans (hb1.mono k0.size)
    have y0 := carry hb1 x0 sR
    have y1 := carry hb1 x1 sR
    have y2 := carry hb1 x2 sR
    have f0 := (hb1.frozen (p := ⟨w.heap.size + 1, 0, none⟩) sR).trans z0
    have f1 := (hb1.frozen (p := ⟨w.heap.size + 1, 1, none⟩) sR).trans z1
    have f2 := (hb1.frozen (p := ⟨w.heap.size + 1, 2, none⟩) sR).trans z2
    clear a0 a1 x0 x1 x2 z0 z1 z2 hb1
    go_wp2
    refine bodyPost_ret (v := .tuple #[.agg #[.int .i64 0, .int .i64 0, .slice none 0 0], .bool false]) (by simp [results, Try.results29, go_sem, y0, y1, y2]) rfl ?_
    exact ⟨none, 0, rfl, World.ownsRow_nil _ _ _ _, ((k1.setCell (p := ⟨w.heap.size + 1, 0, none⟩) (by simp) _).setCell (p := ⟨w.heap.size + 1, 1, none⟩) (by simp) _).setCell (p := ⟨w.heap.size + 1, 2, none⟩) (by simp) _⟩
  | true =>
    have hr := isP_range h1
    by_cases h8 : p ≤ 8
    rotate_left
    · have e : resPaintingOf p l = (0, 0, [], false) := by simp [resPaintingOf, isP8, h8]
      rw [e]
      have h9 : 8 < p := by omega
      have H1 := Lib.hid h1
      clear e h1 h8
      go_enter Try.func29, Try.ntmps29
      go_wp2_with fail
      rw [HW.out]
      refine (paGood_any p l A c _ hl RA).mono ?_
      rw [H1.out]
      rintro e w1 ⟨rfl, hb1⟩
      have k1 := k0.trans (hb1.mono k0.size)
      have b0 := carry hb1 a0 (by omega)
      have y0 := carry hb1 x0 sR
      have y1 := carry hb1 x1 sR
      have y2 := carry hb1 x2 sR
      have f0 := (hb1.frozen (p := ⟨w.heap.size + 1, 0, none⟩) sR).trans z0
      have f1 := (hb1.frozen (p := ⟨w.heap.size + 1, 1, none⟩) sR).trans z1
      have f2 := (hb1.frozen (p := ⟨w.heap.size + 1, 2, none⟩) sR).trans z2
      clear a0 a1 x0 x1 x2 z0 z1 z2 hb1
      go_wp2
      refine bodyPost_ret (v := .tuple #[.agg #[.int .i64 0, .int .i64 0, .slice none 0 0], .bool false]) (by simp [results, Try.results29, go_sem, y0, y1, y2]) rfl ?_
      exact ⟨none, 0, rfl, World.ownsRow_nil _ _ _ _, ((k1.setCell (p := ⟨w.heap.size + 1, 0, none⟩) (by simp) _).setCell (p := ⟨w.heap.size + 1, 1, none⟩) (by simp) _).setCell (p := ⟨w.heap.size + 1, 2, none⟩) (by simp) _⟩
    · obtain ⟨n, rfl⟩ : ∃ n : Nat, p = n := ⟨p.toNat, by omega⟩
      obtain ⟨i0, hi, hz0, hz1, hz2⟩ := info_parts Try.infoInt
      have hn8 : n ≤ 8 := by omega
      have hng : ¬ ((8 : Int) < n) := by omega
      have e : resPaintingOf n l = ((n : Int), 2, paintL n l, true) := by simp [resPaintingOf, isP8, h1, h8]
      rw [e]
      have hcount := (count_of (p := (n : Int)) (by omega)).2.1
      rw [Int.toNat_natCast] at hcount
      have hpre : ∀ a b, a < n → a < b → b ≤ n → ((upTo n a b).map (paintQ l)).length ≤ 28 := fun a b h1 h2 h3 => by
        obtain ⟨rest, hr⟩ := upTo_prefix h1 h2 h3
        have h5 := congrArg List.length hr
        rw [List.length_append] at h5
        rw [List.length_map]
        omega
      have hend : (upTo n n (n + 1)).map (paintQ l) = paintL n l := by rw [upTo_all]; rfl
      obtain ⟨T, hT⟩ : ∃ T, paintL n l = T := ⟨_, rfl⟩
      rw [hT] at hend ⊢
      have hpq : ∀ i j : Nat, paintQ l ((i : Int), (j : Int)) = if adj l i j = true then 0 else 1 := fun i j => by simp [paintQ]
      have callt := fun (X : World) (hR : CRead X X.heap.size A (pcells l)) => paTable_any (n : Int) l A c X h1 hR
      simp only [Int.toNat_natCast] at callt
      have Callt := Lib.hid callt
      have Hpq := Lib.hid hpq
      have Hpre := Lib.hid hpre
      have Hend := Lib.hid hend
      have H1 := Lib.hid h1
      clear e h1 h8 hT hpre hend hpq callt
      go_enter Try.func29, Try.ntmps29
      go_wp2_with fail
      rw [HW.out]
      refine (paGood_any n l A c _ hl RA).mono ?_
      rw [H1.out]
      rintro e w1 ⟨rfl, hb1⟩
      have k1 := k0.trans (hb1.mono k0.size)
      have b0 := carry hb1 a0 (by omega)
      have b1 := carry hb1 a1 (by omega)
      have X0 := Lib.hid (carry hb1 x0 sR)
      have X1 := Lib.hid (carry hb1 x1 sR)
      have X2 := Lib.hid (carry hb1 x2 sR)
      have Z0 := Lib.hid ((hb1.frozen (p := ⟨w.heap.size + 1, 0, none⟩) sR).trans z0)
      have Z1 := Lib.hid ((hb1.frozen (p := ⟨w.heap.size + 1, 1, none⟩) sR).trans z1)
      have Z2 := Lib.hid ((hb1.frozen (p := ⟨w.heap.size + 1, 2, none⟩) sR).trans z2)
      have s1 := hb1.size
      have sR1 : w.heap.size + 1 < w1.heap.size := by omega
      clear a0 a1 x0 x1 x2 z0 z1 z2 hb1 RA
      go_upto_region 4 with fail
      obtain ⟨W, hW⟩ : ∃ W, w1.alloc (Obj.cells #[.int .i64 n, .int .i64 2, .slice none 0 0] 27) = W := ⟨_, rfl⟩
      have kW : Below w1.heap.size w1 W := by rw [← hW]; exact (Below.refl _ _).alloc (Nat.le_refl _) _
      have sW : w1.heap.size < W.heap.size := by rw [← hW]; simp
      have c0 := carry kW b0 (by omega)
      have c1 := carry kW b1 (by omega)
      have bg : W.heap[w1.heap.size]? = some (.cells #[.int .i64 n, .int .i64 2, .slice none 0 0] 27 (0, 0)) := by rw [← hW]; exact heap_alloc_new w1 _
      have kwW := k1.trans (kW.mono k1.size)
      rw [hW]
      clear hW b0 b1
      go_wp2_with fail
      refine (Callt.out _ ((hA.below kwW (Nat.le_refl _)).more kwW.size)).mono ?_
      rintro e w2 ⟨P1, d1, H, rfl, tab, hb2⟩
      have s2 := hb2.size
      have k2 := kwW.trans (hb2.mono kwW.size)
      have bg2 := (hb2.block _ sW).trans bg
      have k12 : Below w1.heap.size w1 w2 := kW.trans (hb2.mono (by omega))
      have Tab := Lib.hid tab
      obtain ⟨G, hG⟩ : ∃ G, w1.heap.size = G := ⟨_, rfl⟩
      rw [hG] at bg2 sW sR1
      rw [hG]
      have k12' : Below G w1 w2 := k12.mono (by omega)
      have hGle : G ≤ w1.heap.size := by omega
      have rel0 : KBox 27 3 1 (mkX n 2) w2 w2 G (.slice none 0 0) (((upTo n 0 (0 + 1)).map (paintQ l))).length (icells ((upTo n 0 (0 + 1)).map (paintQ l))) :=
        ⟨fun _ _ _ => rfl, Below.refl _ _, Nat.le_refl _, by omega, bg2, World.ownsRow_nil _ _ _ _⟩
      clear hG k12 kW c0 c1 bg bg2 tab hb2
      go_wp2_with fail
      go_loopw [24] (fun i wa => ∃ (a : Nat) (v : Value), a ≤ n ∧ i = .int .i64 a ∧ KBox 27 3 1 (mkX n 2) w2 wa G v ((upTo n a (a + 1)).map (paintQ l)).length (icells ((upTo n a (a + 1)).map (paintQ l)))) (fun i _ => n - (intOf i).toNat)
      case atStart => exact ⟨0, _, Nat.zero_le _, rfl, rel0⟩
      case round =>
        clear rel0
        obtain ⟨a, v, ha, rfl, rel⟩ := hrel
        have Rel := Lib.hid rel
        clear rel
        by_cases hlt : a < n
        · have hai : (a : Int) < n := by omega
          go_wp2_with fail
          go_loopw [7] (fun i wb => ∃ (b : Nat) (v : Value), a < b ∧ b ≤ n ∧ i = .int .i64 b ∧ KBox 27 3 1 (mkX n 2) w2 wb G v ((upTo n a b).map (paintQ l)).length (icells ((upTo n a b).map (paintQ l)))) (fun i _ => n - (intOf i).toNat)
          case atStart => exact ⟨a + 1, v, by omega, by omega, by go_num, Rel.out⟩
          case round =>
            clear Rel
            obtain ⟨b, v, hab, hbn, rfl, rel⟩ := hrel
            by_cases hbt : b < n
            · have hbi : (b : Int) < n := by omega
              have hlen := Hpre.out a b hlt hab hbn
              obtain ⟨L, hL⟩ : ∃ L, (upTo n a b).map (paintQ l) = L := ⟨_, rfl⟩
              rw [hL] at rel hlen
              obtain ⟨g, rfl⟩ := own_form Tab.out.own (by omega)
              have hg0 := (Tab.out.own.lt g rfl)
              have t0 := rel.other (by omega) hg0.2 (Tab.out.outer hlt)
              have hga := Tab.out.blk hlt
              have t1 := rel.other (by omega) hga.2 (Tab.out.cell hlt hbt)
              have b2 : wr.cell? ⟨G, 2, none⟩ = some v := rel.cell rfl
              have bf2 := rel.frozen 2
              obtain ⟨y, hy⟩ : ∃ y, adj l a b = y := ⟨_, rfl⟩
              rw [hy] at t1
              have hnext : (upTo n a (b + 1)).map (paintQ l) = L ++ [if y = true then 0 else 1] := by
                rw [upTo_next hab, List.map_append, hL, List.map_singleton, Hpq.out, hy]
              have hsz := rel.size
              have hGl := rel.lt
              have hW1 : ∀ o : Obj, Below wr.heap.size wr (wr.alloc o) := fun o => (Below.refl _ wr).alloc (Nat.le_refl _) o
              have ow := rel.own
              have Rel := Lib.hid rel
              have Hnext := Lib.hid hnext
              clear rel hL hy hnext
              cases y with
              | false =>
                go_wp2_with (at_builtin; refine wpList_append_own _ rfl _ _ 22 rfl w2.heap.size 3 i0 _ 1 8 Try.underlying22 hi hz0 hz1 hz2 rfl (by decide) _ _ _ rfl (ow.alloc _) ⟨wr.heap.size, 0, none⟩ 1 1 [.int .i64 1] rfl rfl (one_cell (by simp)) (one_one rfl) (by unfold maxLen; omega) (by omega) (by simp; omega) ?_; intro v1 w6 hown2 hg2 _; obtain ⟨A2, d2, rfl, _⟩ := own_shape hown2; have hr1 := Rel.out.push (hW1 _) hg2 2 rfl hown2; obtain ⟨mid, _, _⟩ := Rel.out.grown (hW1 _) hg2; have q1 : w6.cell? ⟨G, 2, none⟩ = some v := (by rw [cell_of_row _ _ _ _ _ _ mid]; rfl); have q2 : w6.frozen? ⟨G, 2, none⟩ = false := frozen_of_row _ _ 2 _ _ mid; clear mid)
                go_roundw
                case rel => exact ⟨b + 1, _, by omega, by omega, by go_num, by rw [Hnext.out, if_neg Bool.false_ne_true, List.length_append, List.length_singleton, show icells (L ++ [(1 : Int)]) = icells L ++ [.int .i64 1] by simp [icells]]; exact hr1⟩
                case measure => simp [intOf]; omega
              | true =>
                go_wp2_with (at_builtin; refine wpList_append_own _ rfl _ _ 22 rfl w2.heap.size 3 i0 _ 1 8 Try.underlying22 hi hz0 hz1 hz2 rfl (by decide) _ _ _ rfl (ow.alloc _) ⟨wr.heap.size, 0, none⟩ 1 1 [.int .i64 0] rfl rfl (one_cell (by simp)) (one_one rfl) (by unfold maxLen; omega) (by omega) (by simp; omega) ?_; intro v1 w6 hown2 hg2 _; obtain ⟨A2, d2, rfl, _⟩ := own_shape hown2; have hr1 := Rel.out.push (hW1 _) hg2 2 rfl hown2; obtain ⟨mid, _, _⟩ := Rel.out.grown (hW1 _) hg2; have q1 : w6.cell? ⟨G, 2, none⟩ = some v := (by rw [cell_of_row _ _ _ _ _ _ mid]; rfl); have q2 : w6.frozen? ⟨G, 2, none⟩ = false := frozen_of_row _ _ 2 _ _ mid; clear mid)
                go_roundw
                case rel => exact ⟨b + 1, _, by omega, by omega, by go_num, by rw [Hnext.out, if_pos rfl, List.length_append, List.length_singleton, show icells (L ++ [(0 : Int)]) = icells L ++ [.int .i64 0] by simp [icells]]; exact hr1⟩
                case measure => simp [intOf]; omega
            · have hbn2 : b = n := by omega
              have hge : ¬ ((b : Int) < n) := by omega
              rw [hbn2, upTo_row] at rel
              have Rel := Lib.hid rel
              subst hbn2
              clear rel
              go_wp2
              go_roundw
              case rel => exact ⟨a + 1, v, by omega, by go_num, Rel.out⟩
              case measure => simp [intOf]; omega
        · have han : a = n := by omega
          have hge : ¬ ((a : Int) < n) := by omega
          subst han
          have rel := Rel.out
          rw [Hend.out] at rel
          obtain ⟨A', c', rfl, _⟩ := own_shape rel.own
          have b0 : wr.cell? ⟨G, 0, none⟩ = some (.int .i64 a) := rel.cell rfl
          have b1 : wr.cell? ⟨G, 1, none⟩ = some (.int .i64 2) := rel.cell rfl
          have b2 : wr.cell? ⟨G, 2, none⟩ = some (.slice A' T.length c') := rel.cell rfl
          have g2 : Below G w1 wr := k12'.trans rel.below
          have r0 := carry g2 X0.out sR1
          have r1 := carry g2 X1.out sR1
          have r2 := carry g2 X2.out sR1
          have f0 := (g2.frozen (p := ⟨w.heap.size + 1, 0, none⟩) sR1).trans Z0.out
          have f1 := (g2.frozen (p := ⟨w.heap.size + 1, 1, none⟩) sR1).trans Z1.out
          have f2 := (g2.frozen (p := ⟨w.heap.size + 1, 2, none⟩) sR1).trans Z2.out
          have hne : ¬ G = w.heap.size + 1 := by omega
          have kX : Below w.heap.size w wr := k2.trans (rel.below.mono (by omega))
          have RelT := Lib.hid rel
          clear rel Rel
          go_wp2
          refine bodyPost_ret (v := .tuple #[.agg #[.int .i64 a, .int .i64 2, .slice A' T.length c'], .bool true]) (by simp [results, Try.results29, go_sem, r0, r1, r2]) rfl ?_
          exact ⟨A', c', rfl, own_lower (ownsRow_setCell_below (ownsRow_setCell_below (ownsRow_setCell_below RelT.out.own (a := ⟨w.heap.size + 1, 0, none⟩) (by simp; omega) _) (a := ⟨w.heap.size + 1, 1, none⟩) (by simp; omega) _) (a := ⟨w.heap.size + 1, 2, none⟩) (by simp; omega) _) (by omega),
            ((kX.setCell (p := ⟨w.heap.size + 1, 0, none⟩) (by simp) _).setCell (p := ⟨w.heap.size + 1, 1, none⟩) (by simp) _).setCell (p := ⟨w.heap.size + 1, 2, none⟩) (by simp) _⟩
end Go.Proofs.Ytepoabbkalhifaa
