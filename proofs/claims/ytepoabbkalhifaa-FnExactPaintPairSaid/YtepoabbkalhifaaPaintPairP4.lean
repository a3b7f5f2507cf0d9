/-
  Texts put together for the claim of 'PaintPair' (pack 4): ShadesOf, Has, Own, LRows, OwnRow, PaintS, NameP, Friends, Are, ExchP, Shelf, ContI, Diff, ColourOf, PBox.
-/
import Derived.Test.YtepoabbkalhifaaPaintPairP2
import Derived.Test.YtepoabbkalhifaaPaintPairP3
import Derived.Deep.RegionLaw
import Derived.ArgAppend
import Derived.Laws.AppendOwnNone
import Derived.Deep.RegionHeld3
import Derived.Deep.RegionWith
import Derived.Shelf.SlicesE.Clone
import Derived.Shelf.SlicesG.SearchI
import Derived.Shelf.SlicesG.Turned
import Derived.Shelf.SlGeneric
import Derived.Ground.SlgnProg
import Derived.Test.YtepoabbkalhifaaProg
/-
  SHADES made of a painting, a painting made of shades: pure parts, 'shadesOf' by its contract.
-/
namespace Go.Proofs.Ytepoabbkalhifaa
open Go.RowKit

def pairAt (n q : Nat) : Nat × Nat := (((allP n).getD q (0, 0)).1.toNat, ((allP n).getD q (0, 0)).2.toNat)
theorem pairAt_of {n q : Nat} (hn : n ≤ 8) (hq : q < (allP n).length) : ∃ a b : Nat, a < b ∧ b < n ∧ q = atP n a b ∧ (allP n)[q]? = some ((a : Int), (b : Int)) ∧ pairAt n q = (a, b) := by
  obtain ⟨a, b, hab, hb, e⟩ := atP_of hn hq
  have h := atP_get hn hab hb
  rw [← e] at h
  refine ⟨a, b, hab, hb, e, h, ?_⟩
  unfold pairAt
  rw [List.getD_eq_getElem?_getD, h]
  simp
/-- the table behind so many pairs painted -/
def shK (n : Nat) (l : List Int) : Nat → Nat → Nat → Int
  | 0 => fun _ _ => 0
  | q + 1 => paintF (shK n l q) (pairAt n q).1 (pairAt n q).2 (l.getD q 0)
theorem shK_next {n q a b : Nat} {l : List Int} {x : Int} (hp : pairAt n q = (a, b)) (hx : l[q]? = some x) : shK n l (q + 1) = paintF (shK n l q) a b x := by
  show paintF (shK n l q) (pairAt n q).1 (pairAt n q).2 (l.getD q 0) = _
  rw [hp, List.getD_eq_getElem?_getD, hx]
  rfl
theorem atP_inj {n a b a' b' : Nat} (hn : n ≤ 8) (hab : a < b) (hb : b < n) (hab' : a' < b') (hb' : b' < n) (h : atP n a b = atP n a' b') : a = a' ∧ b = b' := by
  have h1 := atP_get hn hab hb
  have h2 := atP_get hn hab' hb'
  rw [h, h2] at h1
  simp only [Option.some.injEq, Prod.mk.injEq] at h1
  omega
theorem shK_at {n : Nat} {l : List Int} (hn : n ≤ 8) : ∀ q, q ≤ (allP n).length → ∀ i j, shK n l q i j = if i ≠ j ∧ i < n ∧ j < n ∧ atP n (min i j) (max i j) < q then l.getD (atP n (min i j) (max i j)) 0 else 0
  | 0, _, i, j => by rw [if_neg (by omega)]; rfl
  | q + 1, hq, i, j => by
    obtain ⟨a, b, hab, hb, e, h, hp⟩ := pairAt_of hn (show q < (allP n).length by omega)
    show paintF (shK n l q) (pairAt n q).1 (pairAt n q).2 (l.getD q 0) i j = _
    rw [hp]
    unfold paintF
    simp only
    by_cases hit : (i = a ∧ j = b) ∨ (i = b ∧ j = a)
    · rw [if_pos hit]
      have e1 : min i j = a := by omega
      have e2 : max i j = b := by omega
      rw [e1, e2, ← e, if_pos (by omega)]
    · rw [if_neg hit, shK_at hn q (by omega) i j]
      by_cases hc : i ≠ j ∧ i < n ∧ j < n
      · have hne : atP n (min i j) (max i j) ≠ q := by
          intro h2
          rw [e] at h2
          have := atP_inj hn (by omega) (by omega) hab hb h2
          omega
        by_cases h3 : atP n (min i j) (max i j) < q
        · rw [if_pos ⟨hc.1, hc.2.1, hc.2.2, h3⟩, if_pos ⟨hc.1, hc.2.1, hc.2.2, by omega⟩]
        · rw [if_neg (by omega), if_neg (by omega)]
      · rw [if_neg (by omega), if_neg (by omega)]
/-- the table of a painting -/
def shX (n : Nat) (l : List Int) : Nat → Nat → Int := shK n l (allP n).length
theorem shX_col {n : Nat} {l : List Int} (hn : n ≤ 8) {i j : Nat} (hi : i < n) (hj : j < n) (hij : i ≠ j) : shX n l i j = colX n l i j := by
  unfold shX colX
  rw [shK_at hn _ (Nat.le_refl _), if_pos ⟨hij, hi, hj, atP_lt hn (by omega) (by omega)⟩]
theorem shX_out {n : Nat} {l : List Int} (hn : n ≤ 8) {i j : Nat} (h : ¬ (i ≠ j ∧ i < n ∧ j < n)) : shX n l i j = 0 := by
  unfold shX
  rw [shK_at hn _ (Nat.le_refl _), if_neg (by omega)]

set_option maxHeartbeats 4000000 in
set_option maxRecDepth 100000 in
theorem shadesOf_any (n : Nat) (k : Int) (l : List Int) (A : Option Addr) (c : Nat) (w : World) (hx : isX n k l = true) (hA : CRead w w.heap.size A (icells l)) :
    Calls Try.prog 70 #[.agg #[.int .i64 n, .int .i64 k, .slice A l.length c]] w fun e w' => e = .returned (.agg (shC (shX n l))) ∧ Below w.heap.size w w' := by
  have hn := (isX_parts hx).1
  have hn8 : n ≤ 8 := by omega
  have hlen := isX_len hx
  have hsm := isX_small hx
  rw [Int.toNat_natCast] at hlen
  obtain ⟨F, hF⟩ : ∃ F, shC (shX n l) = F := ⟨_, rfl⟩
  have hFs : F.size = 64 := by rw [← hF]; exact shC_size _
  have hF1 : F.all (·.oneCell') = true := by rw [← hF]; exact shC_one _
  rw [hF]
  have HF := Lib.hid hF
  have HFs := Lib.hid hFs
  have HF1 := Lib.hid hF1
  have Hlen := Lib.hid hlen
  have Hx := Lib.hid hx
  clear hF hFs hF1 hx hlen
  obtain ⟨W, hW⟩ : ∃ W, ((w.alloc (Obj.cells #[.int .i64 n, .int .i64 k, .slice A l.length c] 27)).alloc (Obj.cells (shC fun _ _ => 0) 78)).alloc (Obj.cells (shC fun _ _ => 0) 78) = W := ⟨_, rfl⟩
  have kW : Below w.heap.size w W := by rw [← hW]; go_grown
  have a0 : W.cell? ⟨w.heap.size, 0, none⟩ = some (.int .i64 n) := by rw [← hW]; exact (World.cell?_alloc_lt _ _ _ (by simp; omega)).trans ((World.cell?_alloc_lt _ _ _ (by simp)).trans (by simp))
  have a2 : W.cell? ⟨w.heap.size, 2, none⟩ = some (.slice A l.length c) := by rw [← hW]; exact (World.cell?_alloc_lt _ _ _ (by simp; omega)).trans ((World.cell?_alloc_lt _ _ _ (by simp)).trans (by simp))
  have rowR : W.rowIs (w.heap.size + 1) 78 64 (fun _ => .int .i64 0) := by
    rw [← hW]
    have := (rowIs_sh (w.alloc (Obj.cells #[.int .i64 n, .int .i64 k, .slice A l.length c] 27)) (fun _ _ => 0) 78).alloc (Obj.cells (shC fun _ _ => 0) 78)
    simp only [World.size_alloc] at this
    exact this
  have rowS : W.rowIs (w.heap.size + 2) 78 64 (fun _ => .int .i64 0) := by
    rw [← hW]
    have := rowIs_sh ((w.alloc (Obj.cells #[.int .i64 n, .int .i64 k, .slice A l.length c] 27)).alloc (Obj.cells (shC fun _ _ => 0) 78)) (fun _ _ => 0) 78
    simp only [World.size_alloc] at this
    exact this
  have sW : W.heap.size = w.heap.size + 3 := by rw [← hW]; simp
  have s1 : w.heap.size + 2 < W.heap.size := by omega
  have bR := sh_block (f := fun _ _ => 0) rowR
  have bS := sh_block (f := fun _ _ => 0) rowS
  rw [shC_zero] at hW
  have HW := Lib.hid hW
  clear hW rowR rowS sW
  go_enter Try.func70, Try.ntmps70
  go_upto_region 2 with fail
  rw [HW.out]
  go_wp2_with fail
  refine (everyPair_any n (by omega) _).mono ?_
  rintro e w1 ⟨P1, c1, rfl, own1, hb1⟩
  have s2 := hb1.size
  have b0 := carry hb1 a0 (by omega)
  have b2 := carry hb1 a2 (by omega)
  have k1 := kW.trans (hb1.mono kW.size)
  have br1 := (hb1.block (w.heap.size + 2) s1).trans bS
  have bq1 := (hb1.block (w.heap.size + 1) (by omega)).trans bR
  have Own1 := Lib.hid own1
  clear a0 a2 bR bS own1 hb1
  obtain ⟨N, hN⟩ : ∃ N, (allP n).length = N := ⟨_, rfl⟩
  have HN := Lib.hid hN
  rw [hN]
  clear hN
  go_wp2_with fail
  go_loopw [10] (fun i wr => ∃ q : Nat, q ≤ N ∧ i = .int .i64 q ∧ wr.heap[w.heap.size + 2]? = some (.cells (shC (shK n l q)) 78 (0, 0)) ∧ Below (w.heap.size + 2) w1 wr ∧ w1.heap.size ≤ wr.heap.size ∧ (∀ j, j ≠ w.heap.size + 2 → j < w1.heap.size → wr.heap[j]? = w1.heap[j]?)) (fun i _ => N - (intOf i).toNat)
  case atStart => exact ⟨0, Nat.zero_le _, rfl, br1, Below.refl _ _, Nat.le_refl _, fun _ _ _ => rfl⟩
  case round =>
    obtain ⟨q, hq, rfl, bq, hb, sb, hk⟩ := hrel
    have sq : Below w.heap.size w wr := k1.trans (hb.mono (by omega))
    have e2 := (cell_of_blk (o := 2) (hk w.heap.size (by omega) (by omega))).trans b2
    have Hb := Lib.hid hb
    have Hk := Lib.hid hk
    clear hb hk
    by_cases hlt : q < N
    · obtain ⟨a, b, hab, hbn, hat, hpq, hpair⟩ := pairAt_of hn8 (show q < (allP n).length by rw [HN.out]; exact hlt)
      obtain ⟨b1, off, rfl, hbb, c0, c1⟩ := (CRead.of_own Own1.out).pair hpq
      have hgb := (Own1.out.lt b1 rfl).1
      have d0 := (cell_of_blk (o := off + q * 2) (Hk.out b1 (by omega) hbb)).trans c0
      have d1 := (cell_of_blk (o := off + q * 2 + 1) (Hk.out b1 (by omega) hbb)).trans c1
      obtain ⟨x, hx⟩ := getSome l q (by rw [Hlen.out, HN.out]; exact hlt)
      obtain ⟨bb, off2, rfl, hbb2, c2⟩ := (hA.below sq (Nat.le_refl _)).int hx
      have hqi : (q : Int) < (N : Int) := by omega
      have hql : (q : Int) < (l.length : Int) := by rw [Hlen.out, HN.out]; exact hqi
      have hnext := shK_next hpair hx
      obtain ⟨S, hS⟩ : ∃ S, shC (shK n l q) = S := ⟨_, rfl⟩
      have hSs : S.size = 64 := by rw [← hS]; exact shC_size _
      have call := fun X : World => with_any (shK n l q) a b x (by omega) (by omega) X
      rw [hS] at bq call
      rw [← hnext] at call
      obtain ⟨T, hT⟩ : ∃ T, shC (shK n l (q + 1)) = T := ⟨_, rfl⟩
      have hTs : T.size = 64 := by rw [← hT]; exact shC_size _
      have hT1 : T.all (·.oneCell') = true := by rw [← hT]; exact shC_one _
      rw [hT] at call
      have hi : (Try.prog.info? 78).map (·.size) = some S.size := by rw [hSs]; exact sh_info
      have hi' : (Try.prog.info? 78).map (·.size) = some T.size := by rw [hTs]; exact sh_info
      have Call := Lib.hid call
      have HT := Lib.hid hT
      have HSs := Lib.hid hSs
      have HTs := Lib.hid hTs
      have HT1 := Lib.hid hT1
      have Bq := Lib.hid bq
      clear c0 c1 hx hpq hpair hat hnext hS call hT hSs hTs hT1 bq
      go_upto_region 5 with fail
      obtain ⟨X, hX⟩ : ∃ X, wr.alloc (Obj.cells #[.int .i64 a, .int .i64 b] 85) = X := ⟨_, rfl⟩
      have kX : Below wr.heap.size wr X := by rw [← hX]; exact (Below.refl _ _).alloc (Nat.le_refl _) _
      have m0 : X.cell? ⟨wr.heap.size, 0, none⟩ = some (.int .i64 a) := by rw [← hX]; simp
      have m1 : X.cell? ⟨wr.heap.size, 1, none⟩ = some (.int .i64 b) := by rw [← hX]; simp
      have hwr : w.heap.size + 2 < wr.heap.size := by omega
      have e2X := carry kX e2 (by omega)
      have c2X := carry kX c2 (by have := sq.size; omega)
      have bqX : X.heap[w.heap.size + 2]? = some (.cells S 78 (0, 0)) := (kX.block _ hwr).trans Bq.out
      rw [hX]
      have BqX := Lib.hid bqX
      have KX := Lib.hid kX
      clear hX d0 d1 e2 c2 bqX kX
      refine wp_region_still_tail 7 (by kernel_rfl) (by kernel_rfl) ?_
      simp only [List.take_succ_cons, List.take_zero, List.drop_succ_cons, List.drop_zero]
      refine wpStill_load_row rfl 78 _ rfl (w.heap.size + 2) rfl 78 S (0, 0) _ BqX.out sh_under rfl hi ?_
      repeat still_step
      refine wpStill_nil ?_
      change wpList _ _ _ _ _ (World.drew _)
      clear m0 m1 e2X c2X
      go_wp2_with fail
      refine (Call.out _).mono ?_
      rintro e w2 ⟨rfl, hb2⟩
      have g2 : Below X.heap.size X w2 := (Below.refl _ _).drew.trans hb2
      have g3 : Below wr.heap.size wr w2 := KX.out.trans (g2.mono KX.out.size)
      have bq2 : w2.heap[w.heap.size + 2]? = some (.cells S 78 (0, 0)) := (g2.block _ (by have := KX.out.size; omega)).trans BqX.out
      have Bq2 := Lib.hid bq2
      clear bq2 hb2
      go_wp2_with (first | (refine wpList_store_row rfl 78 _ _ rfl (w.heap.size + 2) T rfl rfl 78 S Bq2.out hi' (by rw [HSs.out, HTs.out]) HT1.out ?_))
      go_roundw
      case rel =>
        refine ⟨q + 1, by omega, by go_num, ?_, below_setRow (Hb.out.trans (g3.mono (by omega))) (Nat.le_refl _) T, ?_, fun j hj hjl => ?_⟩
        · rw [HT.out]
          exact setRow_heap w2 _ S T _ (0, 0) Bq2.out
        · rw [size_setRow]
          have := g3.size
          omega
        · rw [setRow_other _ _ _ _ hj]
          exact (g3.block j (by omega)).trans (Hk.out j hj hjl)
      case measure => simp [intOf]; omega
    · have hqN : q = N := by omega
      subst hqN
      have hge : ¬ ((q : Int) < (q : Int)) := by omega
      have hfin : shC (shK n l q) = F := by rw [← HF.out, ← HN.out]; rfl
      rw [hfin] at bq
      have bg := (Hk.out (w.heap.size + 1) (by omega) (by omega)).trans bq1
      obtain ⟨G, hG⟩ : ∃ G, shC (fun _ _ => 0) = G := ⟨_, rfl⟩
      have hGs : G.size = 64 := by rw [← hG]; exact shC_size _
      rw [hG] at bg
      have hi : (Try.prog.info? 78).map (·.size) = some F.size := by rw [HFs.out]; exact sh_info
      have Bq := Lib.hid bq
      have Bg := Lib.hid bg
      have Sq := Lib.hid sq
      clear bq bg hG hfin sq e2
      go_wp2_with (first | (refine wpList_load_row rfl 78 _ rfl (w.heap.size + 2) rfl 78 F (0, 0) _ Bq.out sh_under rfl hi ?_) | (refine wpList_store_row rfl 78 _ _ rfl (w.heap.size + 1) F rfl rfl 78 G Bg.out hi (by rw [hGs, HFs.out]) HF1.out ?_))
      refine bodyPost_ret (v := .agg F) (results_cell_row rfl _ _ (w.heap.size + 1) 78 F (0, 0) _ rfl (setRow_heap wr (w.heap.size + 1) G F 78 (0, 0) Bg.out) sh_under rfl hi) rfl ?_
      exact ⟨rfl, below_setRow Sq.out (by omega) F⟩
end Go.Proofs.Ytepoabbkalhifaa
/-
  WHETHER A NUMBER IS IN A LIST: the model's look; a list's front.
-/
namespace Go.Proofs.Ytepoabbkalhifaa
open Go.RowKit

theorem icells_getD {l : List Int} {j : Nat} (h : j < l.length) : (icells l)[j]? = some (.int .i64 (l.getD j 0)) := by
  simp [icells, List.getD_eq_getElem?_getD, List.getElem?_eq_getElem h]
theorem CRead.ints {w : World} {B : Nat} {A : Option Addr} {q : List Int} (h : CRead w B A (icells q)) (hq : 0 < q.length) : ∃ b off, A = some ⟨b, off, none⟩ ∧ b < B ∧ ∀ j, j < q.length → w.cell? ⟨b, off + j, none⟩ = some (.int .i64 (q.getD j 0)) := by
  obtain ⟨b, off, rfl, hb, _⟩ := h 0 _ (icells_getD hq)
  refine ⟨b, off, rfl, hb, fun j hj => ?_⟩
  obtain ⟨b', off', e, _, hc⟩ := h j _ (icells_getD hj)
  simp only [Option.some.injEq, Addr.mk.injEq, and_true] at e
  obtain ⟨rfl, rfl⟩ := e
  exact hc

theorem CRead.front {w : World} {B : Nat} {A : Option Addr} {q : List Int} (h : CRead w B A (icells q)) (k : Nat) : CRead w B A (icells (q.take k)) := fun j u hu => by
  refine h j u ?_
  unfold icells at hu ⊢
  rw [List.map_take, List.getElem?_take] at hu
  split at hu
  · exact hu
  · cases hu


/-- whether a number is in a list -/
def hasI (q : List Int) (x : Int) : Bool := q.contains x
theorem hasI_mem {q : List Int} {x : Int} : hasI q x = true ↔ x ∈ q := List.contains_iff_mem
set_option maxHeartbeats 1000000 in
theorem l1Has_any (q : List Int) (x : Int) (A : Option Addr) (c : Nat) (w : World) (hl : q.length ≤ 1048576) (hA : CRead w w.heap.size A (icells q)) :
    Calls Try.prog 114 #[.slice A q.length c, .int .i64 x] w fun e w' => e = .returned (.bool (hasI q x)) ∧ w = w' := by
  go_enter Try.func114, Try.ntmps114
  go_wp2
  go_loop [9] (fun i => ∃ k : Nat, k ≤ q.length ∧ i = .int .i64 k ∧ ∀ (j : Nat) (y : Int), j < k → q[j]? = some y → y ≠ x) (fun i => q.length - (intOf i).toNat)
  case atStart => exact ⟨0, Nat.zero_le _, rfl, fun j x hj => by omega⟩
  case round =>
    obtain ⟨k, hk, rfl, hg⟩ := hrel
    have Hg := Lib.hid hg
    clear hg
    by_cases hlt : k < q.length
    · obtain ⟨y, hy⟩ := getSome q k hlt
      obtain ⟨b, off, rfl, hbb, c0⟩ := hA.int hy
      have hki : (k : Int) < (q.length : Int) := by omega
      have Hy := Lib.hid hy
      clear hy
      by_cases hyx : y = x
      · subst hyx
        have He := Lib.hid (show hasI q y = true from hasI_mem.2 (List.mem_of_getElem? Hy.out))
        go_wp2
        go_ret
        exact ⟨by rw [He.out]; rfl, rfl⟩
      · go_wp2
        go_round
        case rel =>
          refine ⟨k + 1, by omega, by go_num, fun j z hj hz => ?_⟩
          by_cases hjk : j = k
          · subst hjk
            rw [Hy.out] at hz
            simp only [Option.some.injEq] at hz
            subst hz
            exact hyx
          · exact Hg.out j z (by omega) hz
        case measure => simp [intOf]; omega
    · have hkl : k = q.length := by omega
      have e : hasI q x = false := by
        rw [Bool.eq_false_iff]
        intro hc
        rw [hasI_mem] at hc
        obtain ⟨i, hi, e⟩ := List.getElem_of_mem hc
        exact Hg.out i _ (by omega) (List.getElem?_eq_getElem hi) e
      have He := Lib.hid e
      clear e
      have hge : ¬ ((k : Int) < (q.length : Int)) := by omega
      go_wp2
      go_ret
      exact ⟨by rw [He.out]; rfl, rfl⟩
end Go.Proofs.Ytepoabbkalhifaa
/-
  'spec.l1Own': a copy of a list of numbers, by its contract.
-/
namespace Go.Proofs.Ytepoabbkalhifaa
open Go.RowKit

set_option maxHeartbeats 1000000 in
set_option maxRecDepth 100000 in
theorem l1Own_any (q : List Int) (A : Option Addr) (c : Nat) (w : World) (hq : q.length ≤ 1048576) (h0 : 0 < q.length) (hA : CRead w w.heap.size A (icells q)) :
    Calls Try.prog 101 #[.slice A q.length c] w fun e w' => ∃ A' c', e = .returned (.slice A' q.length c') ∧ w'.ownsRow w.heap.size 3 1 (.slice A' q.length c') q.length (icells q) ∧ Below w.heap.size w w' := by
  obtain ⟨i0, hi, hz0, hz1, hz2⟩ := info_parts Try.infoInt
  obtain ⟨b, off, rfl, hb, hr⟩ := hA.ints h0
  go_enter Try.func101, Try.ntmps101
  have hc : ∀ j u, (icells q)[j]? = some u → (w.alloc (Obj.cells #[] 3)).cell? ((⟨b, off, none⟩ : Addr).add j) = some u := fun j u hu => by
    rw [Addr.add_lit]
    obtain ⟨b', off', e, _, hcell⟩ := hA j u hu
    simp only [Option.some.injEq, Addr.mk.injEq, and_true] at e
    obtain ⟨rfl, rfl⟩ := e
    exact (World.cell?_alloc_lt _ _ _ hb).trans hcell
  clear hr
  go_wp2_with (at_builtin; refine wpList_append_grows _ rfl _ _ 22 rfl 3 i0 _ 1 8 Try.underlying22 hi hz0 hz1 hz2 rfl (by decide) (some ⟨w.heap.size, 0, none⟩) 0 0 [] rfl (fun h => by cases h) rfl (fun b' hb' m u hu => by simp at hu) ⟨b, off, none⟩ q.length c (icells q) rfl (by simp [icells]) hc (icells_one q) (by omega) (by unfold maxLen; omega) (by omega) ?_; intro v1 w4 own4 gr4; simp only [Nat.zero_add, List.nil_append] at own4; obtain ⟨A4, d4, rfl, _⟩ := own_shape own4)
  go_ret
  exact ⟨A4, d4, rfl, own_lower own4 (by simp), below_of_gb (gb_trans (World.grownBy_alloc w _ none) gr4) (Nat.le_refl _)⟩
end Go.Proofs.Ytepoabbkalhifaa
/-
  LISTS OF NUMBERS UNDER ONE SLICE, each row in a block of the call's own; 'spec.l1Own' of any list; 'spec.trGroups' as a plain list.
-/
namespace Go.Proofs.Ytepoabbkalhifaa
open Go.RowKit

structure LRows (w : World) (B : Nat) (v : Value) (LL : List (List Int)) (hs : List Value) : Prop where
  own : w.ownsRow B 22 1 v LL.length hs
  row : ∀ (i : Nat) (l : List Int), LL[i]? = some l → ∃ A c, hs[i]? = some (Value.slice A l.length c) ∧ w.ownsRow B 3 1 (Value.slice A l.length c) l.length (icells l)
  nil : LL = [] → v = Value.slice none 0 0
section
variable {w w' : World} {B B' : Nat} {v v' v2 : Value} {LL L2 : List (List Int)} {hs hs2 : List Value}
theorem LRows.none (w : World) (B : Nat) : LRows w B (Value.slice Option.none 0 0) [] [] := ⟨World.ownsRow_nil _ _ _ _, fun i l h => by simp at h, fun _ => rfl⟩
theorem LRows.below (h : LRows w B v LL hs) (hb : Below w.heap.size w w') : LRows w' B v LL hs :=
  ⟨own_below h.own hb (Nat.le_refl _), fun i l hi => by obtain ⟨A, c, e, o⟩ := h.row i l hi; exact ⟨A, c, e, own_below o hb (Nat.le_refl _)⟩, h.nil⟩
theorem LRows.lower (h : LRows w B v LL hs) (hB : B' ≤ B) : LRows w B' v LL hs :=
  ⟨own_lower h.own hB, fun i l hi => by obtain ⟨A, c, e, o⟩ := h.row i l hi; exact ⟨A, c, e, own_lower o hB⟩, h.nil⟩
theorem LRows.length (h : LRows w B v LL hs) : hs.length = LL.length := by have := h.own.1; omega
theorem LRows.one (h : LRows w B v LL hs) : ∀ u ∈ hs, u.oneCell' = true := by
  intro u hu
  obtain ⟨i, hi, rfl⟩ := List.getElem_of_mem hu
  have hl := h.length
  obtain ⟨A, c, e, _⟩ := h.row i LL[i] (List.getElem?_eq_getElem (by omega))
  rw [List.getElem?_eq_getElem hi] at e
  simp only [Option.some.injEq] at e
  rw [e]
  rfl
theorem blocks_apart {e e' : TypeId} {size size' n m : Nat} {xs ys : List Value} (h : w.ownsRow B e size v n xs) (h' : w.ownsRow B' e' size' v' m ys) (hne : e ≠ e') : v'.ownBlock = .none ∨ v'.ownBlock ≠ v.ownBlock := by
  rcases h'.2 with ⟨rfl, _⟩ | ⟨g, cap, cur, rfl, _, hg, _⟩
  · exact .inl rfl
  · refine .inr fun e => ?_
    rcases h.2 with ⟨rfl, _⟩ | ⟨g2, cap2, cur2, rfl, _, hg2, _⟩
    · simp [Value.ownBlock] at e
    · have : g = g2 := by simpa [Value.ownBlock] using e
      subst this
      rw [hg] at hg2
      simp only [Option.some.injEq, Obj.cells.injEq] at hg2
      exact hne hg2.2.1.symm
/-- rows appended to rows -/
theorem LRows.append (h : LRows w B v LL hs) (h2 : LRows w B v2 L2 hs2) (hown : w'.ownsRow B 22 1 v' (LL.length + L2.length) (hs ++ hs2)) (hg : w.grownBy w' v.ownBlock) (hn : L2 ≠ []) : LRows w' B v' (LL ++ L2) (hs ++ hs2) := by
  have keep : ∀ A c l, w.ownsRow B 3 1 (.slice A l.length c) l.length (icells l) → w'.ownsRow B 3 1 (.slice A l.length c) l.length (icells l) := fun A c l o => o.kept hg (blocks_apart h.own o (show (22 : TypeId) ≠ 3 by decide))
  refine ⟨by rw [List.length_append]; exact hown, fun i l hi => ?_, fun e => ?_⟩
  · have hl := h.length
    by_cases hlt : i < LL.length
    · rw [List.getElem?_append_left hlt] at hi
      obtain ⟨A, c, e, o⟩ := h.row i l hi
      exact ⟨A, c, by rw [List.getElem?_append_left (by omega)]; exact e, keep A c l o⟩
    · rw [List.getElem?_append_right (by omega)] at hi
      obtain ⟨A, c, e, o⟩ := h2.row _ l hi
      exact ⟨A, c, by rw [List.getElem?_append_right (by omega), hl]; exact e, keep A c l o⟩
  · simp at e
    exact absurd e.2 hn
end
/-- A call came back with lists of numbers. -/
def GotLL (w : World) (LL : List (List Int)) (e : Ending) (w' : World) : Prop := ∃ A c hs, e = .returned (.slice A LL.length c) ∧ LRows w' w.heap.size (.slice A LL.length c) LL hs ∧ Below w.heap.size w w'

set_option maxHeartbeats 1000000 in
set_option maxRecDepth 100000 in
theorem l1Own_all (q : List Int) (A : Option Addr) (c : Nat) (w : World) (hq : q.length ≤ 1048576) (hA : CRead w w.heap.size A (icells q)) (h0 : q = [] → A = none ∧ c = 0) :
    Calls Try.prog 101 #[.slice A q.length c] w fun e w' => ∃ A' c', e = .returned (.slice A' q.length c') ∧ w'.ownsRow w.heap.size 3 1 (.slice A' q.length c') q.length (icells q) ∧ Below w.heap.size w w' := by
  by_cases hz : q = []
  · obtain ⟨rfl, rfl⟩ := h0 hz
    subst hz
    obtain ⟨i0, hi, hz0, hz1, hz2⟩ := info_parts Try.infoInt
    have h1 : (w.alloc (.cells #[] 3)).ownsRow w.heap.size 3 1 (.slice (some ⟨w.heap.size, 0, none⟩) 0 0) 0 [] := World.ownsRow_made w #[] 0 (Nat.le_refl _) (Nat.zero_le _) rfl
    go_enter Try.func101, Try.ntmps101
    go_wp2_with (at_builtin; refine wpList_append_own_none rfl _ _ 22 rfl w.heap.size 3 i0 1 Try.underlying22 hi (.slice (some ⟨w.heap.size, 0, none⟩) 0 0) 0 [] rfl h1 rfl ?_)
    go_ret
    exact ⟨_, _, rfl, h1, by go_grown⟩
  · have hpos : 0 < q.length := by cases q with | nil => exact absurd rfl hz | cons x q => simp
    exact l1Own_any q A c w hq hpos hA

/-! ## The model's candidates -/
def fromQ (q : List Int) : Nat := match q.getLast? with | none => 0 | some x => x.toNat + 1
def candR (t : Nat → Nat → Bool) (n : Nat) (q : List Int) (a : Nat) : List Nat := (List.range' a (n - a)).filter fun b => q.all fun y => t b y.toNat
theorem candR_end (t : Nat → Nat → Bool) (n : Nat) (q : List Int) {a : Nat} (h : n ≤ a) : candR t n q a = [] := by unfold candR; rw [Nat.sub_eq_zero_of_le h]; rfl
theorem candR_no {t : Nat → Nat → Bool} {n : Nat} {q : List Int} {a : Nat} (h : a < n) (hk : (q.all fun y => t a y.toNat) = false) : candR t n q a = candR t n q (a + 1) := by
  unfold candR
  rw [show n - a = (n - (a + 1)) + 1 from by omega, List.range'_succ, List.filter_cons_of_neg (by simp [hk])]
theorem candR_yes {t : Nat → Nat → Bool} {n : Nat} {q : List Int} {a : Nat} (h : a < n) (hk : (q.all fun y => t a y.toNat) = true) : candR t n q a = a :: candR t n q (a + 1) := by
  unfold candR
  rw [show n - a = (n - (a + 1)) + 1 from by omega, List.range'_succ, List.filter_cons_of_pos (by simpa using hk)]
theorem candR_tied {t : Nat → Nat → Bool} (hs : ∀ i j, t i j = t j i) (n : Nat) (q : List Int) (a : Nat) : (candR t n q (a + 1)).filter (t a) = candR t n (q ++ [(a : Int)]) (fromQ (q ++ [(a : Int)])) := by
  unfold candR fromQ
  simp only [List.getLast?_append, List.getLast?_singleton, Option.some_or, Int.toNat_natCast]
  rw [List.filter_filter]
  refine List.filter_congr fun b _ => ?_
  rw [List.all_append]
  simp [hs a b, Bool.and_comm]
end Go.Proofs.Ytepoabbkalhifaa
/-
  A COPY OF A LIST of any length, and what an own row's slice looks like.
-/
namespace Go.Proofs.Ytepoabbkalhifaa
open Go.RowKit

theorem own_none {w : World} {B : Nat} {e : TypeId} {m c : Nat} {A : Option Addr} {xs : List Value} (h : w.ownsRow B e 1 (.slice A m c) m xs) : (A = none ∧ m = 0 ∧ c = 0) ∨ ∃ g, A = some ⟨g, 0, none⟩ := by
  rcases h.2 with ⟨h1, h2⟩ | ⟨g, cap, cur, hv, _⟩
  · simp only [Value.slice.injEq] at h1
    exact .inl ⟨h1.1, h2, h1.2.2⟩
  · simp only [Value.slice.injEq] at hv
    exact .inr ⟨g, hv.1⟩

theorem own_zero {w : World} {B : Nat} {e : TypeId} {m c : Nat} {A : Option Addr} {xs : List Value} (h : w.ownsRow B e 1 (.slice A m c) m xs) : A = none → c = 0 := by
  intro hA
  rcases own_none h with ⟨_, _, h3⟩ | ⟨g, h1⟩
  · exact h3
  · rw [hA] at h1; cases h1
set_option maxHeartbeats 4000000 in
set_option maxRecDepth 100000 in
theorem l1Own_row (q : List Int) (A : Option Addr) (c : Nat) (w : World) (hq : q.length ≤ 1048576) (hA : CRead w w.heap.size A (icells q)) (h0 : A = none → c = 0) :
    Calls Try.prog 101 #[.slice A q.length c] w fun e w' => ∃ A' c', e = .returned (.slice A' q.length c') ∧ w'.ownsRow w.heap.size 3 1 (.slice A' q.length c') q.length (icells q) ∧ Below w.heap.size w w' := by
  by_cases hz : q = []
  · cases A with
    | none => exact l1Own_all q none c w hq hA fun _ => ⟨rfl, h0 rfl⟩
    | some ad =>
      subst hz
      obtain ⟨i0, hi, hz0, hz1, hz2⟩ := info_parts Try.infoInt
      have h1 : (w.alloc (.cells #[] 3)).ownsRow w.heap.size 3 1 (.slice (some ⟨w.heap.size, 0, none⟩) 0 0) 0 [] := World.ownsRow_made w #[] 0 (Nat.le_refl _) (Nat.zero_le _) rfl
      go_enter Try.func101, Try.ntmps101
      go_wp2_with (at_builtin; refine wpList_append_own _ rfl _ _ 22 rfl w.heap.size 3 i0 _ 1 8 Try.underlying22 hi hz0 hz1 hz2 rfl (by decide) (.slice (some ⟨w.heap.size, 0, none⟩) 0 0) 0 [] rfl h1 ad 0 c [] rfl rfl (fun j u hj => by simp at hj) (by simp) (by unfold maxLen; omega) (by omega) (by simp) ?_; intro v1 w1 own1 gr1 _; have k1 : Below w.heap.size w w1 := ((Below.refl _ w).alloc (Nat.le_refl _) _).grown gr1 (by simp) (by intro m hm; simp [Value.ownBlock] at hm; omega); obtain ⟨A1, c1, rfl, _⟩ := own_shape own1)
      go_ret
      exact ⟨A1, c1, rfl, own1, k1⟩
  · exact l1Own_all q A c w hq hA fun e => absurd e hz
end Go.Proofs.Ytepoabbkalhifaa
/-
  PAINTINGS, THE MODEL's own small functions: two people, the place of a pair, its colour, a copy; by their contracts.
-/
namespace Go.Proofs.Ytepoabbkalhifaa
open Go.RowKit

/-- a painting and two different people of it -/
def twoX (p k : Int) (l : List Int) (a b : Int) : Bool := isX p k l && (decide (0 ≤ a ∧ a ≤ p - 1) && (decide (0 ≤ b ∧ b ≤ p - 1) && decide (a ≠ b)))
theorem twoX_parts {p k a b : Int} {l : List Int} (h : twoX p k l a b = true) : isX p k l = true ∧ (0 ≤ a ∧ a ≤ p - 1) ∧ (0 ≤ b ∧ b ≤ p - 1) ∧ a ≠ b := by
  simp only [twoX, Bool.and_eq_true, decide_eq_true_eq] at h
  exact ⟨h.1, h.2.1, h.2.2.1, h.2.2.2⟩
set_option maxHeartbeats 2000000 in
set_option maxRecDepth 100000 in
theorem ptTwo_any (p k : Int) (l : List Int) (A : Option Addr) (c : Nat) (a b : Int) (w : World) (hl : l.length ≤ 1048576) (hA : CRead w w.heap.size A (icells l)) :
    Calls Try.prog 67 #[.agg #[.int .i64 p, .int .i64 k, .slice A l.length c], .int .i64 a, .int .i64 b] w fun e w' => e = .returned (.bool (twoX p k l a b)) ∧ Below w.heap.size w w' := by
  have RA : CRead (w.alloc (Obj.cells #[.int .i64 p, .int .i64 k, .slice A l.length c] 27)) (w.alloc (Obj.cells #[.int .i64 p, .int .i64 k, .slice A l.length c] 27)).heap.size A (icells l) := (hA.below (B' := w.heap.size) (by go_grown) (Nat.le_refl _)).more (by go_size)
  cases hp : isX p k l with
  | false =>
    have e : twoX p k l a b = false := by simp [twoX, hp]
    rw [e]
    have Hp := Lib.hid hp
    clear hp e
    go_enter Try.func67, Try.ntmps67
    go_wp2_with fail
    refine (ptGood_any _ _ _ _ _ _ hl RA).mono ?_
    rw [Hp.out]
    rintro e w2 ⟨rfl, hb2⟩
    simp only [World.size_alloc] at hb2
    go_wp2
    go_ret
    exact ⟨rfl, Below.trans (b := _) (by go_grown) (hb2.mono (by omega))⟩
  | true =>
    have hr := (isX_parts hp).1
    obtain ⟨hr0, hr1⟩ := hr
    have Hp := Lib.hid hp
    by_cases ha : 0 ≤ a ∧ a ≤ p - 1
    · obtain ⟨ha0, ha1⟩ := ha
      by_cases hb : 0 ≤ b ∧ b ≤ p - 1
      · obtain ⟨hb0, hb1⟩ := hb
        obtain ⟨r, hr⟩ : ∃ r, (a != b) = r := ⟨_, rfl⟩
        have e : twoX p k l a b = r := by
          rw [← hr]
          simp only [twoX, hp, ha0, ha1, hb0, hb1, and_self, decide_true, Bool.true_and]
          by_cases hab : a = b <;> simp [hab]
        rw [e]
        clear hp e
        go_enter Try.func67, Try.ntmps67
        go_wp2_with fail
        refine (ptGood_any _ _ _ _ _ _ hl RA).mono ?_
        rw [Hp.out]
        rintro e w2 ⟨rfl, hb2⟩
        simp only [World.size_alloc] at hb2
        have c0 : w2.cell? ⟨w.heap.size, 0, none⟩ = some (.int .i64 p) := carry hb2 (by simp) (by omega)
        go_wp2_with fail
        refine (l1In_yes a 0 (p - 1) ha0 ha1 _).mono ?_
        rintro e w' ⟨rfl, rfl⟩
        go_wp2_with fail
        refine (l1In_yes b 0 (p - 1) hb0 hb1 _).mono ?_
        rintro e w' ⟨rfl, rfl⟩
        go_wp2
        go_ret
        exact ⟨by rw [← hr]; rfl, Below.trans (b := _) (by go_grown) (hb2.mono (by omega))⟩
      · have e : twoX p k l a b = false := by simp [twoX, hb]
        rw [e]
        clear hp e
        go_enter Try.func67, Try.ntmps67
        go_wp2_with fail
        refine (ptGood_any _ _ _ _ _ _ hl RA).mono ?_
        rw [Hp.out]
        rintro e w2 ⟨rfl, hb2⟩
        simp only [World.size_alloc] at hb2
        have c0 : w2.cell? ⟨w.heap.size, 0, none⟩ = some (.int .i64 p) := carry hb2 (by simp) (by omega)
        go_wp2_with fail
        refine (l1In_yes a 0 (p - 1) ha0 ha1 _).mono ?_
        rintro e w' ⟨rfl, rfl⟩
        go_wp2_with fail
        refine (l1In_no b 0 (p - 1) (by omega) _).mono ?_
        rintro e w' ⟨rfl, rfl⟩
        go_wp2
        go_ret
        exact ⟨rfl, Below.trans (b := _) (by go_grown) (hb2.mono (by omega))⟩
    · have e : twoX p k l a b = false := by simp [twoX, ha]
      rw [e]
      clear hp e
      go_enter Try.func67, Try.ntmps67
      go_wp2_with fail
      refine (ptGood_any _ _ _ _ _ _ hl RA).mono ?_
      rw [Hp.out]
      rintro e w2 ⟨rfl, hb2⟩
      simp only [World.size_alloc] at hb2
      have c0 : w2.cell? ⟨w.heap.size, 0, none⟩ = some (.int .i64 p) := carry hb2 (by simp) (by omega)
      go_wp2_with fail
      refine (l1In_no a 0 (p - 1) (by omega) _).mono ?_
      rintro e w' ⟨rfl, rfl⟩
      go_wp2
      go_ret
      exact ⟨rfl, Below.trans (b := _) (by go_grown) (hb2.mono (by omega))⟩
/-- the place, in the model's own words -/
theorem ptAt_num : ∀ n : Fin 9, ∀ a : Fin 8, ∀ b : Fin 8, a.val < b.val → b.val < n.val →
    ((a.val : Int) * (2 * (n.val : Int) - a.val - 1)).tdiv 2 + b.val - a.val - 1 = (atP n.val a.val b.val : Int) ∧ (0 ≤ (a.val : Int) * (2 * (n.val : Int) - a.val - 1) ∧ (a.val : Int) * (2 * (n.val : Int) - a.val - 1) ≤ 1000) ∧ (0 ≤ ((a.val : Int) * (2 * (n.val : Int) - a.val - 1)).tdiv 2 ∧ ((a.val : Int) * (2 * (n.val : Int) - a.val - 1)).tdiv 2 ≤ 1000) := by decide +kernel
set_option maxHeartbeats 2000000 in
set_option maxRecDepth 100000 in
theorem ptAt_any (n a b : Nat) (hn : n ≤ 8) (ha : a < n) (hb : b < n) (hab : a ≠ b) (w : World) :
    Calls Try.prog 73 #[.int .i64 n, .int .i64 a, .int .i64 b] w fun e w' => e = .returned (.int .i64 (atP n (min a b) (max a b))) ∧ w = w' := by
  rcases Nat.lt_or_gt_of_ne hab with h | h
  · rw [Nat.min_eq_left (by omega), Nat.max_eq_right (by omega)]
    obtain ⟨e, ⟨q0, q1⟩, r0, r1⟩ := ptAt_num ⟨n, by omega⟩ ⟨a, by omega⟩ ⟨b, by omega⟩ h hb
    simp only at e q0 q1 r0 r1
    have w1 : IntKind.i64.wrap ((a : Int) * (2 * (n : Int) - a - 1)) = (a : Int) * (2 * (n : Int) - a - 1) := wrap_small (by omega)
    have w2 : IntKind.i64.wrap (((a : Int) * (2 * (n : Int) - a - 1)).tdiv 2) = ((a : Int) * (2 * (n : Int) - a - 1)).tdiv 2 := wrap_small (by omega)
    have hgt : ¬ ((b : Int) < (a : Int)) := by omega
    rw [← e]
    clear e
    go_enter Try.func73, Try.ntmps73
    go_wp2
    go_ret
    exact ⟨rfl, rfl⟩
  · rw [Nat.min_eq_right (by omega), Nat.max_eq_left (by omega)]
    obtain ⟨e, ⟨q0, q1⟩, r0, r1⟩ := ptAt_num ⟨n, by omega⟩ ⟨b, by omega⟩ ⟨a, by omega⟩ h ha
    simp only at e q0 q1 r0 r1
    have w1 : IntKind.i64.wrap ((b : Int) * (2 * (n : Int) - b - 1)) = (b : Int) * (2 * (n : Int) - b - 1) := wrap_small (by omega)
    have w2 : IntKind.i64.wrap (((b : Int) * (2 * (n : Int) - b - 1)).tdiv 2) = ((b : Int) * (2 * (n : Int) - b - 1)).tdiv 2 := wrap_small (by omega)
    have hgt : (b : Int) < (a : Int) := by omega
    rw [← e]
    clear e
    go_enter Try.func73, Try.ntmps73
    go_wp2
    go_ret
    exact ⟨rfl, rfl⟩
set_option maxHeartbeats 2000000 in
set_option maxRecDepth 100000 in
theorem ptOf_any (n : Nat) (k : Int) (l : List Int) (A : Option Addr) (c : Nat) (a b : Nat) (w : World) (hx : isX n k l = true) (ha : a < n) (hb : b < n) (hab : a ≠ b) (hA : CRead w w.heap.size A (icells l)) :
    Calls Try.prog 68 #[.agg #[.int .i64 n, .int .i64 k, .slice A l.length c], .int .i64 a, .int .i64 b] w fun e w' => e = .returned (.int .i64 (colX n l a b)) ∧ Below w.heap.size w w' := by
  have hn := (isX_parts hx).1
  have hi : atP n (min a b) (max a b) < l.length := by
    rw [isX_len hx, Int.toNat_natCast]
    exact atP_lt (by omega) (by omega) (by omega)
  obtain ⟨i, hi2⟩ : ∃ i, atP n (min a b) (max a b) = i := ⟨_, rfl⟩
  rw [hi2] at hi
  obtain ⟨x, hx2⟩ := getSome l i hi
  have e : colX n l a b = x := by unfold colX; rw [hi2, List.getD_eq_getElem?_getD, hx2]; rfl
  rw [e]
  have call := fun X : World => ptAt_any n a b (by omega) ha hb hab X
  simp only [hi2] at call
  obtain ⟨bb, off, rfl, hbb, c0⟩ := (hA.below (B' := w.heap.size) (w' := w.alloc (Obj.cells #[.int .i64 n, .int .i64 k, .slice A l.length c] 27)) (by go_grown) (Nat.le_refl _)).int hx2
  have hii : (i : Int) < (l.length : Int) := by omega
  have Call := Lib.hid call
  clear call e hx2 hi2 hx hn
  obtain ⟨X, hX⟩ : ∃ X, w.alloc (Obj.cells #[.int .i64 n, .int .i64 k, .slice (some ⟨bb, off, none⟩) l.length c] 27) = X := ⟨_, rfl⟩
  have x0 : X.cell? ⟨w.heap.size, 0, none⟩ = some (.int .i64 n) := by rw [← hX]; simp
  have x2 : X.cell? ⟨w.heap.size, 2, none⟩ = some (.slice (some ⟨bb, off, none⟩) l.length c) := by rw [← hX]; simp
  have kX : Below w.heap.size w X := by rw [← hX]; go_grown
  rw [hX] at c0
  have HX := Lib.hid hX
  have KX := Lib.hid kX
  clear hX kX
  go_enter Try.func68, Try.ntmps68
  go_wp2_with fail
  rw [HX.out]
  go_quiet (first | (go_at_call 73; refine Calls.quiet_of_same ((Call.out _).mono fun _ _ ⟨he, hw⟩ => ⟨he, hw.symm⟩)))
  go_wp2
  go_ret
  exact ⟨rfl, ⟨KX.out.os, KX.out.tape, KX.out.output, KX.out.size, KX.out.block⟩⟩
set_option maxHeartbeats 2000000 in
set_option maxRecDepth 100000 in
theorem ptOwn_any (p k : Int) (l : List Int) (A : Option Addr) (c : Nat) (w : World) (hl : l.length ≤ 1048576) (hA : CRead w w.heap.size A (icells l)) (h0 : A = none → c = 0) :
    Calls Try.prog 72 #[.agg #[.int .i64 p, .int .i64 k, .slice A l.length c]] w (GotPaint w p k l) := by
  go_enter Try.func72, Try.ntmps72
  go_wp2
  obtain ⟨W, hW⟩ : ∃ W, (w.alloc (Obj.cells #[.int .i64 p, .int .i64 k, .slice A l.length c] 27)).alloc (Obj.cells #[.int .i64 0, .int .i64 0, .slice none 0 0] 27) = W := ⟨_, rfl⟩
  have a0 : W.cell? ⟨w.heap.size, 0, none⟩ = some (.int .i64 p) := by rw [← hW]; simp
  have a1 : W.cell? ⟨w.heap.size, 1, none⟩ = some (.int .i64 k) := by rw [← hW]; simp
  have a2 : W.cell? ⟨w.heap.size, 2, none⟩ = some (.slice A l.length c) := by rw [← hW]; simp
  have x0 : W.cell? ⟨w.heap.size + 1, 0, none⟩ = some (.int .i64 0) := by rw [← hW]; simp
  have x1 : W.cell? ⟨w.heap.size + 1, 1, none⟩ = some (.int .i64 0) := by rw [← hW]; simp
  have x2 : W.cell? ⟨w.heap.size + 1, 2, none⟩ = some (.slice none 0 0) := by rw [← hW]; simp
  have z0 : W.frozen? ⟨w.heap.size + 1, 0, none⟩ = false := by rw [← hW]; simp
  have z1 : W.frozen? ⟨w.heap.size + 1, 1, none⟩ = false := by rw [← hW]; simp
  have z2 : W.frozen? ⟨w.heap.size + 1, 2, none⟩ = false := by rw [← hW]; simp
  have kW : Below w.heap.size w W := by rw [← hW]; go_grown
  have sW : w.heap.size + 1 < W.heap.size := by rw [← hW]; simp
  rw [hW]
  clear hW
  go_region_held3 (fun w' => w'.cell? ⟨w.heap.size, 0, none⟩ = some (.int .i64 p) ∧ w'.cell? ⟨w.heap.size, 1, none⟩ = some (.int .i64 k) ∧ w'.cell? ⟨w.heap.size, 2, none⟩ = some (.slice A l.length c)) (first | exact ⟨a0, a1, a2⟩ | exact ⟨b0, b1, b2⟩ | exact ⟨(World.cell?_setCell_other _ _ _ _ (by simp)).trans ((World.cell?_setCell_other _ _ _ _ (by simp)).trans ((World.cell?_setCell_other _ _ _ _ (by simp)).trans b0)), (World.cell?_setCell_other _ _ _ _ (by simp)).trans ((World.cell?_setCell_other _ _ _ _ (by simp)).trans ((World.cell?_setCell_other _ _ _ _ (by simp)).trans b1)), (World.cell?_setCell_other _ _ _ _ (by simp)).trans ((World.cell?_setCell_other _ _ _ _ (by simp)).trans ((World.cell?_setCell_other _ _ _ _ (by simp)).trans b2))⟩) ((first
    | (go_at_call 101; refine (l1Own_row l A c _ hl ((hA.below kW.drew (Nat.le_refl _)).more kW.size) h0).mono ?_; rintro e w1 ⟨A1, c1, rfl, own1, hb1⟩; have g1 : Below W.heap.size W w1 := (Below.refl _ _).drew.trans hb1; have b0 := carry g1 a0 (by omega); have b1 := carry g1 a1 (by omega); have b2 := carry g1 a2 (by omega); have y0 := carry g1 x0 (by omega); have y1 := carry g1 x1 (by omega); have y2 := carry g1 x2 (by omega); have v0 := (g1.frozen (p := ⟨w.heap.size + 1, 0, none⟩) sW).trans z0; have v1 := (g1.frozen (p := ⟨w.heap.size + 1, 1, none⟩) sW).trans z1; have v2 := (g1.frozen (p := ⟨w.heap.size + 1, 2, none⟩) sW).trans z2; have s1 := g1.size)
    | skip))
  go_wp2
  refine bodyPost_ret (v := .agg #[.int .i64 p, .int .i64 k, .slice A1 l.length c1]) (by simp [results, Try.results72, go_sem, y0, y1, y2]) rfl ?_
  exact ⟨A1, c1, rfl, own_lower (ownsRow_setCell_below (ownsRow_setCell_below (ownsRow_setCell_below own1 (a := ⟨w.heap.size + 1, 0, none⟩) sW _) (a := ⟨w.heap.size + 1, 1, none⟩) sW _) (a := ⟨w.heap.size + 1, 2, none⟩) sW _) (show w.heap.size ≤ W.heap.size by omega),
    (((kW.trans (g1.mono kW.size)).setCell (p := ⟨w.heap.size + 1, 0, none⟩) (by simp) _).setCell (p := ⟨w.heap.size + 1, 1, none⟩) (by simp) _).setCell (p := ⟨w.heap.size + 1, 2, none⟩) (by simp) _⟩
theorem colIn_any (k x : Int) (w : World) : Calls Try.prog 71 #[.int .i64 x, .int .i64 0, .int .i64 (k - 1)] w fun e w' => e = .returned (.bool (isColB k x)) ∧ Below w.heap.size w w' :=
  (l1In_any x 0 (k - 1) w).mono fun _ _ h => by
    have e : l1InB x 0 (k - 1) = isColB k x := by
      unfold l1InB isColB
      by_cases h0 : 0 ≤ x <;> by_cases h1 : x < k <;> simp [h0, h1] <;> omega
    rw [e] at h
    exact ⟨h.1, h.2 ▸ Below.refl _ _⟩
end Go.Proofs.Ytepoabbkalhifaa
/-
  PEOPLE RENAMED, as plain lists and as tables. Nothing here speaks of the program.
-/
namespace Go.Proofs.Ytepoabbkalhifaa
open Go.RowKit

/-- a list of all p people, each once -/
def isNamingI (p : Int) (q : List Int) : Bool := decide ((q.length : Int) = p) && (q.all (fun x => decide (0 ≤ x ∧ x < p)) && decide q.Nodup)
theorem isNamingI_len {p : Int} {q : List Int} (h : (q.length : Int) ≠ p) : isNamingI p q = false := by simp [isNamingI, h]
theorem isNamingI_bad {p : Int} {q : List Int} {k : Nat} {x : Int} (hx : q[k]? = some x) (h : ¬ (0 ≤ x ∧ x < p)) : isNamingI p q = false := by
  cases he : isNamingI p q with
  | false => rfl
  | true =>
    simp only [isNamingI, Bool.and_eq_true, decide_eq_true_eq, List.all_eq_true] at he
    exact absurd (he.2.1 x (List.mem_of_getElem? hx)) h
theorem isNamingI_dup {p : Int} {q : List Int} {k : Nat} {x : Int} (hx : q[k]? = some x) (h : x ∈ q.take k) : isNamingI p q = false := by
  cases he : isNamingI p q with
  | false => rfl
  | true =>
    simp only [isNamingI, Bool.and_eq_true, decide_eq_true_eq] at he
    have hn := he.2.2
    rw [List.Nodup, List.pairwise_iff_getElem] at hn
    obtain ⟨i, hi, e⟩ := List.getElem_of_mem h
    rw [List.length_take] at hi
    rw [List.getElem_take] at e
    have hk : k < q.length := (List.getElem?_eq_some_iff.1 hx).1
    rw [List.getElem?_eq_getElem hk] at hx
    simp only [Option.some.injEq] at hx
    exact absurd (e.trans hx.symm) (hn i k (by omega) hk (by omega))
theorem isNamingI_of {p : Int} {q : List Int} (hl : (q.length : Int) = p) (h : ∀ (k : Nat) (x : Int), k < q.length → q[k]? = some x → (0 ≤ x ∧ x < p) ∧ x ∉ q.take k) : isNamingI p q = true := by
  simp only [isNamingI, Bool.and_eq_true, decide_eq_true_eq, List.all_eq_true]
  refine ⟨hl, fun x hx => ?_, ?_⟩
  · obtain ⟨i, hi, rfl⟩ := List.getElem_of_mem hx
    exact (h i _ hi (List.getElem?_eq_getElem hi)).1
  · rw [List.Nodup, List.pairwise_iff_getElem]
    intro i j hi hj hij e
    refine (h j _ hj (List.getElem?_eq_getElem hj)).2 ?_
    rw [← e, List.mem_iff_getElem?]
    exact ⟨i, by rw [List.getElem?_take, if_pos hij, List.getElem?_eq_getElem hi]⟩
theorem isNamingI_parts {p : Int} {q : List Int} (h : isNamingI p q = true) : (q.length : Int) = p ∧ (∀ x ∈ q, 0 ≤ x ∧ x < p) ∧ q.Nodup := by
  simp only [isNamingI, Bool.and_eq_true, decide_eq_true_eq, List.all_eq_true] at h
  exact h

theorem nodup_le : ∀ (l m : List Int), l.Nodup → (∀ x ∈ l, x ∈ m) → l.length ≤ m.length
  | [], m, _, _ => Nat.zero_le _
  | a :: l, m, hn, hs => by
    rw [List.nodup_cons] at hn
    have h1 := nodup_le l (m.erase a) hn.2 fun x hx => by
      have hne : x ≠ a := by rintro rfl; exact hn.1 hx
      exact (List.mem_erase_of_ne hne).2 (hs x (List.mem_cons_of_mem _ hx))
    have ha := hs a (List.mem_cons_self ..)
    have h2 := List.length_erase_of_mem ha
    have h3 := List.length_pos_of_mem ha
    rw [List.length_cons]
    omega
theorem naming_all {p : Int} {q : List Int} (h : isNamingI p q = true) {i : Nat} (hi : (i : Int) < p) : (i : Int) ∈ q := by
  obtain ⟨hl, hm, hn⟩ := isNamingI_parts h
  apply Classical.byContradiction
  intro hc
  have := nodup_le ((i : Int) :: q) ((List.range q.length).map fun k : Nat => (k : Int)) (List.nodup_cons.2 ⟨hc, hn⟩) (by
    intro x hx
    rw [List.mem_map]
    rcases List.mem_cons.1 hx with rfl | hx
    · exact ⟨i, by rw [List.mem_range]; omega, rfl⟩
    · have := hm x hx
      exact ⟨x.toNat, by rw [List.mem_range]; omega, by omega⟩)
  rw [List.length_cons, List.length_map, List.length_range] at this
  omega

/-- the name of a person -/
def nameI (q : List Int) (x : Int) : Int := q.getD x.toNat 0
theorem nameI_at {q : List Int} {i : Nat} {x : Int} (hx : q[i]? = some x) : nameI q i = x := by
  unfold nameI
  rw [List.getD_eq_getElem?_getD, Int.toNat_natCast, hx]
  rfl
/-- who has a name -/
def whoI (q : List Int) (i : Nat) : Nat := q.idxOf (i : Int)
theorem whoI_at {q : List Int} (hn : q.Nodup) {a i : Nat} (h : q[a]? = some (i : Int)) : whoI q i = a := by
  have ha : a < q.length := (List.getElem?_eq_some_iff.1 h).1
  rw [List.getElem?_eq_getElem ha] at h
  simp only [Option.some.injEq] at h
  unfold whoI
  rw [← h]
  exact hn.idxOf_getElem a ha
theorem whoI_name {p : Int} {q : List Int} (h : isNamingI p q = true) {i : Nat} (hi : (i : Int) < p) : q[whoI q i]? = some (i : Int) := by
  have hm := naming_all h hi
  unfold whoI
  have hlt := List.idxOf_lt_length_of_mem hm
  rw [List.getElem?_eq_getElem hlt, List.getElem_idxOf]
theorem whoI_lt {p : Int} {q : List Int} (h : isNamingI p q = true) {i : Nat} (hi : (i : Int) < p) : (whoI q i : Int) < p := by
  have := (List.getElem?_eq_some_iff.1 (whoI_name h hi)).1
  have hl := (isNamingI_parts h).1
  omega

/-- the table renamed -/
def namedT (q : List Int) (t : Nat → Nat → Bool) : Nat → Nat → Bool := fun i j => t (whoI q i) (whoI q j)
/-- in the middle of being filled -/
def namedTo (q : List Int) (t : Nat → Nat → Bool) (a b : Nat) : Nat → Nat → Bool := fun i j => if whoI q i < a ∨ whoI q i = a ∧ whoI q j < b then t (whoI q i) (whoI q j) else false
theorem namedTo_start (q : List Int) (t : Nat → Nat → Bool) : namedTo q t 0 0 = fun _ _ => false := by funext i j; simp [namedTo]
theorem namedTo_next {n : Nat} {q : List Int} (h : isNamingI n q = true) (t : Nat → Nat → Bool) {a b x y : Nat} (hx : q[a]? = some (x : Int)) (hy : q[b]? = some (y : Int)) :
    ∀ i j, i < n → j < n → upd (namedTo q t a b) x y (t a b) i j = namedTo q t a (b + 1) i j := by
  intro i j hi hj
  have hn := (isNamingI_parts h).2.2
  unfold upd namedTo
  have ex := whoI_at hn hx
  have ey := whoI_at hn hy
  by_cases hc : i = x ∧ j = y
  · obtain ⟨rfl, rfl⟩ := hc
    rw [if_pos ⟨rfl, rfl⟩, ex, ey, if_pos (by omega)]
  · rw [if_neg hc]
    have hne : ¬ (whoI q i = a ∧ whoI q j = b) := by
      rintro ⟨e1, e2⟩
      have h1 := whoI_name h (i := i) (by omega)
      have h2 := whoI_name h (i := j) (by omega)
      rw [e1, hx] at h1
      rw [e2, hy] at h2
      simp only [Option.some.injEq] at h1 h2
      exact hc ⟨by omega, by omega⟩
    have : (whoI q i < a ∨ whoI q i = a ∧ whoI q j < b) ↔ (whoI q i < a ∨ whoI q i = a ∧ whoI q j < b + 1) := by omega
    simp only [this]
theorem namedTo_row {n : Nat} {q : List Int} (h : isNamingI n q = true) (t : Nat → Nat → Bool) (a : Nat) : ∀ i j, i < n → j < n → namedTo q t a n i j = namedTo q t (a + 1) 0 i j := by
  intro i j hi hj
  have := whoI_lt h (i := j) (by omega)
  unfold namedTo
  have : (whoI q i < a ∨ whoI q i = a ∧ whoI q j < n) ↔ (whoI q i < a + 1 ∨ whoI q i = a + 1 ∧ whoI q j < 0) := by omega
  simp only [this]
theorem namedTo_all {n : Nat} {q : List Int} (h : isNamingI n q = true) (t : Nat → Nat → Bool) : ∀ i j, i < n → j < n → namedTo q t n 0 i j = namedT q t i j := by
  intro i j hi hj
  have := whoI_lt h (i := i) (by omega)
  unfold namedTo namedT
  rw [if_pos (by omega)]

/-! ## Pairs, sorted -/
def pairI (a b : Int) : Int × Int := (min a b, max a b)
def sortP (l : PL) : PL := l.mergeSort fun x y => !pairLess y x
theorem pairLess_plt {a b : Int × Int} : pairLess a b = true ↔ plt a b := by unfold pairLess plt; simp
theorem sortP_perm (l : PL) : (sortP l).Perm l := List.mergeSort_perm _ _
theorem sortP_mem {l : PL} {r : Int × Int} : r ∈ sortP l ↔ r ∈ l := (sortP_perm l).mem_iff
theorem sortP_length (l : PL) : (sortP l).length = l.length := (sortP_perm l).length_eq
theorem sortP_sorted {l : PL} (hn : l.Nodup) : (sortP l).Pairwise plt := by
  have h := List.pairwise_mergeSort (le := fun x y : Int × Int => !pairLess y x) (by
    intro a b c
    simp only [Bool.not_eq_true', ← Bool.not_eq_true, pairLess_plt]
    unfold plt
    omega) (by
    intro a b
    simp only [Bool.or_eq_true, Bool.not_eq_true', ← Bool.not_eq_true, pairLess_plt]
    unfold plt
    omega) l
  have hn' : (sortP l).Nodup := (sortP_perm l).nodup_iff.2 hn
  refine (h.and hn').imp fun {a b} hab => ?_
  obtain ⟨h1, h2⟩ := hab
  simp only [Bool.not_eq_true', ← Bool.not_eq_true, pairLess_plt] at h1
  unfold plt at h1 ⊢
  apply Classical.byContradiction
  intro hc
  exact h2 (Prod.ext (by omega) (by omega))
/-- the pairs of people renamed, as they come -/
def namesP (l : PL) (q : List Int) : PL := l.map fun r => pairI (nameI q r.1) (nameI q r.2)
theorem namesP_snoc (l : PL) (q : List Int) (x y : Int) : namesP (l ++ [(x, y)]) q = namesP l q ++ [pairI (nameI q x) (nameI q y)] := by simp [namesP]
theorem namesP_length (l : PL) (q : List Int) : (namesP l q).length = l.length := by simp [namesP]
theorem name_of {p : Int} {q : List Int} (h : isNamingI p q = true) {x : Int} (hx : 0 ≤ x ∧ x < p) : ∃ i : Nat, nameI q x = i ∧ (i : Int) < p ∧ q[x.toNat]? = some (i : Int) ∧ whoI q i = x.toNat := by
  obtain ⟨hl, hm, hn⟩ := isNamingI_parts h
  obtain ⟨y, hy⟩ := getSome q x.toNat (by omega)
  have h1 := hm y (List.mem_of_getElem? hy)
  have e : ((x.toNat : Nat) : Int) = x := by omega
  have h2 := nameI_at hy
  rw [e] at h2
  refine ⟨y.toNat, by omega, by omega, by rw [hy]; congr 1; omega, whoI_at hn ?_⟩
  rw [hy]
  congr 1
  omega
theorem namesP_nodup {p : Int} {l : PL} {q : List Int} (hp : isP p l = true) (h : isNamingI p q = true) : (namesP l q).Nodup := by
  obtain ⟨_, _, hm, hs⟩ := isP_list hp
  unfold namesP
  rw [List.Nodup, List.pairwise_map]
  refine List.Pairwise.imp_of_mem (fun {r s} hr hs' hlt e => ?_) hs
  have a0 := hm r hr
  have b0 := hm s hs'
  obtain ⟨i1, e1, _, _, w1⟩ := name_of h (x := r.1) (by omega)
  obtain ⟨i2, e2, _, _, w2⟩ := name_of h (x := r.2) (by omega)
  obtain ⟨i3, e3, _, _, w3⟩ := name_of h (x := s.1) (by omega)
  obtain ⟨i4, e4, _, _, w4⟩ := name_of h (x := s.2) (by omega)
  rw [e1, e2, e3, e4] at e
  unfold pairI at e
  simp only [Prod.mk.injEq] at e
  have hc : i1 = i3 ∧ i2 = i4 ∨ i1 = i4 ∧ i2 = i3 := by omega
  unfold plt at hlt
  rcases hc with ⟨c1, c2⟩ | ⟨c1, c2⟩
  · subst c1; subst c2; omega
  · subst c1; subst c2; omega
theorem tabP_named {n : Nat} {l : PL} {q : List Int} (hp : isP n l = true) (h : isNamingI n q = true) : tabP n (namedT q (adj l)) = sortP (namesP l q) := by
  obtain ⟨_, h12, hm, hs⟩ := isP_list hp
  refine sorted_ext (filter_list (by omega) _).2.2.2 (sortP_sorted (namesP_nodup hp h)) fun r => ?_
  unfold tabP
  rw [List.mem_filter, mem_allP, sortP_mem]
  unfold namesP
  rw [List.mem_map]
  constructor
  · rintro ⟨⟨h0, h1, h2⟩, ht⟩
    have w1 := whoI_name h (i := r.1.toNat) (by omega)
    have w2 := whoI_name h (i := r.2.toNat) (by omega)
    unfold namedT adj at ht
    rw [Bool.or_eq_true, List.contains_iff_mem, List.contains_iff_mem] at ht
    rcases ht with ht | ht
    · refine ⟨_, ht, ?_⟩
      simp only
      rw [nameI_at w1, nameI_at w2]
      unfold pairI
      exact Prod.ext (by simp only; omega) (by simp only; omega)
    · refine ⟨_, ht, ?_⟩
      simp only
      rw [nameI_at w1, nameI_at w2]
      unfold pairI
      exact Prod.ext (by simp only; omega) (by simp only; omega)
  · rintro ⟨s, hsl, rfl⟩
    have b0 := hm s hsl
    obtain ⟨i1, e1, l1, _, w1⟩ := name_of h (x := s.1) (by omega)
    obtain ⟨i2, e2, l2, _, w2⟩ := name_of h (x := s.2) (by omega)
    rw [e1, e2]
    have hne : i1 ≠ i2 := by
      rintro rfl
      omega
    unfold pairI namedT adj
    have d1 : ((s.1.toNat : Nat) : Int) = s.1 := by omega
    have d2 : ((s.2.toNat : Nat) : Int) = s.2 := by omega
    rcases Nat.lt_or_ge i1 i2 with hlt | hge
    · have m1 : min (i1 : Int) i2 = i1 := by omega
      have m2 : max (i1 : Int) i2 = i2 := by omega
      rw [m1, m2]
      refine ⟨⟨by simp only; omega, by simp only; omega, by simp only; omega⟩, ?_⟩
      simp only [Int.toNat_natCast, w1, w2, d1, d2, Bool.or_eq_true, List.contains_iff_mem]
      exact .inl hsl
    · have m1 : min (i1 : Int) i2 = i2 := by omega
      have m2 : max (i1 : Int) i2 = i1 := by omega
      rw [m1, m2]
      refine ⟨⟨by simp only; omega, by simp only; omega, by simp only; omega⟩, ?_⟩
      simp only [Int.toNat_natCast, w1, w2, d1, d2, Bool.or_eq_true, List.contains_iff_mem]
      exact .inr hsl
end Go.Proofs.Ytepoabbkalhifaa
/-
  'AreFriends': the model's and the program's, by their contracts.
-/
namespace Go.Proofs.Ytepoabbkalhifaa
open Go.RowKit

/-! ## People -/
def isMan (p a : Int) : Bool := decide (0 ≤ a ∧ a < p)
theorem isMan_yes {p a : Int} (h : 0 ≤ a ∧ a < p) : isMan p a = true := decide_eq_true h
theorem isMan_no {p a : Int} (h : ¬ (0 ≤ a ∧ a < p)) : isMan p a = false := decide_eq_false h
set_option maxHeartbeats 400000 in
theorem isPerson_any (p a : Int) (A : Option Addr) (n c : Nat) (w : World) :
    Calls Try.prog 99 #[.agg #[.int .i64 p, .slice A n c], .int .i64 a] w fun e w' => e = .returned (.bool (isMan p a)) ∧ Below w.heap.size w w' := by
  by_cases h0 : 0 ≤ a
  · by_cases h1 : a < p
    · rw [isMan_yes ⟨h0, h1⟩]
      go_enter Try.func99, Try.ntmps99
      go_wp2
      go_ret
      exact ⟨rfl, by go_grown⟩
    · rw [isMan_no (by omega)]
      go_enter Try.func99, Try.ntmps99
      go_wp2
      go_ret
      exact ⟨rfl, by go_grown⟩
  · rw [isMan_no (by omega)]
    go_enter Try.func99, Try.ntmps99
    go_wp2
    go_ret
    exact ⟨rfl, by go_grown⟩

/-- a party and two different people -/
def isTwo (p : Int) (l : PL) (a b : Int) : Bool := isP p l && isMan p a && isMan p b && decide (a ≠ b)
theorem isTwo_parts {p : Int} {l : PL} {a b : Int} (h : isTwo p l a b = true) : isP p l = true ∧ (0 ≤ a ∧ a < p) ∧ (0 ≤ b ∧ b < p) ∧ a ≠ b := by
  simp only [isTwo, isMan, Bool.and_eq_true, decide_eq_true_eq] at h
  exact ⟨h.1.1.1, h.1.1.2, h.1.2, h.2⟩

/-! ## The pair of two people; whether it is among pairs -/
def indexP (x y : Int) (l : PL) : Int := if l.contains (x, y) then (l.idxOf (x, y) : Int) else -1
end Go.Proofs.Ytepoabbkalhifaa
/-
  'AreFriends': the model's and the program's, by their contracts.
-/
namespace Go.Proofs.Ytepoabbkalhifaa
open Go.RowKit

def areF (l : PL) (a b : Int) : Bool := l.contains (min a b, max a b)
def resAreFriends (p : Int) (l : PL) (a b : Int) : Bool × Bool := if isTwo p l a b then (areF l a b, true) else (false, false)
theorem adj_areF {n : Nat} {l : PL} (h : isP n l = true) {i j : Nat} (hij : i ≠ j) : adj l i j = areF l i j := by
  unfold areF
  rcases Nat.lt_or_gt_of_ne hij with h1 | h1
  · rw [adj_pair h h1, Int.min_eq_left (by omega), Int.max_eq_right (by omega)]
  · rw [adj_comm, adj_pair h h1, Int.min_eq_right (by omega), Int.max_eq_left (by omega)]

end Go.Proofs.Ytepoabbkalhifaa
/-
  TWO PAIRS EXCHANGED, as plain lists and as tables. Nothing here speaks of the program.
-/
namespace Go.Proofs.Ytepoabbkalhifaa
open Go.RowKit

/-- four people of p, each one another -/
def fourI (p a b c d : Int) : Bool := decide ((0 ≤ a ∧ a < p) ∧ (0 ≤ b ∧ b < p) ∧ (0 ≤ c ∧ c < p) ∧ (0 ≤ d ∧ d < p) ∧ a ≠ b ∧ a ≠ c ∧ a ≠ d ∧ b ≠ c ∧ b ≠ d ∧ c ≠ d)
theorem fourI_parts {p a b c d : Int} (h : fourI p a b c d = true) : (0 ≤ a ∧ a < p) ∧ (0 ≤ b ∧ b < p) ∧ (0 ≤ c ∧ c < p) ∧ (0 ≤ d ∧ d < p) ∧ a ≠ b ∧ a ≠ c ∧ a ≠ d ∧ b ≠ c ∧ b ≠ d ∧ c ≠ d := of_decide_eq_true h
theorem fourI_not {p a b c d : Int} (h : ¬ ((0 ≤ a ∧ a < p) ∧ (0 ≤ b ∧ b < p) ∧ (0 ≤ c ∧ c < p) ∧ (0 ≤ d ∧ d < p) ∧ a ≠ b ∧ a ≠ c ∧ a ≠ d ∧ b ≠ c ∧ b ≠ d ∧ c ≠ d)) : fourI p a b c d = false := decide_eq_false h
/-- the pairs that can be exchanged -/
def canX (l : PL) (a b c d : Int) : Bool := (areF l a b && areF l c d) && (!areF l a c && !areF l b d)
def exchP (n : Nat) (l : PL) (a b c d : Int) : PL := (allP n).filter fun q => if q = (min b d, max b d) then true else if q = (min a c, max a c) then true else if q = (min c d, max c d) then false else if q = (min a b, max a b) then false else l.contains q
def resExchangePairs (p : Int) (l : PL) (a b c d : Int) : Int × PL × Bool := if isP p l && fourI p a b c d && canX l a b c d then (p, exchP p.toNat l a b c d, true) else (0, [], false)
theorem resExchangePairs_len (p : Int) (l : PL) (a b c d : Int) : (resExchangePairs p l a b c d).2.1.length ≤ 1048576 := by
  unfold resExchangePairs
  split
  · rename_i h
    simp only [Bool.and_eq_true] at h
    have := isP_range h.1.1
    exact Nat.le_trans (filter_length_le (n := p.toNat) (by omega) _) (by omega)
  · simp
/-- a table set at a pair, both ways -/
def upd2 (t : Nat → Nat → Bool) (a b : Nat) (x : Bool) : Nat → Nat → Bool := upd (upd t a b x) b a x
theorem upd2_at {t : Nat → Nat → Bool} {a b : Nat} {x : Bool} {i j : Nat} (hij : i < j) : upd2 t a b x i j = if (((i : Int), (j : Int)) : Int × Int) = (min (a : Int) b, max (a : Int) b) then x else t i j := by
  unfold upd2 upd
  by_cases h1 : i = b ∧ j = a
  · rw [if_pos h1, if_pos]
    simp only [Prod.mk.injEq]
    omega
  · by_cases h2 : i = a ∧ j = b
    · rw [if_neg h1, if_pos h2, if_pos]
      simp only [Prod.mk.injEq]
      omega
    · rw [if_neg h1, if_neg h2, if_neg]
      simp only [Prod.mk.injEq]
      omega
theorem tabP_exch {n : Nat} {l : PL} (h : isP n l = true) (a b c d : Nat) : tabP n (upd2 (upd2 (upd2 (upd2 (adj l) a b false) c d false) a c true) b d true) = exchP n l a b c d := by
  unfold tabP exchP
  refine List.filter_congr fun q hq => ?_
  have hm := mem_allP.1 hq
  obtain ⟨u, v⟩ := q
  obtain ⟨i, rfl⟩ : ∃ i : Nat, u = i := ⟨u.toNat, by simp at hm; omega⟩
  obtain ⟨j, rfl⟩ : ∃ j : Nat, v = j := ⟨v.toNat, by simp at hm; omega⟩
  simp only at hm
  have hij : i < j := by omega
  simp only [Int.toNat_natCast, upd2_at hij, adj_pair h hij]

/-! ## As the program makes them -/
def givenP (a b c d : Int) : PL := [pairI a c, pairI b d]
def takenP (a b c d : Int) : PL := [pairI a b, pairI c d]
def leftP (l : PL) (a b c d : Int) : PL := l.filter fun r => decide (¬ (r = pairI a b ∨ r = pairI c d))
def madeP (l : PL) (a b c d : Int) : PL := givenP a b c d ++ leftP l a b c d
theorem taken_contains (a b c d : Int) (r : Int × Int) : (takenP a b c d).contains r = decide (r = pairI a b ∨ r = pairI c d) := by
  rw [Bool.eq_iff_iff, List.contains_iff_mem]
  simp [takenP]
theorem given_contains (a b c d : Int) (r : Int × Int) : (givenP a b c d).contains r = decide (r = pairI a c ∨ r = pairI b d) := by
  rw [Bool.eq_iff_iff, List.contains_iff_mem]
  simp [givenP]
theorem leftP_snoc (l : PL) (a b c d : Int) (r : Int × Int) : leftP (l ++ [r]) a b c d = leftP l a b c d ++ if (takenP a b c d).contains r then [] else [r] := by
  unfold leftP
  rw [List.filter_append, taken_contains]
  congr 1
  by_cases h : r = pairI a b ∨ r = pairI c d
  · rw [List.filter_cons_of_neg (by simp [h]), if_pos (decide_eq_true h)]
    rfl
  · rw [List.filter_cons_of_pos (by simp [h]), decide_eq_false h]
    rfl
theorem areF_mem {l : PL} {a b : Int} : areF l a b = true ↔ pairI a b ∈ l := by unfold areF pairI; exact List.contains_iff_mem
theorem left_count (l : PL) {a b c d : Int} (hne : pairI a b ≠ pairI c d) : (leftP l a b c d).length + l.count (pairI a b) + l.count (pairI c d) = l.length := by
  unfold leftP
  generalize pairI a b = x at hne ⊢
  generalize pairI c d = y at hne ⊢
  induction l with
  | nil => rfl
  | cons r l ih =>
    by_cases h1 : r = x
    · subst h1
      rw [List.filter_cons_of_neg (by simp), List.count_cons_self, List.count_cons_of_ne hne, List.length_cons]
      omega
    · by_cases h2 : r = y
      · subst h2
        rw [List.filter_cons_of_neg (by simp), List.count_cons_self, List.count_cons_of_ne (Ne.symm hne), List.length_cons]
        omega
      · rw [List.filter_cons_of_pos (by simp [h1, h2]), List.count_cons_of_ne h1, List.count_cons_of_ne h2, List.length_cons, List.length_cons]
        omega
theorem plt_nodup {l : PL} (h : l.Pairwise plt) : l.Nodup := List.Pairwise.imp (fun {x y} hxy e => by subst e; unfold plt at hxy; omega) h
theorem made_len {n : Nat} {l : PL} {a b c d : Int} (hp : isP n l = true) (h4 : fourI n a b c d = true) : (madeP l a b c d).length = l.length ↔ areF l a b = true ∧ areF l c d = true := by
  obtain ⟨_, _, _, hs⟩ := isP_list hp
  have hnd := plt_nodup hs
  have h := fourI_parts h4
  have hne : pairI a b ≠ pairI c d := by unfold pairI; simp only [ne_eq, Prod.mk.injEq]; omega
  have hc := left_count l hne
  have h1 := hnd.count (a := pairI a b)
  have h2 := hnd.count (a := pairI c d)
  have e : (madeP l a b c d).length = 2 + (leftP l a b c d).length := by simp [madeP, givenP]; omega
  rw [e, areF_mem, areF_mem]
  by_cases m1 : pairI a b ∈ l <;> by_cases m2 : pairI c d ∈ l <;> simp only [m1, m2, if_true, if_false] at h1 h2 <;> simp only [m1, m2, and_self, and_true, and_false, iff_true, iff_false] <;> omega
theorem made_sorted {n : Nat} {l : PL} {a b c d : Int} (hp : isP n l = true) (h4 : fourI n a b c d = true) (hac : areF l a c = false) (hbd : areF l b d = false) : sortP (madeP l a b c d) = exchP n l a b c d := by
  obtain ⟨_, _, hm, hs⟩ := isP_list hp
  have h := fourI_parts h4
  have n1 : pairI a c ∉ l := fun hh => by rw [areF_mem.2 hh] at hac; cases hac
  have n2 : pairI b d ∉ l := fun hh => by rw [areF_mem.2 hh] at hbd; cases hbd
  have hnd : (madeP l a b c d).Nodup := by
    unfold madeP
    rw [List.nodup_append]
    refine ⟨?_, (plt_nodup hs).sublist List.filter_sublist, ?_⟩
    · simp only [givenP, List.nodup_cons, List.mem_singleton, List.not_mem_nil, not_false_eq_true, List.nodup_nil, and_true]
      unfold pairI
      simp only [Prod.mk.injEq]
      omega
    · intro x hx y hy e
      subst e
      have hl := (List.mem_filter.1 hy).1
      simp only [givenP, List.mem_cons, List.not_mem_nil, or_false] at hx
      rcases hx with rfl | rfl
      · exact n1 hl
      · exact n2 hl
  refine sorted_ext (sortP_sorted hnd) ((sorted_allP n).filter _) fun r => ?_
  unfold exchP
  rw [sortP_mem, List.mem_filter, mem_allP]
  simp only [madeP, givenP, leftP, List.mem_append, List.mem_cons, List.not_mem_nil, or_false, List.mem_filter, decide_eq_true_eq, not_or]
  constructor
  · rintro ((rfl | rfl) | ⟨hr, h1, h2⟩)
    · refine ⟨by unfold pairI; simp only; omega, ?_⟩
      by_cases e : pairI a c = (min b d, max b d)
      · rw [if_pos e]
      · rw [if_neg e, if_pos (show pairI a c = (min a c, max a c) from rfl)]
    · exact ⟨by unfold pairI; simp only; omega, by rw [if_pos (show pairI b d = (min b d, max b d) from rfl)]⟩
    · refine ⟨hm r hr, ?_⟩
      by_cases e1 : r = (min b d, max b d)
      · rw [if_pos e1]
      · by_cases e2 : r = (min a c, max a c)
        · rw [if_neg e1, if_pos e2]
        · rw [if_neg e1, if_neg e2, if_neg (show ¬ r = (min c d, max c d) from h2), if_neg (show ¬ r = (min a b, max a b) from h1)]
          simpa using hr
  · rintro ⟨_, hr⟩
    by_cases e1 : r = (min b d, max b d)
    · exact .inl (.inr e1)
    · by_cases e2 : r = (min a c, max a c)
      · exact .inl (.inl e2)
      · rw [if_neg e1, if_neg e2] at hr
        by_cases e3 : r = (min c d, max c d)
        · rw [if_pos e3] at hr; cases hr
        · rw [if_neg e3] at hr
          by_cases e4 : r = (min a b, max a b)
          · rw [if_pos e4] at hr; cases hr
          · rw [if_neg e4] at hr
            exact .inr ⟨by simpa using hr, e4, e3⟩
end Go.Proofs.Ytepoabbkalhifaa
/-
  DERIVED: THE SHELF's CONTRACTS AT THIS DUMP, IN PLAIN WORDS (tools/lay-plain.mjs out of 'YtepoabbkalhifaaShelfHome.lean', which tools/lay-shelf.mjs wrote): THE SAME DECLARATIONS UNDER THE SAME NAMES: 'import', 'namespace', 'open', 'def', 'theorem' AND NOTHING ELSE: no command of the shelf's: FOR A HAND-IN. Each laying: the table of numbers ('.._ren') and one theorem, a field a fact of the dump's own or the kernel's comparison; each contract: ONE APPLICATION.
-/
namespace Go.Proofs
open Go.Shelf
def Try.indexI_ren : Go.Shelf.Ren := ⟨fun | 29 => 115 | n => n, fun | 22 => 22 | 23 => 3 | 3 => 3 | 0 => 0 | 4 => 4 | n => n, fun | n => n⟩
theorem Try.indexI : Go.Proofs.SlLaysN.n29 Try.prog Try.indexI_ren := {
  mixed := by kernel_rfl
  f29 := ⟨Try.f115.name, by decide, Try.func115.trans (congrArg some (by kernel_rfl))⟩
  t0 := Try.underlying0
  a0 := Try.isAgg0
  z0 := Try.sizeOf0
  v0 := Try.zeroValue0
  t3 := Try.underlying3
  a3 := Try.isAgg3
  z3 := Try.sizeOf3
  v3 := Try.zeroValue3
  t4 := Try.underlying4
  a4 := Try.isAgg4
  z4 := Try.sizeOf4
  v4 := Try.zeroValue4
  t22 := Try.underlying22
  a22 := Try.isAgg22
  z22 := Try.sizeOf22
  v22 := Try.zeroValue22
  t23 := Try.underlying3
  a23 := Try.isAgg3
  z23 := Try.sizeOf3
  v23 := Try.zeroValue3 }
def Try.containsI_ren : Go.Shelf.Ren := ⟨fun | 31 => 100 | 29 => 115 | n => n, fun | 22 => 22 | 23 => 3 | 4 => 4 | 3 => 3 | 0 => 0 | n => n, fun | n => n⟩
theorem Try.containsI : Go.Proofs.SlLaysN.n31 Try.prog Try.containsI_ren := {
  mixed := by kernel_rfl
  f29 := ⟨Try.f115.name, by decide, Try.func115.trans (congrArg some (by kernel_rfl))⟩
  f31 := ⟨Try.f100.name, by decide, Try.func100.trans (congrArg some (by kernel_rfl))⟩
  t0 := Try.underlying0
  a0 := Try.isAgg0
  z0 := Try.sizeOf0
  v0 := Try.zeroValue0
  t3 := Try.underlying3
  a3 := Try.isAgg3
  z3 := Try.sizeOf3
  v3 := Try.zeroValue3
  t4 := Try.underlying4
  a4 := Try.isAgg4
  z4 := Try.sizeOf4
  v4 := Try.zeroValue4
  t22 := Try.underlying22
  a22 := Try.isAgg22
  z22 := Try.sizeOf22
  v22 := Try.zeroValue22
  t23 := Try.underlying3
  a23 := Try.isAgg3
  z23 := Try.sizeOf3
  v23 := Try.zeroValue3 }
end Go.Proofs
/-
  'slices.Contains' at numbers, from the shelf.
-/
namespace Go.Proofs.Ytepoabbkalhifaa
open Go.RowKit

set_option maxRecDepth 100000 in
theorem containsI_any (q : List Int) (x : Int) (A : Option Addr) (c : Nat) (w : World) (hl : q.length ≤ 1048576) (hA : CRead w w.heap.size A (icells q)) :
    Calls Try.prog 100 #[.slice A q.length c, .int .i64 x] w fun e w' => e = .returned (.bool (hasI q x)) ∧ w = w' := by
  by_cases h0 : q.length = 0
  · have hq : q = [] := List.eq_nil_of_length_eq_zero h0
    subst hq
    have h := AnyG.slices_Contains_int_empty Try.containsI A c x w
    change Calls Try.prog 100 _ _ _ at h
    exact h.mono fun _ _ ⟨he, hw⟩ => ⟨he, hw.symm⟩
  · obtain ⟨b, off, rfl, hb, hc⟩ := hA.ints (by omega)
    have h := AnyG.slices_Contains_int Try.containsI b off q.length c q x w (Nat.le_refl _) (by omega) hc
    rw [List.take_length] at h
    change Calls Try.prog 100 _ _ _ at h
    exact h.mono fun _ _ ⟨he, hw⟩ => ⟨he, hw.symm⟩
end Go.Proofs.Ytepoabbkalhifaa
/-
  'impl.areDifferent', by its contract.
-/
namespace Go.Proofs.Ytepoabbkalhifaa
open Go.RowKit

/-- people of p, each one another -/
def diffI (p : Int) (q : List Int) : Bool := q.all (fun x => decide (0 ≤ x ∧ x < p)) && decide q.Nodup
theorem diffI_bad {p : Int} {q : List Int} {k : Nat} {x : Int} (hx : q[k]? = some x) (h : ¬ (0 ≤ x ∧ x < p)) : diffI p q = false := by
  cases he : diffI p q with
  | false => rfl
  | true =>
    simp only [diffI, Bool.and_eq_true, decide_eq_true_eq, List.all_eq_true] at he
    exact absurd (he.1 x (List.mem_of_getElem? hx)) h
theorem diffI_dup {p : Int} {q : List Int} {k : Nat} {x : Int} (hx : q[k]? = some x) (h : x ∈ q.take k) : diffI p q = false := by
  cases he : diffI p q with
  | false => rfl
  | true =>
    simp only [diffI, Bool.and_eq_true, decide_eq_true_eq] at he
    have hn := he.2
    rw [List.Nodup, List.pairwise_iff_getElem] at hn
    obtain ⟨i, hi, e⟩ := List.getElem_of_mem h
    rw [List.length_take] at hi
    rw [List.getElem_take] at e
    have hk : k < q.length := (List.getElem?_eq_some_iff.1 hx).1
    rw [List.getElem?_eq_getElem hk] at hx
    simp only [Option.some.injEq] at hx
    exact absurd (e.trans hx.symm) (hn i k (by omega) hk (by omega))
theorem diffI_of {p : Int} {q : List Int} (h : ∀ (k : Nat) (x : Int), k < q.length → q[k]? = some x → (0 ≤ x ∧ x < p) ∧ x ∉ q.take k) : diffI p q = true := by
  simp only [diffI, Bool.and_eq_true, decide_eq_true_eq, List.all_eq_true]
  constructor
  · intro x hx
    obtain ⟨i, hi, e⟩ := List.getElem_of_mem hx
    exact (h i x hi (by rw [List.getElem?_eq_getElem hi, e])).1
  · rw [List.Nodup, List.pairwise_iff_getElem]
    intro i j hi hj hij e
    refine (h j q[j] hj (List.getElem?_eq_getElem hj)).2 ?_
    rw [List.mem_take_iff_getElem]
    exact ⟨i, by omega, e⟩
theorem diff_four (p a b c d : Int) : diffI p [a, b, c, d] = fourI p a b c d := by
  unfold diffI fourI
  rw [Bool.eq_iff_iff]
  simp only [Bool.and_eq_true, decide_eq_true_eq, List.all_eq_true, List.nodup_cons, List.mem_cons, List.not_mem_nil, or_false, not_or, not_false_eq_true, List.nodup_nil, and_true, forall_eq_or_imp, forall_eq]
  constructor
  · rintro ⟨⟨h1, h2, h3, h4⟩, ⟨e1, e2, e3⟩, ⟨e4, e5⟩, e6⟩
    exact ⟨h1, h2, h3, h4, e1, e2, e3, e4, e5, e6⟩
  · rintro ⟨h1, h2, h3, h4, e1, e2, e3, e4, e5, e6⟩
    exact ⟨⟨h1, h2, h3, h4⟩, ⟨e1, e2, e3⟩, ⟨e4, e5⟩, e6⟩

set_option maxHeartbeats 2000000 in
set_option maxRecDepth 100000 in
theorem areDifferent_any (p : Int) (q : List Int) (A B : Option Addr) (n c d : Nat) (w : World) (hq : q.length ≤ 1048576) (hd : q.length ≤ d) (hB : CRead w w.heap.size B (icells q)) :
    Calls Try.prog 69 #[.agg #[.int .i64 p, .slice A n c], .slice B q.length d] w fun e w' => e = .returned (.bool (diffI p q)) ∧ Below w.heap.size w w' := by
  go_enter Try.func69, Try.ntmps69
  go_wp2
  go_loopw [9] (fun i wr => ∃ k : Nat, k ≤ q.length ∧ i = .int .i64 k ∧ (∀ (j : Nat) (x : Int), j < k → q[j]? = some x → (0 ≤ x ∧ x < p) ∧ x ∉ q.take j) ∧ Below (w.heap.size + 1) (w.alloc (Obj.cells #[.int .i64 p, .slice A n c] 45)) wr) (fun i _ => q.length - (intOf i).toNat)
  case atStart => exact ⟨0, Nat.zero_le _, rfl, fun j x hj => by omega, by simpa using Below.refl _ _⟩
  case round =>
    obtain ⟨k, hk, rfl, hg, hb⟩ := hrel
    have Hg := Lib.hid hg
    have hs := hb.size
    simp only [World.size_alloc] at hs
    have hbw : Below w.heap.size w wr := Below.trans (b := _) (by go_grown) (hb.mono (by omega))
    have u0 : wr.cell? ⟨w.heap.size, 0, none⟩ = some (.int .i64 p) := carry hb (by simp) (by omega)
    have u1 : wr.cell? ⟨w.heap.size, 1, none⟩ = some (.slice A n c) := carry hb (by simp) (by omega)
    clear hg
    by_cases hlt : k < q.length
    · obtain ⟨x, hx⟩ := getSome q k hlt
      have RB := (hB.below hbw (Nat.le_refl _)).more hbw.size
      obtain ⟨b, off, rfl, hbb, v0⟩ := RB.int hx
      have hki : (k : Int) < (q.length : Int) := by omega
      have hkd : (k : Int) ≤ (d : Int) := by omega
      have hkd2 : k ≤ d := by omega
      have RBf := RB.front k
      have hlk : (q.take k).length = k := by rw [List.length_take]; omega
      have Hx := Lib.hid hx
      clear hx
      by_cases hman : 0 ≤ x ∧ x < p
      · have Hm := Lib.hid (isMan_yes hman)
        have Hman := Lib.hid hman
        clear hman
        go_wp2_with fail
        refine (isPerson_any p x A n c _).mono ?_
        rw [Hm.out]
        rintro e w2 ⟨rfl, hb2⟩
        have h := containsI_any (q.take k) x (some ⟨b, off, none⟩) d w2 (by omega) ((RBf.below hb2 (Nat.le_refl _)).more hb2.size)
        rw [hlk] at h
        go_wp2_with fail
        refine h.mono ?_
        rintro e w3 ⟨rfl, rfl⟩
        clear h
        cases hh : hasI (q.take k) x with
        | true =>
          have He := Lib.hid (diffI_dup (p := p) Hx.out (hasI_mem.1 hh))
          clear hh
          go_wp2
          go_ret
          exact ⟨by rw [He.out]; rfl, hbw.trans (hb2.mono (by omega))⟩
        | false =>
          have hnm : x ∉ q.take k := fun hm => by rw [hasI_mem.2 hm] at hh; cases hh
          clear hh
          go_wp2
          go_roundw
          case rel =>
            refine ⟨k + 1, by omega, by go_num, fun j z hj hz => ?_, hb.trans (hb2.mono (by omega))⟩
            by_cases hjk : j = k
            · subst hjk
              rw [Hx.out] at hz
              simp only [Option.some.injEq] at hz
              subst hz
              exact ⟨Hman.out, hnm⟩
            · exact Hg.out j z (by omega) hz
          case measure => simp [intOf]; omega
      · have Hm := Lib.hid (isMan_no hman)
        have He := Lib.hid (diffI_bad (p := p) Hx.out hman)
        clear hman
        go_wp2_with fail
        refine (isPerson_any p x A n c _).mono ?_
        rw [Hm.out]
        rintro e w2 ⟨rfl, hb2⟩
        go_wp2
        go_ret
        exact ⟨by rw [He.out]; rfl, hbw.trans (hb2.mono (by omega))⟩
    · have hkl : k = q.length := by omega
      have hge : ¬ ((k : Int) < (q.length : Int)) := by omega
      have He := Lib.hid (diffI_of (p := p) (q := q) fun j x hj hx => Hg.out j x (by omega) hx)
      go_wp2
      go_ret
      exact ⟨by rw [He.out]; rfl, hbw⟩
end Go.Proofs.Ytepoabbkalhifaa
/-
  'ColourOf': the model's and the program's, by their contracts. Written by wip/tools/gen_colourof.py.
-/
namespace Go.Proofs.Ytepoabbkalhifaa
open Go.RowKit

theorem twoX_diff (p k : Int) (l : List Int) (a b : Int) : twoX p k l a b = (isX p k l && diffI p [a, b]) := by
  unfold twoX diffI
  congr 1
  rw [Bool.eq_iff_iff]
  simp only [Bool.and_eq_true, decide_eq_true_eq, List.all_eq_true, List.nodup_cons, List.mem_cons, List.not_mem_nil, or_false, not_false_eq_true, List.nodup_nil, and_true, forall_eq_or_imp, forall_eq]
  constructor
  · rintro ⟨h1, h2, h3⟩
    exact ⟨⟨by omega, by omega⟩, h3⟩
  · rintro ⟨⟨h1, h2⟩, h3⟩
    exact ⟨by omega, by omega, h3⟩
set_option maxHeartbeats 1000000 in
theorem differ2_any (p a b : Int) (w : World) : Calls Try.prog 69 #[.agg #[.int .i64 p, .slice none 0 0], .slice (some ⟨w.heap.size, 0, none⟩) 2 2] (w.alloc (Obj.cells #[.int .i64 a, .int .i64 b] 3)) fun e w' =>
    e = .returned (.bool (diffI p [a, b])) ∧ Below w.heap.size w w' := by
  have hr : CRead (w.alloc (Obj.cells #[.int .i64 a, .int .i64 b] 3)) (w.alloc (Obj.cells #[.int .i64 a, .int .i64 b] 3)).heap.size (some ⟨w.heap.size, 0, none⟩) (icells [a, b]) := by
    intro j u hu
    refine ⟨w.heap.size, 0, rfl, by simp, ?_⟩
    match j, hu with
    | 0, hu => simp [icells] at hu; subst hu; simp
    | 1, hu => simp [icells] at hu; subst hu; simp
    | j + 2, hu => simp [icells] at hu
  refine (areDifferent_any p [a, b] none (some ⟨w.heap.size, 0, none⟩) 0 0 2 _ (by simp) (by simp) hr).mono ?_
  rintro e w2 ⟨rfl, hb2⟩
  exact ⟨rfl, Below.trans (b := _) (by go_grown) (hb2.mono (by simp))⟩
def resColourOf (p k : Int) (l : List Int) (a b : Int) : Int × Bool := if twoX p k l a b then (colX p.toNat l a.toNat b.toNat, true) else (0, false)

set_option maxHeartbeats 4000000 in
set_option maxRecDepth 100000 in
theorem implColourOf_any (p k : Int) (l : List Int) (A : Option Addr) (c : Nat) (a : Int) (b : Int) (w : World) (hl : l.length ≤ 1048576) (hA : CRead w w.heap.size A (icells l)) :
    Calls Try.prog 23 #[.agg #[.int .i64 p, .int .i64 k, .slice A l.length c], .int .i64 a, .int .i64 b] w fun e w' => e = .returned (.tuple #[.int .i64 (resColourOf p k l a b).1, .bool (resColourOf p k l a b).2]) ∧ Below w.heap.size w w' := by
  obtain ⟨w0, hW⟩ : ∃ W, w.alloc (Obj.cells #[.int .i64 p, .int .i64 k, .slice A l.length c] 27) = W := ⟨_, rfl⟩
  have a0_0 : w0.cell? ⟨w.heap.size, 0, none⟩ = some (.int .i64 p) := by rw [← hW]; simp
  have a1_0 : w0.cell? ⟨w.heap.size, 1, none⟩ = some (.int .i64 k) := by rw [← hW]; simp
  have a2_0 : w0.cell? ⟨w.heap.size, 2, none⟩ = some (.slice A l.length c) := by rw [← hW]; simp
  have k0 : Below w.heap.size w w0 := by rw [← hW]; go_grown
  have sP_0 : w.heap.size < w0.heap.size := by rw [← hW]; simp only [World.size_alloc]; omega
  have RA0 : CRead w0 w0.heap.size A (icells l) := (hA.below k0 (Nat.le_refl _)).more k0.size
  have HW := Lib.hid hW
  clear hW
  cases h1 : isX p k l with
  | false =>
    have e : resColourOf p k l a b = (0, false) := by simp [resColourOf, twoX_diff, h1]
    rw [e]
    have H1 := Lib.hid h1
    clear e h1
    go_enter Try.func23, Try.ntmps23
    go_wp2_with fail
    rw [HW.out]
    refine (isPainting_any p k l A c _ hl RA0).mono ?_
    rw [H1.out]
    rintro e w1 ⟨rfl, hb1⟩
    have k1 := k0.trans (hb1.mono k0.size)
    have RA1 := (RA0.below hb1 (Nat.le_refl _)).more hb1.size
    have a0_1 := carry hb1 a0_0 sP_0
    have a1_1 := carry hb1 a1_0 sP_0
    have a2_1 := carry hb1 a2_0 sP_0
    have sP_1 := Nat.lt_of_lt_of_le sP_0 hb1.size
    clear RA0 hb1 a0_0 a1_0 a2_0 sP_0
    go_wp2
    go_ret2
    exact ⟨rfl, k1⟩
  | true =>
    cases h2 : diffI p [a, b] with
    | false =>
      have e : resColourOf p k l a b = (0, false) := by simp [resColourOf, twoX_diff, h1, h2]
      rw [e]
      have H1 := Lib.hid h1
      have H2 := Lib.hid h2
      clear e h1 h2
      go_enter Try.func23, Try.ntmps23
      go_wp2_with fail
      rw [HW.out]
      refine (isPainting_any p k l A c _ hl RA0).mono ?_
      rw [H1.out]
      rintro e w1 ⟨rfl, hb1⟩
      have k1 := k0.trans (hb1.mono k0.size)
      have RA1 := (RA0.below hb1 (Nat.le_refl _)).more hb1.size
      have a0_1 := carry hb1 a0_0 sP_0
      have a1_1 := carry hb1 a1_0 sP_0
      have a2_1 := carry hb1 a2_0 sP_0
      have sP_1 := Nat.lt_of_lt_of_le sP_0 hb1.size
      clear RA0 hb1 a0_0 a1_0 a2_0 sP_0
      go_wp2_with fail
      refine (differ2_any p a b _).mono ?_
      rw [H2.out]
      rintro e w2 ⟨rfl, hb2⟩
      have k2 := k1.trans (hb2.mono k1.size)
      have RA2 := (RA1.below hb2 (Nat.le_refl _)).more hb2.size
      have a0_2 := carry hb2 a0_1 sP_1
      have a1_2 := carry hb2 a1_1 sP_1
      have a2_2 := carry hb2 a2_1 sP_1
      have sP_2 := Nat.lt_of_lt_of_le sP_1 hb2.size
      clear RA1 hb2 a0_1 a1_1 a2_1 sP_1
      go_wp2
      go_ret2
      exact ⟨rfl, k2⟩
    | true =>
      have H1 := Lib.hid h1
      have H2 := Lib.hid h2
      have h5 : twoX p k l a b = true := by rw [twoX_diff, h1, h2]; rfl
      obtain ⟨hX, ⟨hp0, hp1⟩, ⟨hq0, hq1⟩, hne⟩ := twoX_parts h5
      obtain ⟨n, rfl⟩ : ∃ n : Nat, p = n := ⟨p.toNat, by omega⟩
      obtain ⟨i, rfl⟩ : ∃ i : Nat, a = i := ⟨a.toNat, by omega⟩
      obtain ⟨j, rfl⟩ : ∃ j : Nat, b = j := ⟨b.toNat, by omega⟩
      have hn8 := (isX_parts hX).1
      have e : resColourOf n k l i j = (colX n l i j, true) := by unfold resColourOf; rw [h5, if_pos rfl]; simp
      rw [e, ← shX_col (by omega) (by omega) (by omega) (by omega)]
      obtain ⟨f, hf⟩ : ∃ f, shX n l = f := ⟨_, rfl⟩
      have call := fun (X : World) (hR : CRead X X.heap.size A (icells l)) => shadesOf_any n k l A c X hX hR
      simp only [hf] at call ⊢
      have hi8 : i < 8 := by omega
      have hj8 : j < 8 := by omega
      have ix1 := fun X : World => index_sh1 f hi8 X
      have ix2 := fun X : World => index_sh2 f hi8 hj8 X
      obtain ⟨x, hx⟩ : ∃ x, f i j = x := ⟨_, rfl⟩
      rw [hx]
      simp only [hx] at ix2
      have Call := Lib.hid call
      clear e h1 h2 h5 hf hx call hX hp0 hp1 hq0 hq1 hne hn8
      go_enter Try.func23, Try.ntmps23
      go_wp2_with fail
      rw [HW.out]
      refine (isPainting_any n k l A c _ hl RA0).mono ?_
      rw [H1.out]
      rintro e w1 ⟨rfl, hb1⟩
      have k1 := k0.trans (hb1.mono k0.size)
      have RA1 := (RA0.below hb1 (Nat.le_refl _)).more hb1.size
      have a0_1 := carry hb1 a0_0 sP_0
      have a1_1 := carry hb1 a1_0 sP_0
      have a2_1 := carry hb1 a2_0 sP_0
      have sP_1 := Nat.lt_of_lt_of_le sP_0 hb1.size
      clear RA0 hb1 a0_0 a1_0 a2_0 sP_0
      go_wp2_with fail
      refine (differ2_any n i j _).mono ?_
      rw [H2.out]
      rintro e w2 ⟨rfl, hb2⟩
      have k2 := k1.trans (hb2.mono k1.size)
      have RA2 := (RA1.below hb2 (Nat.le_refl _)).more hb2.size
      have a0_2 := carry hb2 a0_1 sP_1
      have a1_2 := carry hb2 a1_1 sP_1
      have a2_2 := carry hb2 a2_1 sP_1
      have sP_2 := Nat.lt_of_lt_of_le sP_1 hb2.size
      clear RA1 hb2 a0_1 a1_1 a2_1 sP_1
      go_wp2_with fail
      refine (Call.out _ RA2).mono ?_
      rintro e w3 ⟨rfl, hb3⟩
      have k3 := k2.trans (hb3.mono k2.size)
      clear a0_2 a1_2 a2_2 hb3 RA2
      go_wp2
      go_ret2
      exact ⟨rfl, k3⟩
set_option maxHeartbeats 4000000 in
set_option maxRecDepth 100000 in
theorem specColourOf_any (p k : Int) (l : List Int) (A : Option Addr) (c : Nat) (a : Int) (b : Int) (w : World) (hl : l.length ≤ 1048576) (hA : CRead w w.heap.size A (icells l)) :
    Calls Try.prog 22 #[.agg #[.int .i64 p, .int .i64 k, .slice A l.length c], .int .i64 a, .int .i64 b] w fun e w' => e = .returned (.tuple #[.int .i64 (resColourOf p k l a b).1, .bool (resColourOf p k l a b).2]) ∧ Below w.heap.size w w' := by
  obtain ⟨w0, hW⟩ : ∃ W, w.alloc (Obj.cells #[.int .i64 p, .int .i64 k, .slice A l.length c] 27) = W := ⟨_, rfl⟩
  have a0_0 : w0.cell? ⟨w.heap.size, 0, none⟩ = some (.int .i64 p) := by rw [← hW]; simp
  have a1_0 : w0.cell? ⟨w.heap.size, 1, none⟩ = some (.int .i64 k) := by rw [← hW]; simp
  have a2_0 : w0.cell? ⟨w.heap.size, 2, none⟩ = some (.slice A l.length c) := by rw [← hW]; simp
  have k0 : Below w.heap.size w w0 := by rw [← hW]; go_grown
  have sP_0 : w.heap.size < w0.heap.size := by rw [← hW]; simp only [World.size_alloc]; omega
  have RA0 : CRead w0 w0.heap.size A (icells l) := (hA.below k0 (Nat.le_refl _)).more k0.size
  have HW := Lib.hid hW
  clear hW
  cases h1 : twoX p k l a b with
  | false =>
    have e : resColourOf p k l a b = (0, false) := by simp [resColourOf, h1]
    rw [e]
    have H1 := Lib.hid h1
    clear e h1
    go_enter Try.func22, Try.ntmps22
    go_wp2_with fail
    rw [HW.out]
    refine (ptTwo_any p k l A c a b _ hl RA0).mono ?_
    rw [H1.out]
    rintro e w1 ⟨rfl, hb1⟩
    have k1 := k0.trans (hb1.mono k0.size)
    have RA1 := (RA0.below hb1 (Nat.le_refl _)).more hb1.size
    have a0_1 := carry hb1 a0_0 sP_0
    have a1_1 := carry hb1 a1_0 sP_0
    have a2_1 := carry hb1 a2_0 sP_0
    have sP_1 := Nat.lt_of_lt_of_le sP_0 hb1.size
    clear RA0 hb1 a0_0 a1_0 a2_0 sP_0
    go_wp2
    go_ret2
    exact ⟨rfl, k1⟩
  | true =>
    have H1 := Lib.hid h1
    obtain ⟨hX, ⟨hp0, hp1⟩, ⟨hq0, hq1⟩, hne⟩ := twoX_parts h1
    obtain ⟨n, rfl⟩ : ∃ n : Nat, p = n := ⟨p.toNat, by omega⟩
    obtain ⟨i, rfl⟩ : ∃ i : Nat, a = i := ⟨a.toNat, by omega⟩
    obtain ⟨j, rfl⟩ : ∃ j : Nat, b = j := ⟨b.toNat, by omega⟩
    have hn8 := (isX_parts hX).1
    have e : resColourOf n k l i j = (colX n l i j, true) := by unfold resColourOf; rw [h1, if_pos rfl]; simp
    rw [e]
    have call := fun (X : World) (hR : CRead X X.heap.size A (icells l)) => ptOf_any n k l A c i j X hX (by omega) (by omega) (by omega) hR
    obtain ⟨x, hx⟩ : ∃ x, colX n l i j = x := ⟨_, rfl⟩
    simp only [hx] at call ⊢
    have Call := Lib.hid call
    clear e h1 hx call hX hp0 hp1 hq0 hq1 hne hn8
    go_enter Try.func22, Try.ntmps22
    go_wp2_with fail
    rw [HW.out]
    refine (ptTwo_any n k l A c i j _ hl RA0).mono ?_
    rw [H1.out]
    rintro e w1 ⟨rfl, hb1⟩
    have k1 := k0.trans (hb1.mono k0.size)
    have RA1 := (RA0.below hb1 (Nat.le_refl _)).more hb1.size
    have a0_1 := carry hb1 a0_0 sP_0
    have a1_1 := carry hb1 a1_0 sP_0
    have a2_1 := carry hb1 a2_0 sP_0
    have sP_1 := Nat.lt_of_lt_of_le sP_0 hb1.size
    clear RA0 hb1 a0_0 a1_0 a2_0 sP_0
    go_wp2_with fail
    refine (Call.out _ RA1).mono ?_
    rintro e w3 ⟨rfl, hb3⟩
    have k3 := k1.trans (hb3.mono k1.size)
    clear a0_1 a1_1 a2_1 hb3 RA1
    go_wp2
    go_ret2
    exact ⟨rfl, k3⟩
end Go.Proofs.Ytepoabbkalhifaa
/-
  A PAINTING IN A BOX OF THE CALL's OWN, whose colours are appended one by one.
-/
namespace Go.Proofs.Ytepoabbkalhifaa
open Go.RowKit

/-- The worlds above w0: a box at g holds a painting of n people and k colours, whose colours so far, L, lie in a row of the call's own. -/
structure PBox (B : Nat) (w0 wr : World) (n k : Int) (g : Nat) (v : Value) (L : List Int) : Prop where
  below : Below B w0 wr
  gB : B ≤ g
  box : wr.heap[g]? = some (.cells #[.int .i64 n, .int .i64 k, v] 27 (0, 0))
  own : wr.ownsRow B 3 1 v L.length (icells L)
section
variable {B g : Nat} {w0 wr W1 w1 : World} {n k : Int} {v v' : Value} {L : List Int}
theorem PBox.lt (h : PBox B w0 wr n k g v L) : g < wr.heap.size := lt_of_heap h.box
theorem ne_of_pbox (h : wr.heap[g]? = some (.cells #[.int .i64 n, .int .i64 k, v] 27 (0, 0))) {m : Nat} {xs : List Value} (ho : wr.ownsRow B 3 1 v' m xs) : v'.ownBlock ≠ some g := by
  rcases ho.2 with ⟨rfl, _⟩ | ⟨g', cap, cur, rfl, _, hh, _⟩
  · simp [Value.ownBlock]
  · intro e
    have hgb : g' = g := by simpa [Value.ownBlock] using e
    subst hgb
    rw [hh] at h
    injection h with h
    injection h with _ ht
    exact absurd ht (by decide)
theorem PBox.ne (h : PBox B w0 wr n k g v L) : v.ownBlock ≠ some g := ne_of_pbox h.box h.own
theorem PBox.cells (h : PBox B w0 wr n k g v L) : wr.cell? ⟨g, 0, none⟩ = some (.int .i64 n) ∧ wr.cell? ⟨g, 1, none⟩ = some (.int .i64 k) ∧ wr.cell? ⟨g, 2, none⟩ = some v ∧ ∀ j, wr.frozen? ⟨g, j, none⟩ = false :=
  ⟨by rw [cell_of_row _ _ _ _ _ _ h.box]; rfl, by rw [cell_of_row _ _ _ _ _ _ h.box]; rfl, by rw [cell_of_row _ _ _ _ _ _ h.box]; rfl, fun j => frozen_of_row _ _ j _ _ h.box⟩
theorem PBox.kept (h : PBox B w0 wr n k g v L) (hW : Below wr.heap.size wr W1) (hB : B ≤ wr.heap.size) : PBox B w0 W1 n k g v L :=
  ⟨h.below.trans (hW.mono hB), h.gB, (hW.block _ h.lt).trans h.box, own_below h.own hW (Nat.le_refl _)⟩
theorem PBox.le (h : PBox B w0 wr n k g v L) : B ≤ wr.heap.size := Nat.le_trans h.gB (Nat.le_of_lt h.lt)
/-- what stands behind an append -/
theorem PBox.grown (h : PBox B w0 wr n k g v L) (hW : Below wr.heap.size wr W1) (hg : W1.grownBy w1 v.ownBlock) :
    w1.heap[g]? = some (.cells #[.int .i64 n, .int .i64 k, v] 27 (0, 0)) ∧ w1.cell? ⟨g, 0, none⟩ = some (.int .i64 n) ∧ w1.cell? ⟨g, 1, none⟩ = some (.int .i64 k) ∧ w1.cell? ⟨g, 2, none⟩ = some v ∧ (∀ j, w1.frozen? ⟨g, j, none⟩ = false) ∧ Below B w0 w1 ∧ wr.heap.size ≤ w1.heap.size := by
  have hlt := h.lt
  have e : w1.heap[g]? = some (.cells #[.int .i64 n, .int .i64 k, v] 27 (0, 0)) := by
    rw [hg.block g (Nat.lt_of_lt_of_le hlt hW.size) (fun e => h.ne e.symm), hW.block g hlt]
    exact h.box
  refine ⟨e, by rw [cell_of_row _ _ _ _ _ _ e]; rfl, by rw [cell_of_row _ _ _ _ _ _ e]; rfl, by rw [cell_of_row _ _ _ _ _ _ e]; rfl, fun j => frozen_of_row _ _ j _ _ e, ?_, Nat.le_trans hW.size hg.size⟩
  exact (h.below.trans (hW.mono h.le)).grown hg (Nat.le_trans h.le hW.size) (fun k hk => (h.own.lt k hk).1)
/-- one colour more -/
theorem PBox.push {x : Int} (h : PBox B w0 wr n k g v L) (hW : Below wr.heap.size wr W1) (hg : W1.grownBy w1 v.ownBlock) (hown : w1.ownsRow B 3 1 v' (L.length + 1) (icells L ++ [.int .i64 x])) :
    PBox B w0 (w1.setCell ⟨g, 2, none⟩ v') n k g v' (L ++ [x]) := by
  obtain ⟨e, _, _, _, _, hb, _⟩ := h.grown hW hg
  have hne := ne_of_pbox e hown
  refine ⟨hb.setCell (p := ⟨g, 2, none⟩) h.gB _, h.gB, heap_setCell_same w1 g 2 _ _ v' e, ?_⟩
  have el : (L ++ [x]).length = L.length + 1 := by simp
  have ec : icells (L ++ [x]) = icells L ++ [.int .i64 x] := by simp [icells]
  rw [el, ec]
  exact hown.kept (row := some g) ⟨rfl, rfl, rfl, by simp, fun k _ hk => heap_setCell_other _ _ _ _ (fun e => hk (by rw [e]))⟩ (.inr hne)
/-- a colour is set -/
theorem PBox.set {g' m cap : Nat} (h : PBox B w0 wr n k g (.slice (some ⟨g', 0, none⟩) m cap) L) (hm : m = L.length) (j : Nat) (x : Int) :
    PBox B w0 (wr.setCell ⟨g', j, none⟩ (.int .i64 x)) n k g (.slice (some ⟨g', 0, none⟩) m cap) (L.set j x) := by
  subst hm
  have hne : g' ≠ g := fun e => h.ne (by rw [e]; rfl)
  have hlt := (h.own.lt g' rfl).1
  refine ⟨h.below.setCell (p := ⟨g', j, none⟩) hlt _, h.gB, (heap_setCell_other _ _ _ _ (fun e => hne e.symm)).trans h.box, ?_⟩
  rw [List.length_set]
  exact own_setInt h.own j x
end
end Go.Proofs.Ytepoabbkalhifaa
