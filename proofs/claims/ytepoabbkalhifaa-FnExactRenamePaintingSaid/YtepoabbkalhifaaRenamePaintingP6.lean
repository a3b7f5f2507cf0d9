/-
  Texts put together for the claim of 'RenamePainting' (pack 6): RenO, LawRenamePainting, Head, Facts.
-/
import Derived.Test.YtepoabbkalhifaaRenamePaintingP1
import Derived.Test.YtepoabbkalhifaaRenamePaintingP4
import Derived.Test.YtepoabbkalhifaaRenamePaintingP5
import Derived.Deep.RegionHeld3
import Derived.StillTailTactics
import Derived.Test.YtepoabbkalhifaaRows
/-
  'RenamePainting': the model's and the program's, by their contracts. Written by wip/tools/gen_renx.py.
-/
namespace Go.Proofs.Ytepoabbkalhifaa
open Go.RowKit

theorem grOrderP_any (p : Int) (m : List Int) (B : Option Addr) (d : Nat) (w : World) (hp : 0 ≤ p ∧ p ≤ 8) (hq : m.length ≤ 1048576) (hd : m.length ≤ d) (hB : CRead w w.heap.size B (icells m)) :
    Calls Try.prog 92 #[.int .i64 p, .slice B m.length d] w fun e w' => e = .returned (.bool (isNamingI p m)) ∧ Below w.heap.size w w' := by
  obtain ⟨n, rfl⟩ : ∃ n : Nat, p = n := ⟨p.toNat, by omega⟩
  exact (grOrder_any n m B d w (by omega) hq hd hB).mono fun _ _ h => ⟨h.1, h.2 ▸ Below.refl _ _⟩

set_option maxHeartbeats 4000000 in
set_option maxRecDepth 100000 in
theorem implRenamePainting_any (p k : Int) (l : List Int) (A : Option Addr) (c : Nat) (m : List Int) (B : Option Addr) (d : Nat) (w : World) (hl : l.length ≤ 1048576) (hA : CRead w w.heap.size A (icells l)) (_hq : m.length ≤ 1048576) (hB : CRead w w.heap.size B (icells m)) :
    Calls Try.prog 56 #[.agg #[.int .i64 p, .int .i64 k, .slice A l.length c], .slice B m.length d] w (GotPaintOk w (resRenamePainting p k l m).1 (resRenamePainting p k l m).2.1 (resRenamePainting p k l m).2.2.1 (resRenamePainting p k l m).2.2.2) := by
  obtain ⟨w0, hW⟩ : ∃ W, (w.alloc (Obj.cells #[.int .i64 p, .int .i64 k, .slice A l.length c] 27)).alloc (Obj.cells #[.int .i64 0, .int .i64 0, .slice none 0 0] 27) = W := ⟨_, rfl⟩
  have a0_0 : w0.cell? ⟨w.heap.size, 0, none⟩ = some (.int .i64 p) := by rw [← hW]; simp
  have a1_0 : w0.cell? ⟨w.heap.size, 1, none⟩ = some (.int .i64 k) := by rw [← hW]; simp
  have a2_0 : w0.cell? ⟨w.heap.size, 2, none⟩ = some (.slice A l.length c) := by rw [← hW]; simp
  have x0_0 : w0.cell? ⟨w.heap.size + 1, 0, none⟩ = some (.int .i64 0) := by rw [← hW]; simp
  have z0_0 : w0.frozen? ⟨w.heap.size + 1, 0, none⟩ = false := by rw [← hW]; simp
  have x1_0 : w0.cell? ⟨w.heap.size + 1, 1, none⟩ = some (.int .i64 0) := by rw [← hW]; simp
  have z1_0 : w0.frozen? ⟨w.heap.size + 1, 1, none⟩ = false := by rw [← hW]; simp
  have x2_0 : w0.cell? ⟨w.heap.size + 1, 2, none⟩ = some (.slice none 0 0) := by rw [← hW]; simp
  have z2_0 : w0.frozen? ⟨w.heap.size + 1, 2, none⟩ = false := by rw [← hW]; simp
  have k0 : Below w.heap.size w w0 := by rw [← hW]; go_grown
  have sP_0 : w.heap.size < w0.heap.size := by rw [← hW]; simp only [World.size_alloc]; omega
  have sR_0 : w.heap.size + 1 < w0.heap.size := by rw [← hW]; simp only [World.size_alloc]; omega
  have RA0 : CRead w0 w0.heap.size A (icells l) := (hA.below k0 (Nat.le_refl _)).more k0.size
  have RB0 : CRead w0 w0.heap.size B (icells m) := (hB.below k0 (Nat.le_refl _)).more k0.size
  have HW := Lib.hid hW
  clear hW
  cases h1 : isX p k l with
  | false =>
    have e : resRenamePainting p k l m = (0, 0, [], false) := by simp [resRenamePainting, h1]
    rw [e]
    have H1 := Lib.hid h1
    clear e h1
    go_enter Try.func56, Try.ntmps56
    go_wp2_with fail
    rw [HW.out]
    refine (isPainting_any p k l A c _ hl RA0).mono ?_
    rw [H1.out]
    rintro e w1 ⟨rfl, hb1⟩
    have k1 := k0.trans (hb1.mono k0.size)
    have RA1 := (RA0.below hb1 (Nat.le_refl _)).more hb1.size
    have RB1 := (RB0.below hb1 (Nat.le_refl _)).more hb1.size
    have a0_1 := carry hb1 a0_0 sP_0
    have a1_1 := carry hb1 a1_0 sP_0
    have a2_1 := carry hb1 a2_0 sP_0
    have x0_1 := carry hb1 x0_0 sR_0
    have z0_1 := (hb1.frozen (p := ⟨w.heap.size + 1, 0, none⟩) sR_0).trans z0_0
    have x1_1 := carry hb1 x1_0 sR_0
    have z1_1 := (hb1.frozen (p := ⟨w.heap.size + 1, 1, none⟩) sR_0).trans z1_0
    have x2_1 := carry hb1 x2_0 sR_0
    have z2_1 := (hb1.frozen (p := ⟨w.heap.size + 1, 2, none⟩) sR_0).trans z2_0
    have sP_1 := Nat.lt_of_lt_of_le sP_0 hb1.size
    have sR_1 := Nat.lt_of_lt_of_le sR_0 hb1.size
    clear RA0 hb1 RB0 a0_0 a1_0 a2_0 x0_0 z0_0 x1_0 z1_0 x2_0 z2_0 sP_0 sR_0
    go_wp2
    refine bodyPost_ret (v := .tuple #[.agg #[.int .i64 0, .int .i64 0, .slice none 0 0], .bool false]) (by simp [results, Try.results56, go_sem, x0_1, x1_1, x2_1]) rfl ?_
    exact ⟨none, 0, rfl, World.ownsRow_nil _ _ _ _, (((k1.setCell (p := ⟨w.heap.size + 1, 0, none⟩) (by simp) _).setCell (p := ⟨w.heap.size + 1, 1, none⟩) (by simp) _).setCell (p := ⟨w.heap.size + 1, 2, none⟩) (by simp) _)⟩
  | true =>
    obtain ⟨hp0, hp1⟩ := (isX_parts h1).1
    cases h2 : isNamingI p m with
    | false =>
      have e : resRenamePainting p k l m = (0, 0, [], false) := by simp [resRenamePainting, h1, h2]
      rw [e]
      have H1 := Lib.hid h1
      have H2 := Lib.hid h2
      clear e h1 h2
      go_enter Try.func56, Try.ntmps56
      go_wp2_with fail
      rw [HW.out]
      refine (isPainting_any p k l A c _ hl RA0).mono ?_
      rw [H1.out]
      rintro e w1 ⟨rfl, hb1⟩
      have k1 := k0.trans (hb1.mono k0.size)
      have RA1 := (RA0.below hb1 (Nat.le_refl _)).more hb1.size
      have RB1 := (RB0.below hb1 (Nat.le_refl _)).more hb1.size
      have a0_1 := carry hb1 a0_0 sP_0
      have a1_1 := carry hb1 a1_0 sP_0
      have a2_1 := carry hb1 a2_0 sP_0
      have x0_1 := carry hb1 x0_0 sR_0
      have z0_1 := (hb1.frozen (p := ⟨w.heap.size + 1, 0, none⟩) sR_0).trans z0_0
      have x1_1 := carry hb1 x1_0 sR_0
      have z1_1 := (hb1.frozen (p := ⟨w.heap.size + 1, 1, none⟩) sR_0).trans z1_0
      have x2_1 := carry hb1 x2_0 sR_0
      have z2_1 := (hb1.frozen (p := ⟨w.heap.size + 1, 2, none⟩) sR_0).trans z2_0
      have sP_1 := Nat.lt_of_lt_of_le sP_0 hb1.size
      have sR_1 := Nat.lt_of_lt_of_le sR_0 hb1.size
      clear RA0 hb1 RB0 a0_0 a1_0 a2_0 x0_0 z0_0 x1_0 z1_0 x2_0 z2_0 sP_0 sR_0
      go_wp2_with fail
      refine (isNaming_any p m none B 0 0 d _ ⟨by omega, by omega⟩ RB1).mono ?_
      rw [H2.out]
      rintro e w2 ⟨rfl, hb2⟩
      have k2 := k1.trans (hb2.mono k1.size)
      have RA2 := (RA1.below hb2 (Nat.le_refl _)).more hb2.size
      have RB2 := (RB1.below hb2 (Nat.le_refl _)).more hb2.size
      have a0_2 := carry hb2 a0_1 sP_1
      have a1_2 := carry hb2 a1_1 sP_1
      have a2_2 := carry hb2 a2_1 sP_1
      have x0_2 := carry hb2 x0_1 sR_1
      have z0_2 := (hb2.frozen (p := ⟨w.heap.size + 1, 0, none⟩) sR_1).trans z0_1
      have x1_2 := carry hb2 x1_1 sR_1
      have z1_2 := (hb2.frozen (p := ⟨w.heap.size + 1, 1, none⟩) sR_1).trans z1_1
      have x2_2 := carry hb2 x2_1 sR_1
      have z2_2 := (hb2.frozen (p := ⟨w.heap.size + 1, 2, none⟩) sR_1).trans z2_1
      have sP_2 := Nat.lt_of_lt_of_le sP_1 hb2.size
      have sR_2 := Nat.lt_of_lt_of_le sR_1 hb2.size
      clear RA1 hb2 RB1 a0_1 a1_1 a2_1 x0_1 z0_1 x1_1 z1_1 x2_1 z2_1 sP_1 sR_1
      go_wp2
      refine bodyPost_ret (v := .tuple #[.agg #[.int .i64 0, .int .i64 0, .slice none 0 0], .bool false]) (by simp [results, Try.results56, go_sem, x0_2, x1_2, x2_2]) rfl ?_
      exact ⟨none, 0, rfl, World.ownsRow_nil _ _ _ _, (((k2.setCell (p := ⟨w.heap.size + 1, 0, none⟩) (by simp) _).setCell (p := ⟨w.heap.size + 1, 1, none⟩) (by simp) _).setCell (p := ⟨w.heap.size + 1, 2, none⟩) (by simp) _)⟩
    | true =>
      have H1 := Lib.hid h1
      have H2 := Lib.hid h2
      obtain ⟨n, rfl⟩ : ∃ n : Nat, p = n := ⟨p.toNat, by omega⟩
      have hn9 : n ≤ 8 := by omega
      have hlen := isX_len h1
      rw [Int.toNat_natCast] at hlen
      have hsm := isX_small h1
      have e : resRenamePainting n k l m = ((n : Int), k, renX n l m, true) := by unfold resRenamePainting; rw [h1, h2, Bool.and_self, if_pos rfl]; simp
      rw [e]
      have hml : m.length = n := by have := (isNamingI_parts h2).1; omega
      have hnm := fun a (ha : a < n) => nm_of h2 ha
      have Hnm := Lib.hid hnm
      have Hml := Lib.hid hml
      have hcr := cols_rT (m := m) (l := l) hn9 h2
      rw [← hcr]
      have callp := fun (X : World) => painting_any (rT n m l (allP n).length) n k hn9 X
      have callw := fun (q a b : Nat) (x : Int) (ha : a < 8) (hb : b < 8) (X : World) => with_any (rT n m l q) a b x ha hb X
      obtain ⟨R, hR⟩ : ∃ R, colsP n (rT n m l (allP n).length) = R := ⟨_, rfl⟩
      simp only [hR] at callp ⊢
      have Callp := Lib.hid callp
      have Callw := Lib.hid callw
      have Hlen := Lib.hid hlen
      clear e h1 h2 hR hcr callp callw hlen hml hnm
      go_enter Try.func56, Try.ntmps56
      go_wp2_with fail
      rw [HW.out]
      refine (isPainting_any n k l A c _ hl RA0).mono ?_
      rw [H1.out]
      rintro e w1 ⟨rfl, hb1⟩
      have k1 := k0.trans (hb1.mono k0.size)
      have RA1 := (RA0.below hb1 (Nat.le_refl _)).more hb1.size
      have RB1 := (RB0.below hb1 (Nat.le_refl _)).more hb1.size
      have a0_1 := carry hb1 a0_0 sP_0
      have a1_1 := carry hb1 a1_0 sP_0
      have a2_1 := carry hb1 a2_0 sP_0
      have x0_1 := carry hb1 x0_0 sR_0
      have z0_1 := (hb1.frozen (p := ⟨w.heap.size + 1, 0, none⟩) sR_0).trans z0_0
      have x1_1 := carry hb1 x1_0 sR_0
      have z1_1 := (hb1.frozen (p := ⟨w.heap.size + 1, 1, none⟩) sR_0).trans z1_0
      have x2_1 := carry hb1 x2_0 sR_0
      have z2_1 := (hb1.frozen (p := ⟨w.heap.size + 1, 2, none⟩) sR_0).trans z2_0
      have sP_1 := Nat.lt_of_lt_of_le sP_0 hb1.size
      have sR_1 := Nat.lt_of_lt_of_le sR_0 hb1.size
      clear RA0 hb1 RB0 a0_0 a1_0 a2_0 x0_0 z0_0 x1_0 z1_0 x2_0 z2_0 sP_0 sR_0
      go_wp2_with fail
      refine (isNaming_any n m none B 0 0 d _ ⟨by omega, by omega⟩ RB1).mono ?_
      rw [H2.out]
      rintro e w2 ⟨rfl, hb2⟩
      have k2 := k1.trans (hb2.mono k1.size)
      have RA2 := (RA1.below hb2 (Nat.le_refl _)).more hb2.size
      have RB2 := (RB1.below hb2 (Nat.le_refl _)).more hb2.size
      have a0_2 := carry hb2 a0_1 sP_1
      have a1_2 := carry hb2 a1_1 sP_1
      have a2_2 := carry hb2 a2_1 sP_1
      have x0_2 := carry hb2 x0_1 sR_1
      have z0_2 := (hb2.frozen (p := ⟨w.heap.size + 1, 0, none⟩) sR_1).trans z0_1
      have x1_2 := carry hb2 x1_1 sR_1
      have z1_2 := (hb2.frozen (p := ⟨w.heap.size + 1, 1, none⟩) sR_1).trans z1_1
      have x2_2 := carry hb2 x2_1 sR_1
      have z2_2 := (hb2.frozen (p := ⟨w.heap.size + 1, 2, none⟩) sR_1).trans z2_1
      have sP_2 := Nat.lt_of_lt_of_le sP_1 hb2.size
      have sR_2 := Nat.lt_of_lt_of_le sR_1 hb2.size
      clear RA1 hb2 RB1 a0_1 a1_1 a2_1 x0_1 z0_1 x1_1 z1_1 x2_1 z2_1 sP_1 sR_1
      have X0 := Lib.hid x0_2
      have X1 := Lib.hid x1_2
      have X2 := Lib.hid x2_2
      have Z0 := Lib.hid z0_2
      have Z1 := Lib.hid z1_2
      have Z2 := Lib.hid z2_2
      go_upto_region 4 with fail
      obtain ⟨W, hW⟩ : ∃ W, w2.alloc (Obj.cells (shC fun _ _ => 0) 78) = W := ⟨_, rfl⟩
      have kW : Below w2.heap.size w2 W := by rw [← hW]; exact (Below.refl _ _).alloc (Nat.le_refl _) _
      have sW : w2.heap.size < W.heap.size := by rw [← hW]; simp
      have c0 := carry kW a0_2 (by omega)
      have c1 := carry kW a1_2 (by omega)
      have c2 := carry kW a2_2 (by omega)
      have bg : W.heap[w2.heap.size]? = some (.cells (shC fun _ _ => 0) 78 (0, 0)) := by rw [← hW]; exact heap_alloc_new w2 _
      have kwW := k2.trans (kW.mono k2.size)
      rw [shC_zero] at hW
      rw [hW]
      clear hW x0_2 x1_2 x2_2 z0_2 z1_2 z2_2 a0_2 a1_2 a2_2 RA2 RB2
      go_wp2_with fail
      refine (everyPair_any n (by omega) _).mono ?_
      rintro e w3 ⟨P1, d1, rfl, own2, hb3⟩
      have s3 := hb3.size
      have k3 := kwW.trans (hb3.mono kwW.size)
      have u0 := carry hb3 c0 (by omega)
      have u1 := carry hb3 c1 (by omega)
      have u2 := carry hb3 c2 (by omega)
      have bg2 := (hb3.block _ sW).trans bg
      have Own2 := Lib.hid own2
      have k12 : Below w2.heap.size w2 w3 := kW.trans (hb3.mono (by omega))
      obtain ⟨N, hN⟩ : ∃ N, (allP n).length = N := ⟨_, rfl⟩
      have HN := Lib.hid hN
      have hNl : N ≤ 28 := by rw [← hN]; have := (count_of (p := (n : Int)) (by omega)).2.1; rwa [Int.toNat_natCast] at this
      rw [hN]
      clear c0 c1 c2 own2 bg hb3 hN
      obtain ⟨G, hG⟩ : ∃ G, w2.heap.size = G := ⟨_, rfl⟩
      rw [hG] at bg2 sW sP_2 sR_2
      rw [hG]
      have k12' : Below G w2 w3 := k12.mono (by omega)
      have hGle : G ≤ w2.heap.size := by omega
      clear hG k12 kW
      go_wp2_with fail
      go_loopw [25] (fun i wr => ∃ q : Nat, q ≤ N ∧ i = .int .i64 q ∧ wr.heap[G]? = some (.cells (shC (rT n m l q)) 78 (0, 0)) ∧ Below G w3 wr ∧ w3.heap.size ≤ wr.heap.size ∧ (∀ j, j ≠ G → j < w3.heap.size → wr.heap[j]? = w3.heap[j]?)) (fun i _ => N - (intOf i).toNat)
      case atStart => exact ⟨0, Nat.zero_le _, rfl, bg2, Below.refl _ _, Nat.le_refl _, fun _ _ _ => rfl⟩
      case round =>
        obtain ⟨q, hq, rfl, bq, hb, sb, hk⟩ := hrel
        have sq : Below w.heap.size w wr := k3.trans (hb.mono (by omega))
        have e0 := (cell_of_blk (o := 0) (hk w.heap.size (by omega) (by omega))).trans u0
        have e1 := (cell_of_blk (o := 1) (hk w.heap.size (by omega) (by omega))).trans u1
        have e2 := (cell_of_blk (o := 2) (hk w.heap.size (by omega) (by omega))).trans u2
        have Hb := Lib.hid hb
        have Hk := Lib.hid hk
        clear hb hk
        by_cases hlt : q < N
        · obtain ⟨a, b, hab, hbn, hat, hpq, hpair⟩ := pairAt_of hn9 (show q < (allP n).length by rw [HN.out]; exact hlt)
          obtain ⟨b1, off, rfl, hbb, c0, c1⟩ := (CRead.of_own Own2.out).pair hpq
          have hgb := (Own2.out.lt b1 rfl).1
          have d0 := (cell_of_blk (o := off + q * 2) (Hk.out b1 (by omega) hbb)).trans c0
          have d1' := (cell_of_blk (o := off + q * 2 + 1) (Hk.out b1 (by omega) hbb)).trans c1
          obtain ⟨x, hx⟩ := getSome l q (by rw [Hlen.out, HN.out]; exact hlt)
          obtain ⟨bb, off2, rfl, hbb2, c2⟩ := (hA.below sq (Nat.le_refl _)).int hx
          obtain ⟨ma, mb2, mc⟩ := Hnm.out a (by omega)
          obtain ⟨na, nb2, nc⟩ := Hnm.out b hbn
          obtain ⟨nb, noff, rfl, hnb, g0⟩ := (hB.below sq (Nat.le_refl _)).int ma
          obtain ⟨nb', noff', he, hnb', g1⟩ := (hB.below sq (Nat.le_refl _)).int na
          simp only [Option.some.injEq, Addr.mk.injEq, and_true] at he
          obtain ⟨rfl, rfl⟩ := he
          have hqi : (q : Int) < (N : Int) := by omega
          have hql : (q : Int) < (l.length : Int) := by rw [Hlen.out, HN.out]; exact hqi
          have ham : (a : Int) < (m.length : Int) := by rw [Hml.out]; omega
          have hbm : (b : Int) < (m.length : Int) := by rw [Hml.out]; omega
          have hnext := rT_next (m := m) hpair hx
          obtain ⟨S, hS⟩ : ∃ S, shC (rT n m l q) = S := ⟨_, rfl⟩
          have hSs : S.size = 64 := by rw [← hS]; exact shC_size _
          have call := Callw.out q (nmN m a) (nmN m b) x (by omega) (by omega)
          rw [hS] at bq
          simp only [hS] at call
          rw [← hnext] at call
          obtain ⟨T, hT⟩ : ∃ T, shC (rT n m l (q + 1)) = T := ⟨_, rfl⟩
          have hTs : T.size = 64 := by rw [← hT]; exact shC_size _
          have hT1 : T.all (·.oneCell') = true := by rw [← hT]; exact shC_one _
          simp only [hT] at call
          have hi : (Try.prog.info? 78).map (·.size) = some S.size := by rw [hSs]; exact sh_info
          have hi' : (Try.prog.info? 78).map (·.size) = some T.size := by rw [hTs]; exact sh_info
          obtain ⟨ia, hia⟩ : ∃ ia, nmN m a = ia := ⟨_, rfl⟩
          obtain ⟨ib, hib⟩ : ∃ ib, nmN m b = ib := ⟨_, rfl⟩
          rw [hia] at g0
          rw [hib] at g1
          simp only [hia, hib] at call
          have Call := Lib.hid call
          have HT := Lib.hid hT
          have HSs := Lib.hid hSs
          have HTs := Lib.hid hTs
          have HT1 := Lib.hid hT1
          have Bq := Lib.hid bq
          clear c0 c1 hx hpq hpair hat hnext hS call hT hSs hTs hT1 bq ma na mc nc mb2 nb2 hia hib
          go_upto_region 7 with fail
          obtain ⟨X, hX⟩ : ∃ X, wr.alloc (Obj.cells #[.int .i64 a, .int .i64 b] 85) = X := ⟨_, rfl⟩
          have kX : Below wr.heap.size wr X := by rw [← hX]; exact (Below.refl _ _).alloc (Nat.le_refl _) _
          have m0 : X.cell? ⟨wr.heap.size, 0, none⟩ = some (.int .i64 a) := by rw [← hX]; simp
          have m1 : X.cell? ⟨wr.heap.size, 1, none⟩ = some (.int .i64 b) := by rw [← hX]; simp
          have hwr : G < wr.heap.size := by omega
          have hww := sq.size
          have e2X := carry kX e2 (by omega)
          have c2X := carry kX c2 (by omega)
          have g0X := carry kX g0 (by omega)
          have g1X := carry kX g1 (by omega)
          have bqX : X.heap[G]? = some (.cells S 78 (0, 0)) := (kX.block _ hwr).trans Bq.out
          rw [hX]
          have BqX := Lib.hid bqX
          have KX := Lib.hid kX
          clear hX d0 d1' e0 e1 e2 c2 g0 g1 bqX kX
          refine wp_region_still_tail 17 (by kernel_rfl) (by kernel_rfl) ?_
          simp only [List.take_succ_cons, List.take_zero, List.drop_succ_cons, List.drop_zero]
          refine wpStill_load_row rfl 78 _ rfl G rfl 78 S (0, 0) _ BqX.out sh_under rfl hi ?_
          repeat still_step
          refine wpStill_nil ?_
          change wpList _ _ _ _ _ (World.drew _)
          clear m0 m1 e2X c2X g0X g1X
          go_wp2_with fail
          refine (Call.out _).mono ?_
          rintro e w4 ⟨rfl, hb4⟩
          have g2 : Below X.heap.size X w4 := (Below.refl _ _).drew.trans hb4
          have g3 : Below wr.heap.size wr w4 := KX.out.trans (g2.mono KX.out.size)
          have bq2 : w4.heap[G]? = some (.cells S 78 (0, 0)) := (g2.block _ (by have := KX.out.size; omega)).trans BqX.out
          have Bq2 := Lib.hid bq2
          clear bq2 hb4
          go_wp2_with (first | (refine wpList_store_row rfl 78 _ _ rfl G T rfl rfl 78 S Bq2.out hi' (by rw [HSs.out, HTs.out]) HT1.out ?_))
          go_roundw
          case rel =>
            refine ⟨q + 1, by omega, by go_num, ?_, below_setRow (Hb.out.trans (g3.mono (by omega))) (Nat.le_refl _) T, ?_, fun j hj hjl => ?_⟩
            · rw [HT.out]
              exact setRow_heap w4 _ S T _ (0, 0) Bq2.out
            · rw [size_setRow]
              have := g3.size
              omega
            · rw [setRow_other _ _ _ _ hj]
              exact (g3.block j (by omega)).trans (Hk.out j hj hjl)
          case measure => simp [intOf]; omega
        · have hqN : q = N := by omega
          subst hqN
          have hge : ¬ ((q : Int) < (q : Int)) := by omega
          obtain ⟨S, hS⟩ : ∃ S, shC (rT n m l q) = S := ⟨_, rfl⟩
          have hSs : S.size = 64 := by rw [← hS]; exact shC_size _
          have callp := Callp.out
          rw [HN.out] at callp
          rw [hS] at bq
          simp only [hS] at callp
          have hi : (Try.prog.info? 78).map (·.size) = some S.size := by rw [hSs]; exact sh_info
          have Bq := Lib.hid bq
          have Cp := Lib.hid callp
          have g2 : Below G w2 wr := k12'.trans Hb.out
          have r0 := carry g2 X0.out sR_2
          have r1 := carry g2 X1.out sR_2
          have r2 := carry g2 X2.out sR_2
          have f0 := (g2.frozen (p := ⟨w.heap.size + 1, 0, none⟩) sR_2).trans Z0.out
          have f1 := (g2.frozen (p := ⟨w.heap.size + 1, 1, none⟩) sR_2).trans Z1.out
          have f2 := (g2.frozen (p := ⟨w.heap.size + 1, 2, none⟩) sR_2).trans Z2.out
          have hsz : w.heap.size + 1 < wr.heap.size := by omega
          have Sq := Lib.hid sq
          clear bq hS hSs callp sq
          go_wp2_with (first
            | (go_at_call 75; refine (Cp.out _).mono ?_; rintro e w4 ⟨A4, c4, rfl, own4, hb4⟩; have y0 := carry hb4 r0 hsz; have y1 := carry hb4 r1 hsz; have y2 := carry hb4 r2 hsz; have i0 := (hb4.frozen (p := ⟨w.heap.size + 1, 0, none⟩) hsz).trans f0; have i1 := (hb4.frozen (p := ⟨w.heap.size + 1, 1, none⟩) hsz).trans f1; have i2 := (hb4.frozen (p := ⟨w.heap.size + 1, 2, none⟩) hsz).trans f2; have k4 := Sq.out.trans (hb4.mono Sq.out.size); have Own4 := Lib.hid own4; clear own4 hb4 r0 r1 r2 f0 f1 f2 e0 e1 e2)
            | (refine wpList_load_row rfl 78 _ rfl G rfl 78 S (0, 0) _ Bq.out sh_under rfl hi ?_))
          refine bodyPost_ret (v := .tuple #[.agg #[.int .i64 n, .int .i64 k, .slice A4 R.length c4], .bool true]) (by simp [results, Try.results56, go_sem, y0, y1, y2]) rfl ?_
          exact ⟨A4, c4, rfl, own_lower (ownsRow_setCell_below (ownsRow_setCell_below (ownsRow_setCell_below Own4.out (a := ⟨w.heap.size + 1, 0, none⟩) hsz _) (a := ⟨w.heap.size + 1, 1, none⟩) hsz _) (a := ⟨w.heap.size + 1, 2, none⟩) hsz _) (by omega),
            ((k4.setCell (p := ⟨w.heap.size + 1, 0, none⟩) (by simp) _).setCell (p := ⟨w.heap.size + 1, 1, none⟩) (by simp) _).setCell (p := ⟨w.heap.size + 1, 2, none⟩) (by simp) _⟩
set_option maxHeartbeats 4000000 in
set_option maxRecDepth 100000 in
theorem specRenamePainting_any (p k : Int) (l : List Int) (A : Option Addr) (c : Nat) (m : List Int) (B : Option Addr) (d : Nat) (w : World) (hl : l.length ≤ 1048576) (hA : CRead w w.heap.size A (icells l)) (h0 : A = none → c = 0) (hq : m.length ≤ 1048576) (hB : CRead w w.heap.size B (icells m)) (hd : m.length ≤ d) :
    Calls Try.prog 54 #[.agg #[.int .i64 p, .int .i64 k, .slice A l.length c], .slice B m.length d] w (GotPaintOk w (resRenamePainting p k l m).1 (resRenamePainting p k l m).2.1 (resRenamePainting p k l m).2.2.1 (resRenamePainting p k l m).2.2.2) := by
  obtain ⟨w0, hW⟩ : ∃ W, (w.alloc (Obj.cells #[.int .i64 p, .int .i64 k, .slice A l.length c] 27)).alloc (Obj.cells #[.int .i64 0, .int .i64 0, .slice none 0 0] 27) = W := ⟨_, rfl⟩
  have a0_0 : w0.cell? ⟨w.heap.size, 0, none⟩ = some (.int .i64 p) := by rw [← hW]; simp
  have a1_0 : w0.cell? ⟨w.heap.size, 1, none⟩ = some (.int .i64 k) := by rw [← hW]; simp
  have a2_0 : w0.cell? ⟨w.heap.size, 2, none⟩ = some (.slice A l.length c) := by rw [← hW]; simp
  have x0_0 : w0.cell? ⟨w.heap.size + 1, 0, none⟩ = some (.int .i64 0) := by rw [← hW]; simp
  have z0_0 : w0.frozen? ⟨w.heap.size + 1, 0, none⟩ = false := by rw [← hW]; simp
  have x1_0 : w0.cell? ⟨w.heap.size + 1, 1, none⟩ = some (.int .i64 0) := by rw [← hW]; simp
  have z1_0 : w0.frozen? ⟨w.heap.size + 1, 1, none⟩ = false := by rw [← hW]; simp
  have x2_0 : w0.cell? ⟨w.heap.size + 1, 2, none⟩ = some (.slice none 0 0) := by rw [← hW]; simp
  have z2_0 : w0.frozen? ⟨w.heap.size + 1, 2, none⟩ = false := by rw [← hW]; simp
  have k0 : Below w.heap.size w w0 := by rw [← hW]; go_grown
  have sP_0 : w.heap.size < w0.heap.size := by rw [← hW]; simp only [World.size_alloc]; omega
  have sR_0 : w.heap.size + 1 < w0.heap.size := by rw [← hW]; simp only [World.size_alloc]; omega
  have RA0 : CRead w0 w0.heap.size A (icells l) := (hA.below k0 (Nat.le_refl _)).more k0.size
  have RB0 : CRead w0 w0.heap.size B (icells m) := (hB.below k0 (Nat.le_refl _)).more k0.size
  have HW := Lib.hid hW
  clear hW
  cases h1 : isX p k l with
  | false =>
    have e : resRenamePainting p k l m = (0, 0, [], false) := by simp [resRenamePainting, h1]
    rw [e]
    have H1 := Lib.hid h1
    clear e h1
    go_enter Try.func54, Try.ntmps54
    go_wp2_with fail
    rw [HW.out]
    refine (ptGood_any p k l A c _ hl RA0).mono ?_
    rw [H1.out]
    rintro e w1 ⟨rfl, hb1⟩
    have k1 := k0.trans (hb1.mono k0.size)
    have RA1 := (RA0.below hb1 (Nat.le_refl _)).more hb1.size
    have RB1 := (RB0.below hb1 (Nat.le_refl _)).more hb1.size
    have a0_1 := carry hb1 a0_0 sP_0
    have a1_1 := carry hb1 a1_0 sP_0
    have a2_1 := carry hb1 a2_0 sP_0
    have x0_1 := carry hb1 x0_0 sR_0
    have z0_1 := (hb1.frozen (p := ⟨w.heap.size + 1, 0, none⟩) sR_0).trans z0_0
    have x1_1 := carry hb1 x1_0 sR_0
    have z1_1 := (hb1.frozen (p := ⟨w.heap.size + 1, 1, none⟩) sR_0).trans z1_0
    have x2_1 := carry hb1 x2_0 sR_0
    have z2_1 := (hb1.frozen (p := ⟨w.heap.size + 1, 2, none⟩) sR_0).trans z2_0
    have sP_1 := Nat.lt_of_lt_of_le sP_0 hb1.size
    have sR_1 := Nat.lt_of_lt_of_le sR_0 hb1.size
    clear RA0 hb1 RB0 a0_0 a1_0 a2_0 x0_0 z0_0 x1_0 z1_0 x2_0 z2_0 sP_0 sR_0
    go_wp2
    refine bodyPost_ret (v := .tuple #[.agg #[.int .i64 0, .int .i64 0, .slice none 0 0], .bool false]) (by simp [results, Try.results54, go_sem, x0_1, x1_1, x2_1]) rfl ?_
    exact ⟨none, 0, rfl, World.ownsRow_nil _ _ _ _, (((k1.setCell (p := ⟨w.heap.size + 1, 0, none⟩) (by simp) _).setCell (p := ⟨w.heap.size + 1, 1, none⟩) (by simp) _).setCell (p := ⟨w.heap.size + 1, 2, none⟩) (by simp) _)⟩
  | true =>
    obtain ⟨hp0, hp1⟩ := (isX_parts h1).1
    cases h2 : isNamingI p m with
    | false =>
      have e : resRenamePainting p k l m = (0, 0, [], false) := by simp [resRenamePainting, h1, h2]
      rw [e]
      have H1 := Lib.hid h1
      have H2 := Lib.hid h2
      clear e h1 h2
      go_enter Try.func54, Try.ntmps54
      go_wp2_with fail
      rw [HW.out]
      refine (ptGood_any p k l A c _ hl RA0).mono ?_
      rw [H1.out]
      rintro e w1 ⟨rfl, hb1⟩
      have k1 := k0.trans (hb1.mono k0.size)
      have RA1 := (RA0.below hb1 (Nat.le_refl _)).more hb1.size
      have RB1 := (RB0.below hb1 (Nat.le_refl _)).more hb1.size
      have a0_1 := carry hb1 a0_0 sP_0
      have a1_1 := carry hb1 a1_0 sP_0
      have a2_1 := carry hb1 a2_0 sP_0
      have x0_1 := carry hb1 x0_0 sR_0
      have z0_1 := (hb1.frozen (p := ⟨w.heap.size + 1, 0, none⟩) sR_0).trans z0_0
      have x1_1 := carry hb1 x1_0 sR_0
      have z1_1 := (hb1.frozen (p := ⟨w.heap.size + 1, 1, none⟩) sR_0).trans z1_0
      have x2_1 := carry hb1 x2_0 sR_0
      have z2_1 := (hb1.frozen (p := ⟨w.heap.size + 1, 2, none⟩) sR_0).trans z2_0
      have sP_1 := Nat.lt_of_lt_of_le sP_0 hb1.size
      have sR_1 := Nat.lt_of_lt_of_le sR_0 hb1.size
      clear RA0 hb1 RB0 a0_0 a1_0 a2_0 x0_0 z0_0 x1_0 z1_0 x2_0 z2_0 sP_0 sR_0
      go_wp2_with fail
      refine (grOrderP_any p m B d _ ⟨by omega, by omega⟩ hq hd RB1).mono ?_
      rw [H2.out]
      rintro e w2 ⟨rfl, hb2⟩
      have k2 := k1.trans (hb2.mono k1.size)
      have RA2 := (RA1.below hb2 (Nat.le_refl _)).more hb2.size
      have RB2 := (RB1.below hb2 (Nat.le_refl _)).more hb2.size
      have a0_2 := carry hb2 a0_1 sP_1
      have a1_2 := carry hb2 a1_1 sP_1
      have a2_2 := carry hb2 a2_1 sP_1
      have x0_2 := carry hb2 x0_1 sR_1
      have z0_2 := (hb2.frozen (p := ⟨w.heap.size + 1, 0, none⟩) sR_1).trans z0_1
      have x1_2 := carry hb2 x1_1 sR_1
      have z1_2 := (hb2.frozen (p := ⟨w.heap.size + 1, 1, none⟩) sR_1).trans z1_1
      have x2_2 := carry hb2 x2_1 sR_1
      have z2_2 := (hb2.frozen (p := ⟨w.heap.size + 1, 2, none⟩) sR_1).trans z2_1
      have sP_2 := Nat.lt_of_lt_of_le sP_1 hb2.size
      have sR_2 := Nat.lt_of_lt_of_le sR_1 hb2.size
      clear RA1 hb2 RB1 a0_1 a1_1 a2_1 x0_1 z0_1 x1_1 z1_1 x2_1 z2_1 sP_1 sR_1
      go_wp2
      refine bodyPost_ret (v := .tuple #[.agg #[.int .i64 0, .int .i64 0, .slice none 0 0], .bool false]) (by simp [results, Try.results54, go_sem, x0_2, x1_2, x2_2]) rfl ?_
      exact ⟨none, 0, rfl, World.ownsRow_nil _ _ _ _, (((k2.setCell (p := ⟨w.heap.size + 1, 0, none⟩) (by simp) _).setCell (p := ⟨w.heap.size + 1, 1, none⟩) (by simp) _).setCell (p := ⟨w.heap.size + 1, 2, none⟩) (by simp) _)⟩
    | true =>
      have H1 := Lib.hid h1
      have H2 := Lib.hid h2
      obtain ⟨n, rfl⟩ : ∃ n : Nat, p = n := ⟨p.toNat, by omega⟩
      have hn9 : n ≤ 8 := by omega
      have hlen := isX_len h1
      rw [Int.toNat_natCast] at hlen
      have hsm := isX_small h1
      have e : resRenamePainting n k l m = ((n : Int), k, renX n l m, true) := by unfold resRenamePainting; rw [h1, h2, Bool.and_self, if_pos rfl]; simp
      rw [e]
      have hml : m.length = n := by have := (isNamingI_parts h2).1; omega
      have hnm := fun a (ha : a < n) => nm_of h2 ha
      have Hnm := Lib.hid hnm
      have Hml := Lib.hid hml
      have hall := sL_all hn9 h2 hlen
      rw [← hall]
      have hsl := fun q => sL_len n m l q
      have callat := fun (a b : Nat) (ha : a < n) (hb : b < n) (hab : a ≠ b) (X : World) => ptAt_any n (nmN m a) (nmN m b) hn9 (nm_of h2 ha).2.1 (nm_of h2 hb).2.1 (fun e => hab (by rw [← (nm_of h2 ha).2.2, e, (nm_of h2 hb).2.2])) X
      have callof := fun (a b : Nat) (ha : a < n) (hb : b < n) (hab : a ≠ b) (X : World) (hR : CRead X X.heap.size A (icells l)) => ptOf_any n k l A c a b X h1 ha hb hab hR
      have hend : sL n m l (atP n n (n + 1)) = sL n m l (allP n).length := by rw [atP_end hn9]
      obtain ⟨R, hR⟩ : ∃ R, sL n m l (allP n).length = R := ⟨_, rfl⟩
      rw [hR] at hend ⊢
      have hRl : R.length = l.length := by rw [← hR]; exact hsl _
      have Callat := Lib.hid callat
      have Callof := Lib.hid callof
      have Hsl := Lib.hid hsl
      have Hend := Lib.hid hend
      have HRl := Lib.hid hRl
      have Hlen := Lib.hid hlen
      have hidx : ∀ a b, a < n → b < n → a ≠ b → atP n (min (nmN m a) (nmN m b)) (max (nmN m a) (nmN m b)) < l.length := fun a b ha hb hab => by
        have n1 := (nm_of h2 ha).2.1
        have n2 := (nm_of h2 hb).2.1
        have n3 : nmN m a ≠ nmN m b := fun e => hab (by rw [← (nm_of h2 ha).2.2, e, (nm_of h2 hb).2.2])
        rw [hlen]
        exact atP_lt hn9 (by omega) (by omega)
      have Hidx := Lib.hid hidx
      clear e h1 h2 hR hall hsl callat callof hend hRl hlen hml hnm hidx
      go_enter Try.func54, Try.ntmps54
      go_wp2_with fail
      rw [HW.out]
      refine (ptGood_any n k l A c _ hl RA0).mono ?_
      rw [H1.out]
      rintro e w1 ⟨rfl, hb1⟩
      have k1 := k0.trans (hb1.mono k0.size)
      have RA1 := (RA0.below hb1 (Nat.le_refl _)).more hb1.size
      have RB1 := (RB0.below hb1 (Nat.le_refl _)).more hb1.size
      have a0_1 := carry hb1 a0_0 sP_0
      have a1_1 := carry hb1 a1_0 sP_0
      have a2_1 := carry hb1 a2_0 sP_0
      have x0_1 := carry hb1 x0_0 sR_0
      have z0_1 := (hb1.frozen (p := ⟨w.heap.size + 1, 0, none⟩) sR_0).trans z0_0
      have x1_1 := carry hb1 x1_0 sR_0
      have z1_1 := (hb1.frozen (p := ⟨w.heap.size + 1, 1, none⟩) sR_0).trans z1_0
      have x2_1 := carry hb1 x2_0 sR_0
      have z2_1 := (hb1.frozen (p := ⟨w.heap.size + 1, 2, none⟩) sR_0).trans z2_0
      have sP_1 := Nat.lt_of_lt_of_le sP_0 hb1.size
      have sR_1 := Nat.lt_of_lt_of_le sR_0 hb1.size
      clear RA0 hb1 RB0 a0_0 a1_0 a2_0 x0_0 z0_0 x1_0 z1_0 x2_0 z2_0 sP_0 sR_0
      go_wp2_with fail
      refine (grOrderP_any n m B d _ ⟨by omega, by omega⟩ hq hd RB1).mono ?_
      rw [H2.out]
      rintro e w2 ⟨rfl, hb2⟩
      have k2 := k1.trans (hb2.mono k1.size)
      have RA2 := (RA1.below hb2 (Nat.le_refl _)).more hb2.size
      have RB2 := (RB1.below hb2 (Nat.le_refl _)).more hb2.size
      have a0_2 := carry hb2 a0_1 sP_1
      have a1_2 := carry hb2 a1_1 sP_1
      have a2_2 := carry hb2 a2_1 sP_1
      have x0_2 := carry hb2 x0_1 sR_1
      have z0_2 := (hb2.frozen (p := ⟨w.heap.size + 1, 0, none⟩) sR_1).trans z0_1
      have x1_2 := carry hb2 x1_1 sR_1
      have z1_2 := (hb2.frozen (p := ⟨w.heap.size + 1, 1, none⟩) sR_1).trans z1_1
      have x2_2 := carry hb2 x2_1 sR_1
      have z2_2 := (hb2.frozen (p := ⟨w.heap.size + 1, 2, none⟩) sR_1).trans z2_1
      have sP_2 := Nat.lt_of_lt_of_le sP_1 hb2.size
      have sR_2 := Nat.lt_of_lt_of_le sR_1 hb2.size
      clear RA1 hb2 RB1 a0_1 a1_1 a2_1 x0_1 z0_1 x1_1 z1_1 x2_1 z2_1 sP_1 sR_1
      go_wp2_with fail
      refine (ptOwn_any n k l A c _ hl RA2 h0).mono ?_
      rintro e w3 ⟨A3, c3, rfl, own3, hb3⟩
      have k3 := k2.trans (hb3.mono k2.size)
      have s3 := hb3.size
      have U0 := Lib.hid a0_2
      have U1 := Lib.hid a1_2
      have U2 := Lib.hid a2_2
      have X0 := Lib.hid x0_2
      have X1 := Lib.hid x1_2
      have X2 := Lib.hid x2_2
      have Z0 := Lib.hid z0_2
      have Z1 := Lib.hid z1_2
      have Z2 := Lib.hid z2_2
      have rel0 : PBox w2.heap.size w2 (w3.alloc (Obj.cells #[.int .i64 n, .int .i64 k, .slice A3 l.length c3] 27)) n k w3.heap.size (.slice A3 l.length c3) l :=
        ⟨hb3.alloc s3 _, s3, heap_alloc_new w3 _, own3.alloc _⟩
      go_upto_region 4 with fail
      obtain ⟨X, hX⟩ : ∃ X, w3.alloc (Obj.cells #[.int .i64 n, .int .i64 k, .slice A3 l.length c3] 27) = X := ⟨_, rfl⟩
      obtain ⟨G, hG⟩ : ∃ G, w3.heap.size = G := ⟨_, rfl⟩
      rw [hX, hG] at rel0
      rw [hX, hG]
      have hGw : w2.heap.size ≤ G := by omega
      clear hX hG own3 hb3 a0_2 a1_2 a2_2 x0_2 x1_2 x2_2 z0_2 z1_2 z2_2 RA2 RB2
      go_wp2_with fail
      go_loopw [7] (fun i wa => ∃ (a : Nat), a ≤ n ∧ i = .int .i64 a ∧ PBox w2.heap.size w2 wa n k G (.slice A3 l.length c3) (sL n m l (atP n a (a + 1)))) (fun i _ => n - (intOf i).toNat)
      case atStart => exact ⟨0, Nat.zero_le _, rfl, by rw [show atP n 0 (0 + 1) = 0 by simp [atP]]; exact rel0⟩
      case round =>
        clear rel0
        obtain ⟨a, ha, rfl, rel⟩ := hrel
        have u0 := carry rel.below U0.out sP_2
        have Rel := Lib.hid rel
        clear rel
        by_cases hlt : a < n
        · have hai : (a : Int) < n := by omega
          go_wp2_with fail
          clear u0
          go_loopw [8] (fun i wb => ∃ (b : Nat), a < b ∧ b ≤ n ∧ i = .int .i64 b ∧ PBox w2.heap.size w2 wb n k G (.slice A3 l.length c3) (sL n m l (atP n a b))) (fun i _ => n - (intOf i).toNat)
          case atStart => exact ⟨a + 1, by omega, by omega, by go_num, Rel.out⟩
          case round =>
            clear Rel
            obtain ⟨b, hab, hbn, rfl, rel⟩ := hrel
            have u0 := carry rel.below U0.out sP_2
            by_cases hbt : b < n
            · have hbi : (b : Int) < n := by omega
              have u1 := carry rel.below U1.out sP_2
              have u2 := carry rel.below U2.out sP_2
              have kX : Below w.heap.size w wr := k2.trans (rel.below.mono k2.size)
              have hGl := rel.lt
              have hpair := pairAt_at hn9 hab hbt
              have hnext : sL n m l (atP n a (b + 1)) = (sL n m l (atP n a b)).set (atP n (min (nmN m a) (nmN m b)) (max (nmN m a) (nmN m b))) (colX n l a b) := by
                rw [atP_succ hab, sL_next hpair]
                unfold colX
                rw [show min a b = a by omega, show max a b = b by omega]
              have hLl := Hsl.out (atP n a b)
              have hidx := Hidx.out a b hlt hbt (by omega)
              have cat := Callat.out a b hlt hbt (by omega)
              have cof := Callof.out a b hlt hbt (by omega)
              obtain ⟨ma, _, _⟩ := Hnm.out a hlt
              obtain ⟨na, _, _⟩ := Hnm.out b hbt
              obtain ⟨L, hL⟩ : ∃ L, sL n m l (atP n a b) = L := ⟨_, rfl⟩
              obtain ⟨ix, hix⟩ : ∃ ix, atP n (min (nmN m a) (nmN m b)) (max (nmN m a) (nmN m b)) = ix := ⟨_, rfl⟩
              obtain ⟨y, hy⟩ : ∃ y, colX n l a b = y := ⟨_, rfl⟩
              rw [hL] at rel hLl hnext
              simp only [hix] at cat hidx hnext
              simp only [hy] at cof hnext
              obtain ⟨ia, hia⟩ : ∃ ia, nmN m a = ia := ⟨_, rfl⟩
              obtain ⟨ib, hib⟩ : ∃ ib, nmN m b = ib := ⟨_, rfl⟩
              simp only [hia, hib] at cat
              rw [hia] at ma
              rw [hib] at na
              have own := rel.own
              rw [hLl] at own
              obtain ⟨g, rfl⟩ := own_form own (by omega)
              have hg := (own.lt g rfl).1
              have hgG : g ≠ G := fun e => rel.ne (by rw [e]; rfl)
              obtain ⟨nb, noff, rfl, hnb, g0⟩ := (hB.below kX (Nat.le_refl _)).int ma
              obtain ⟨nb', noff', he, hnb', g1⟩ := (hB.below kX (Nat.le_refl _)).int na
              simp only [Option.some.injEq, Addr.mk.injEq, and_true] at he
              obtain ⟨rfl, rfl⟩ := he
              obtain ⟨b0, b1, b2, bf⟩ := rel.cells
              have hii : (ix : Int) < (l.length : Int) := by omega
              have ham : (a : Int) < (m.length : Int) := by rw [Hml.out]; omega
              have hbm : (b : Int) < (m.length : Int) := by rw [Hml.out]; omega
              have rdD : CRead wr.drew wr.drew.heap.size A (icells l) := (hA.below kX.drew (Nat.le_refl _)).more kX.size
              have hww := kX.size
              obtain ⟨o5, ho5⟩ := getSome (icells L) ix (by rw [icells_length, hLl]; exact hidx)
              have Rel := Lib.hid rel
              have Hnext := Lib.hid hnext
              have Cat := Lib.hid cat
              have Cof := Lib.hid cof
              have HLl := Lib.hid hLl
              clear rel hnext cat cof hL hix hy hia hib ma na own bf b0 b1 hLl hpair
              go_wp2_with fail
              go_region_held3 (fun w' => w'.cell? ⟨w.heap.size, 0, none⟩ = some (.int .i64 n) ∧ w'.cell? ⟨w.heap.size, 1, none⟩ = some (.int .i64 k) ∧ w'.cell? ⟨w.heap.size, 2, none⟩ = some (.slice A l.length c) ∧ w'.cell? ⟨G, 2, none⟩ = some (.slice (some ⟨g, 0, none⟩) l.length c3) ∧ w'.cell? ⟨nb, noff + a, none⟩ = some (.int .i64 ia) ∧ w'.cell? ⟨nb, noff + b, none⟩ = some (.int .i64 ib))
                (first | exact ⟨u0, u1, u2, b2, g0, g1⟩ | exact ⟨t0, t1, t2, t3, t4, t5⟩ | exact ⟨(World.cell?_setCell_other _ _ _ _ (by intro hcon; injection hcon with h1; omega)).trans t0, (World.cell?_setCell_other _ _ _ _ (by intro hcon; injection hcon with h1; omega)).trans t1, (World.cell?_setCell_other _ _ _ _ (by intro hcon; injection hcon with h1; omega)).trans t2, (World.cell?_setCell_other _ _ _ _ (by intro hcon; injection hcon with h1; omega)).trans t3, (World.cell?_setCell_other _ _ _ _ (by intro hcon; injection hcon with h1; omega)).trans t4, (World.cell?_setCell_other _ _ _ _ (by intro hcon; injection hcon with h1; omega)).trans t5⟩)
                ((first
                  | (go_at_call 73; refine (Cat.out _).mono ?_; rintro e w' ⟨rfl, rfl⟩)
                  | (go_at_call 68; refine (Cof.out _ rdD).mono ?_; rintro e v1 ⟨rfl, hb5⟩; have k5 : Below wr.heap.size wr v1 := (Below.refl _ _).drew.trans hb5; have t0 := carry k5 u0 (by omega); have t1 := carry k5 u1 (by omega); have t2 := carry k5 u2 (by omega); have t3 := carry k5 b2 (by omega); have t4 := carry k5 g0 (by omega); have t5 := carry k5 g1 (by omega); have rel5 := Rel.out.kept k5 (by omega); have ow5 := rel5.own; rw [HLl.out] at ow5; have fz5 := ow5.frozenAt ix; have ce5 := ow5.cellAt ix (by omega); rw [ho5] at ce5)))
              all_goals (have rel6 := rel5.set HLl.out.symm ix y)
              all_goals (rw [← Hnext.out] at rel6)
              all_goals (have Rel6 := Lib.hid rel6)
              all_goals (clear rel6 rel5 ow5 fz5 ce5 u0 u1 u2 b2 g0 g1 t0 t1 t2 t3 t4 t5)
              all_goals (go_wp2_with fail)
              all_goals (go_roundw)
              all_goals first
                | exact ⟨b + 1, by omega, by omega, by go_num, Rel6.out⟩
                | (simp [intOf]; omega)
            · have hbn2 : b = n := by omega
              have hge : ¬ ((b : Int) < n) := by omega
              rw [hbn2, atP_row hn9 hlt] at rel
              have Rel := Lib.hid rel
              subst hbn2
              clear rel
              go_wp2
              go_roundw
              case rel => exact ⟨a + 1, by omega, by go_num, Rel.out⟩
              case measure => simp [intOf]; omega
        · have han : a = n := by omega
          have hge : ¬ ((a : Int) < n) := by omega
          subst han
          have rel := Rel.out
          rw [Hend.out] at rel
          obtain ⟨b0, b1, b2, bf⟩ := rel.cells
          have r0 := carry rel.below X0.out sR_2
          have r1 := carry rel.below X1.out sR_2
          have r2 := carry rel.below X2.out sR_2
          have f0 := (rel.below.frozen (p := ⟨w.heap.size + 1, 0, none⟩) sR_2).trans Z0.out
          have f1 := (rel.below.frozen (p := ⟨w.heap.size + 1, 1, none⟩) sR_2).trans Z1.out
          have f2 := (rel.below.frozen (p := ⟨w.heap.size + 1, 2, none⟩) sR_2).trans Z2.out
          have hne : ¬ G = w.heap.size + 1 := by omega
          have kX : Below w.heap.size w wr := k2.trans (rel.below.mono k2.size)
          have RelT := Lib.hid rel
          clear rel bf Rel
          go_wp2
          refine bodyPost_ret (v := .tuple #[.agg #[.int .i64 a, .int .i64 k, .slice A3 l.length c3], .bool true]) (by simp [results, Try.results54, go_sem, r0, r1, r2]) rfl ?_
          refine ⟨A3, c3, by rw [HRl.out], ?_, ((kX.setCell (p := ⟨w.heap.size + 1, 0, none⟩) (by simp) _).setCell (p := ⟨w.heap.size + 1, 1, none⟩) (by simp) _).setCell (p := ⟨w.heap.size + 1, 2, none⟩) (by simp) _⟩
          have ho := RelT.out.own
          rw [HRl.out] at ho ⊢
          exact own_lower (ownsRow_setCell_below (ownsRow_setCell_below (ownsRow_setCell_below ho (a := ⟨w.heap.size + 1, 0, none⟩) sR_2 _) (a := ⟨w.heap.size + 1, 1, none⟩) sR_2 _) (a := ⟨w.heap.size + 1, 2, none⟩) sR_2 _) (by omega)
end Go.Proofs.Ytepoabbkalhifaa
/-
  'laws.FnExactRenamePainting' returns true, whatever its arguments: out of the contracts of the model's function and of the program's.
-/
namespace Go.Proofs.Ytepoabbkalhifaa
open Go.RowKit

set_option maxHeartbeats 4000000 in
set_option maxRecDepth 100000 in
theorem lawRenamePainting_any (p0 k0 : Int) (l0 : List Int) (A0 : Option Addr) (c0 : Nat) (q1 : List Int) (A1 : Option Addr) (c1 : Nat) (W : World) (hl0 : l0.length ≤ maxLen) (hA0 : CRead W W.heap.size A0 (icells l0)) (hl1 : q1.length ≤ maxLen) (hA1 : CRead W W.heap.size A1 (icells q1)) :
    Calls Try.prog 15 #[.agg #[.int .i64 p0, .int .i64 k0, .slice A0 l0.length c0], .slice A1 q1.length c1] W fun e w' => e = .returned (.bool true) ∧ Below W.heap.size W w' := by
  have hone : (0 : Int) ≤ 1 ∧ (1 : Int) ≤ 16777216 := by omega
  by_cases hq1 : (1048576 : Int) < (q1.length : Int)
  · unfold maxLen at *
    go_enter Try.func15, Try.ntmps15
    go_wp2
    go_ret
    exact ⟨rfl, by go_grown⟩
  have hn1 : q1.length ≤ 1048576 := by omega
  by_cases hz0 : szI (1048576) l0.length < 0
  · go_enter Try.func15, Try.ntmps15
    go_wp2_with fail
    refine (szPainting_any _ _ _ _ _ _ hl0 (by omega) (by omega) _).mono ?_
    rintro e w1 ⟨rfl, hb1⟩
    simp only [World.size_alloc] at hb1
    have g1 : Below W.heap.size W w1 := Below.trans (b := _) (by go_grown) (hb1.mono (by omega))
    have s1 := hb1.size
    simp only [World.size_alloc] at s1
    have f1_0 : w1.cell? ⟨W.heap.size, 0, none⟩ = some (.int .i64 p0) := carry hb1 (by simp) (by omega)
    have f1_1 : w1.cell? ⟨W.heap.size, 1, none⟩ = some (.int .i64 k0) := carry hb1 (by simp) (by omega)
    have f1_2 : w1.cell? ⟨W.heap.size, 2, none⟩ = some (.slice A0 l0.length c0) := carry hb1 (by simp) (by omega)
    have k1 : Below W.heap.size W w1 := g1
    go_wp2
    go_ret
    exact ⟨rfl, k1⟩
  have hn0 : l0.length ≤ 1048576 := by have h1 := szI_len _ _ hz0; have h2 := szI_hi (1048576) l0.length (by omega); omega
  have hz0' : 0 ≤ szI (1048576) l0.length := by omega
  have hz0'' : szI (1048576) l0.length ≤ 1048576 := by have h2 := szI_hi (1048576) l0.length (by omega); omega
  obtain ⟨⟨rq, rk, rm, rok⟩, hres⟩ : ∃ r, resRenamePainting p0 k0 l0 q1 = r := ⟨_, rfl⟩
  have hrn : rm.length ≤ 1048576 := by have h := resRenamePainting_len p0 k0 l0 q1; rw [hres] at h; exact h
  have hrl : rm.length ≤ maxLen := by unfold maxLen; omega
  have Hres := Lib.hid hres
  clear hres
  go_enter Try.func15, Try.ntmps15
  go_wp2_with fail
  refine (szPainting_any _ _ _ _ _ _ hl0 (by omega) (by omega) _).mono ?_
  rintro e w1 ⟨rfl, hb1⟩
  simp only [World.size_alloc] at hb1
  have g1 : Below W.heap.size W w1 := Below.trans (b := _) (by go_grown) (hb1.mono (by omega))
  have s1 := hb1.size
  simp only [World.size_alloc] at s1
  have f1_0 : w1.cell? ⟨W.heap.size, 0, none⟩ = some (.int .i64 p0) := carry hb1 (by simp) (by omega)
  have f1_1 : w1.cell? ⟨W.heap.size, 1, none⟩ = some (.int .i64 k0) := carry hb1 (by simp) (by omega)
  have f1_2 : w1.cell? ⟨W.heap.size, 2, none⟩ = some (.slice A0 l0.length c0) := carry hb1 (by simp) (by omega)
  have k1 : Below W.heap.size W w1 := g1
  go_wp2_with fail
  refine (toPainting_any p0 k0 l0 A0 c0 _ hn0 ((hA0.below k1 (Nat.le_refl _)).more k1.size)).mono ?_
  rintro e w2 ⟨T2, d2, rfl, n2, hb2⟩
  have g2 : Below w1.heap.size w1 w2 := hb2
  have s2 := hb2.size
  have f2_0 := carry g2 f1_0 (by omega)
  have f2_1 := carry g2 f1_1 (by omega)
  have f2_2 := carry g2 f1_2 (by omega)
  have k2 := k1.trans (g2.mono k1.size)
  clear f1_0 f1_1 f1_2
  have r2 : Lies (.slice T2 l0.length d2) (w1.heap.size) w2.heap.size := own_lies n2
  go_wp2_with fail
  refine (toIntS_got q1 A1 c1 _ hn1 ((hA1.below k2 (Nat.le_refl _)).more k2.size)).mono ?_
  rintro e w3 ⟨T3, d3, rfl, n3, hb3⟩
  have g3 : Below w2.heap.size w2 w3 := hb3
  have s3 := hb3.size
  have f3_0 := carry g3 f2_0 (by omega)
  have f3_1 := carry g3 f2_1 (by omega)
  have f3_2 := carry g3 f2_2 (by omega)
  have o3_0 := own_below n2 g3 (Nat.le_refl _)
  have k3 := k2.trans (g3.mono k2.size)
  clear f2_0 f2_1 f2_2 n2
  have r3 : Lies (.slice T3 q1.length d3) (w2.heap.size) w3.heap.size := own_lies n3
  go_wp2_with fail
  refine (specRenamePainting_any p0 k0 l0 _ _ q1 _ _ _ hn0 (CRead.of_own o3_0) (own_zero o3_0) hn1 (CRead.of_own n3) (own_cap n3)).mono ?_
  rw [Hres.out]
  rintro e w4 ⟨T4, d4, rfl, n4, hb4⟩
  have g4 : Below w3.heap.size w3 w4 := hb4
  have s4 := hb4.size
  have f4_0 := carry g4 f3_0 (by omega)
  have f4_1 := carry g4 f3_1 (by omega)
  have f4_2 := carry g4 f3_2 (by omega)
  have o4_0 := own_below o3_0 g4 (Nat.le_refl _)
  have o4_1 := own_below n3 g4 (Nat.le_refl _)
  have k4 := k3.trans (g4.mono k3.size)
  clear f3_0 f3_1 f3_2 o3_0 n3
  have r4 : Lies (.slice T4 rm.length d4) (w3.heap.size) w4.heap.size := own_lies n4
  have q5_0 : (w4.alloc (Obj.cells #[.int .i64 rq, .int .i64 rk, .slice T4 rm.length d4] 27)).cell? ⟨W.heap.size, 0, none⟩ = some (.int .i64 p0) := (World.cell?_alloc_lt _ _ _ (show W.heap.size < w4.heap.size by omega)).trans f4_0
  have q5_1 : (w4.alloc (Obj.cells #[.int .i64 rq, .int .i64 rk, .slice T4 rm.length d4] 27)).cell? ⟨W.heap.size, 1, none⟩ = some (.int .i64 k0) := (World.cell?_alloc_lt _ _ _ (show W.heap.size < w4.heap.size by omega)).trans f4_1
  have q5_2 : (w4.alloc (Obj.cells #[.int .i64 rq, .int .i64 rk, .slice T4 rm.length d4] 27)).cell? ⟨W.heap.size, 2, none⟩ = some (.slice A0 l0.length c0) := (World.cell?_alloc_lt _ _ _ (show W.heap.size < w4.heap.size by omega)).trans f4_2
  clear o4_0 r2
  clear o4_1 r3
  go_wp2_with fail
  refine (toPainting_any p0 k0 l0 A0 c0 _ hn0 ((hA0.below (B' := W.heap.size) (Below.trans k4 (by go_grown)) (Nat.le_refl _)).more (by go_size))).mono ?_
  rintro e w6 ⟨T6, d6, rfl, n6, hb6⟩
  simp only [World.size_alloc] at n6
  simp only [World.size_alloc] at hb6
  have g6 : Below w4.heap.size w4 w6 := Below.trans (b := _) (by go_grown) (hb6.mono (by omega))
  have s6 := hb6.size
  simp only [World.size_alloc] at s6
  have f6_0 := carry g6 f4_0 (by omega)
  have f6_1 := carry g6 f4_1 (by omega)
  have f6_2 := carry g6 f4_2 (by omega)
  have f6_3 : w6.cell? ⟨w4.heap.size, 0, none⟩ = some (.int .i64 rq) := carry hb6 (by simp) (by omega)
  have f6_4 : w6.cell? ⟨w4.heap.size, 1, none⟩ = some (.int .i64 rk) := carry hb6 (by simp) (by omega)
  have f6_5 : w6.cell? ⟨w4.heap.size, 2, none⟩ = some (.slice T4 rm.length d4) := carry hb6 (by simp) (by omega)
  have o6_0 := own_below n4 g6 (Nat.le_refl _)
  have k6 := k4.trans (g6.mono k4.size)
  clear f4_0 f4_1 f4_2 n4 q5_0 q5_1 q5_2
  have r6 : Lies (.slice T6 l0.length d6) (w4.heap.size + 1) w6.heap.size := own_lies n6
  have q7_0 : (w6.alloc (Obj.cells #[.int .i64 p0, .int .i64 k0, .slice T6 l0.length d6] 27)).cell? ⟨W.heap.size, 0, none⟩ = some (.int .i64 p0) := (World.cell?_alloc_lt _ _ _ (show W.heap.size < w6.heap.size by omega)).trans f6_0
  have q7_1 : (w6.alloc (Obj.cells #[.int .i64 p0, .int .i64 k0, .slice T6 l0.length d6] 27)).cell? ⟨W.heap.size, 1, none⟩ = some (.int .i64 k0) := (World.cell?_alloc_lt _ _ _ (show W.heap.size < w6.heap.size by omega)).trans f6_1
  have q7_2 : (w6.alloc (Obj.cells #[.int .i64 p0, .int .i64 k0, .slice T6 l0.length d6] 27)).cell? ⟨W.heap.size, 2, none⟩ = some (.slice A0 l0.length c0) := (World.cell?_alloc_lt _ _ _ (show W.heap.size < w6.heap.size by omega)).trans f6_2
  have q7_3 : (w6.alloc (Obj.cells #[.int .i64 p0, .int .i64 k0, .slice T6 l0.length d6] 27)).cell? ⟨w4.heap.size, 0, none⟩ = some (.int .i64 rq) := (World.cell?_alloc_lt _ _ _ (show w4.heap.size < w6.heap.size by omega)).trans f6_3
  have q7_4 : (w6.alloc (Obj.cells #[.int .i64 p0, .int .i64 k0, .slice T6 l0.length d6] 27)).cell? ⟨w4.heap.size, 1, none⟩ = some (.int .i64 rk) := (World.cell?_alloc_lt _ _ _ (show w4.heap.size < w6.heap.size by omega)).trans f6_4
  have q7_5 : (w6.alloc (Obj.cells #[.int .i64 p0, .int .i64 k0, .slice T6 l0.length d6] 27)).cell? ⟨w4.heap.size, 2, none⟩ = some (.slice T4 rm.length d4) := (World.cell?_alloc_lt _ _ _ (show w4.heap.size < w6.heap.size by omega)).trans f6_5
  go_wp2_with fail
  refine (toIntS_got q1 A1 c1 _ hn1 ((hA1.below (B' := W.heap.size) (Below.trans k6 (by go_grown)) (Nat.le_refl _)).more (by go_size))).mono ?_
  rintro e w8 ⟨T8, d8, rfl, n8, hb8⟩
  simp only [World.size_alloc] at n8
  simp only [World.size_alloc] at hb8
  have g8 : Below w6.heap.size w6 w8 := Below.trans (b := _) (by go_grown) (hb8.mono (by omega))
  have s8 := hb8.size
  simp only [World.size_alloc] at s8
  have f8_0 := carry g8 f6_0 (by omega)
  have f8_1 := carry g8 f6_1 (by omega)
  have f8_2 := carry g8 f6_2 (by omega)
  have f8_3 := carry g8 f6_3 (by omega)
  have f8_4 := carry g8 f6_4 (by omega)
  have f8_5 := carry g8 f6_5 (by omega)
  have f8_6 : w8.cell? ⟨w6.heap.size, 0, none⟩ = some (.int .i64 p0) := carry hb8 (by simp) (by omega)
  have f8_7 : w8.cell? ⟨w6.heap.size, 1, none⟩ = some (.int .i64 k0) := carry hb8 (by simp) (by omega)
  have f8_8 : w8.cell? ⟨w6.heap.size, 2, none⟩ = some (.slice T6 l0.length d6) := carry hb8 (by simp) (by omega)
  have o8_0 := own_below o6_0 g8 (Nat.le_refl _)
  have o8_1 := own_below n6 g8 (Nat.le_refl _)
  have k8 := k6.trans (g8.mono k6.size)
  clear f6_0 f6_1 f6_2 f6_3 f6_4 f6_5 o6_0 n6 q7_0 q7_1 q7_2 q7_3 q7_4 q7_5
  have r8 : Lies (.slice T8 q1.length d8) (w6.heap.size + 1) w8.heap.size := own_lies n8
  go_wp2_with fail
  refine (implRenamePainting_any p0 k0 l0 _ _ q1 _ _ _ hn0 (CRead.of_own o8_1) hn1 (CRead.of_own n8)).mono ?_
  rw [Hres.out]
  rintro e w9 ⟨T9, d9, rfl, n9, hb9⟩
  have g9 : Below w8.heap.size w8 w9 := hb9
  have s9 := hb9.size
  have f9_0 := carry g9 f8_0 (by omega)
  have f9_1 := carry g9 f8_1 (by omega)
  have f9_2 := carry g9 f8_2 (by omega)
  have f9_3 := carry g9 f8_3 (by omega)
  have f9_4 := carry g9 f8_4 (by omega)
  have f9_5 := carry g9 f8_5 (by omega)
  have f9_6 := carry g9 f8_6 (by omega)
  have f9_7 := carry g9 f8_7 (by omega)
  have f9_8 := carry g9 f8_8 (by omega)
  have o9_0 := own_below o8_0 g9 (Nat.le_refl _)
  have o9_1 := own_below o8_1 g9 (Nat.le_refl _)
  have o9_2 := own_below n8 g9 (Nat.le_refl _)
  have k9 := k8.trans (g9.mono k8.size)
  clear f8_0 f8_1 f8_2 f8_3 f8_4 f8_5 f8_6 f8_7 f8_8 o8_0 o8_1 n8
  have r9 : Lies (.slice T9 rm.length d9) (w8.heap.size) w9.heap.size := own_lies n9
  have q10_0 : (w9.alloc (Obj.cells #[.int .i64 rq, .int .i64 rk, .slice T9 rm.length d9] 27)).cell? ⟨W.heap.size, 0, none⟩ = some (.int .i64 p0) := (World.cell?_alloc_lt _ _ _ (show W.heap.size < w9.heap.size by omega)).trans f9_0
  have q10_1 : (w9.alloc (Obj.cells #[.int .i64 rq, .int .i64 rk, .slice T9 rm.length d9] 27)).cell? ⟨W.heap.size, 1, none⟩ = some (.int .i64 k0) := (World.cell?_alloc_lt _ _ _ (show W.heap.size < w9.heap.size by omega)).trans f9_1
  have q10_2 : (w9.alloc (Obj.cells #[.int .i64 rq, .int .i64 rk, .slice T9 rm.length d9] 27)).cell? ⟨W.heap.size, 2, none⟩ = some (.slice A0 l0.length c0) := (World.cell?_alloc_lt _ _ _ (show W.heap.size < w9.heap.size by omega)).trans f9_2
  have q10_3 : (w9.alloc (Obj.cells #[.int .i64 rq, .int .i64 rk, .slice T9 rm.length d9] 27)).cell? ⟨w4.heap.size, 0, none⟩ = some (.int .i64 rq) := (World.cell?_alloc_lt _ _ _ (show w4.heap.size < w9.heap.size by omega)).trans f9_3
  have q10_4 : (w9.alloc (Obj.cells #[.int .i64 rq, .int .i64 rk, .slice T9 rm.length d9] 27)).cell? ⟨w4.heap.size, 1, none⟩ = some (.int .i64 rk) := (World.cell?_alloc_lt _ _ _ (show w4.heap.size < w9.heap.size by omega)).trans f9_4
  have q10_5 : (w9.alloc (Obj.cells #[.int .i64 rq, .int .i64 rk, .slice T9 rm.length d9] 27)).cell? ⟨w4.heap.size, 2, none⟩ = some (.slice T4 rm.length d4) := (World.cell?_alloc_lt _ _ _ (show w4.heap.size < w9.heap.size by omega)).trans f9_5
  have q10_6 : (w9.alloc (Obj.cells #[.int .i64 rq, .int .i64 rk, .slice T9 rm.length d9] 27)).cell? ⟨w6.heap.size, 0, none⟩ = some (.int .i64 p0) := (World.cell?_alloc_lt _ _ _ (show w6.heap.size < w9.heap.size by omega)).trans f9_6
  have q10_7 : (w9.alloc (Obj.cells #[.int .i64 rq, .int .i64 rk, .slice T9 rm.length d9] 27)).cell? ⟨w6.heap.size, 1, none⟩ = some (.int .i64 k0) := (World.cell?_alloc_lt _ _ _ (show w6.heap.size < w9.heap.size by omega)).trans f9_7
  have q10_8 : (w9.alloc (Obj.cells #[.int .i64 rq, .int .i64 rk, .slice T9 rm.length d9] 27)).cell? ⟨w6.heap.size, 2, none⟩ = some (.slice T6 l0.length d6) := (World.cell?_alloc_lt _ _ _ (show w6.heap.size < w9.heap.size by omega)).trans f9_8
  go_wp2_with fail
  refine (eqPainting_any rq rq rk rk rm rm _ _ _ _ _ hrl hrl ((((CRead.of_own n9).below (B' := w9.heap.size) (by go_grown) (Nat.le_refl _)).more (by go_size))) ((((CRead.of_own o9_0).below (B' := w9.heap.size) (by go_grown) (Nat.le_refl _)).more (by go_size)))).mono ?_
  rw [decide_eq_true ⟨rfl, rfl, rfl⟩]
  rintro e w11 ⟨rfl, hb11⟩
  simp only [World.size_alloc] at hb11
  have g11 : Below w9.heap.size w9 w11 := Below.trans (b := _) (by go_grown) (hb11.mono (by omega))
  have s11 := hb11.size
  simp only [World.size_alloc] at s11
  have f11_0 := carry g11 f9_0 (by omega)
  have f11_1 := carry g11 f9_1 (by omega)
  have f11_2 := carry g11 f9_2 (by omega)
  have f11_3 := carry g11 f9_3 (by omega)
  have f11_4 := carry g11 f9_4 (by omega)
  have f11_5 := carry g11 f9_5 (by omega)
  have f11_6 := carry g11 f9_6 (by omega)
  have f11_7 := carry g11 f9_7 (by omega)
  have f11_8 := carry g11 f9_8 (by omega)
  have f11_9 : w11.cell? ⟨w9.heap.size, 0, none⟩ = some (.int .i64 rq) := carry hb11 (by simp) (by omega)
  have f11_10 : w11.cell? ⟨w9.heap.size, 1, none⟩ = some (.int .i64 rk) := carry hb11 (by simp) (by omega)
  have f11_11 : w11.cell? ⟨w9.heap.size, 2, none⟩ = some (.slice T9 rm.length d9) := carry hb11 (by simp) (by omega)
  have o11_0 := own_below o9_0 g11 (Nat.le_refl _)
  have o11_1 := own_below o9_1 g11 (Nat.le_refl _)
  have o11_2 := own_below o9_2 g11 (Nat.le_refl _)
  have o11_3 := own_below n9 g11 (Nat.le_refl _)
  have k11 := k9.trans (g11.mono k9.size)
  clear f9_0 f9_1 f9_2 f9_3 f9_4 f9_5 f9_6 f9_7 f9_8 o9_0 o9_1 o9_2 n9 q10_0 q10_1 q10_2 q10_3 q10_4 q10_5 q10_6 q10_7 q10_8
  go_wp2
  go_region_held3 (fun w' => w'.cell? ⟨W.heap.size, 0, none⟩ = some (.int .i64 p0) ∧ w'.cell? ⟨W.heap.size, 1, none⟩ = some (.int .i64 k0) ∧ w'.cell? ⟨W.heap.size, 2, none⟩ = some (.slice A0 l0.length c0) ∧ w'.cell? ⟨w6.heap.size, 0, none⟩ = some (.int .i64 p0) ∧ w'.cell? ⟨w6.heap.size, 1, none⟩ = some (.int .i64 k0) ∧ w'.cell? ⟨w6.heap.size, 2, none⟩ = some (.slice T6 l0.length d6) ∧ w'.cell? ⟨w4.heap.size, 0, none⟩ = some (.int .i64 rq) ∧ w'.cell? ⟨w4.heap.size, 1, none⟩ = some (.int .i64 rk) ∧ w'.cell? ⟨w4.heap.size, 2, none⟩ = some (.slice T4 rm.length d4) ∧ w'.cell? ⟨w9.heap.size, 0, none⟩ = some (.int .i64 rq) ∧ w'.cell? ⟨w9.heap.size, 1, none⟩ = some (.int .i64 rk) ∧ w'.cell? ⟨w9.heap.size, 2, none⟩ = some (.slice T9 rm.length d9)) (first | exact ⟨f11_0, f11_1, f11_2, f11_6, f11_7, f11_8, f11_3, f11_4, f11_5, f11_9, f11_10, f11_11⟩ | exact ⟨f12_0, f12_1, f12_2, f12_3, f12_4, f12_5, f12_6, f12_7, f12_8, f12_9, f12_10, f12_11⟩ | exact ⟨f13_0, f13_1, f13_2, f13_3, f13_4, f13_5, f13_6, f13_7, f13_8, f13_9, f13_10, f13_11⟩) ((first | (go_at_call 19; refine (toPainting_any p0 k0 l0 A0 c0 _ hn0 ((hA0.below k11.drew (Nat.le_refl _)).more k11.size)).mono ?_; rintro e w12 ⟨T12, d12, rfl, n12, hb12⟩; have g12 : Below w11.heap.size w11 w12 := (Below.refl _ _).drew.trans hb12; have s12 := g12.size; have f12_0 := carry g12 f11_0 (by omega); have f12_1 := carry g12 f11_1 (by omega); have f12_2 := carry g12 f11_2 (by omega); have f12_3 := carry g12 f11_6 (by omega); have f12_4 := carry g12 f11_7 (by omega); have f12_5 := carry g12 f11_8 (by omega); have f12_6 := carry g12 f11_3 (by omega); have f12_7 := carry g12 f11_4 (by omega); have f12_8 := carry g12 f11_5 (by omega); have f12_9 := carry g12 f11_9 (by omega); have f12_10 := carry g12 f11_10 (by omega); have f12_11 := carry g12 f11_11 (by omega); have o12_0 := own_below o11_0 g12 (Nat.le_refl _); have o12_1 := own_below o11_1 g12 (Nat.le_refl _); have o12_2 := own_below o11_2 g12 (Nat.le_refl _); have o12_3 := own_below o11_3 g12 (Nat.le_refl _); have k12 := k11.trans (g12.mono k11.size)) | (go_at_call 21; refine (eqPainting_any p0 p0 k0 k0 l0 l0 _ _ _ _ _ hl0 hl0 (CRead.of_own o12_1) (CRead.of_own n12)).mono ?_; rw [decide_eq_true ⟨rfl, rfl, rfl⟩]; rintro e w13 ⟨rfl, hb13⟩; have g13 : Below w12.heap.size w12 w13 := hb13; have s13 := g13.size; have f13_0 := carry g13 f12_0 (by omega); have f13_1 := carry g13 f12_1 (by omega); have f13_2 := carry g13 f12_2 (by omega); have f13_3 := carry g13 f12_3 (by omega); have f13_4 := carry g13 f12_4 (by omega); have f13_5 := carry g13 f12_5 (by omega); have f13_6 := carry g13 f12_6 (by omega); have f13_7 := carry g13 f12_7 (by omega); have f13_8 := carry g13 f12_8 (by omega); have f13_9 := carry g13 f12_9 (by omega); have f13_10 := carry g13 f12_10 (by omega); have f13_11 := carry g13 f12_11 (by omega); have o13_0 := own_below o12_0 g13 (Nat.le_refl _); have o13_1 := own_below o12_1 g13 (Nat.le_refl _); have o13_2 := own_below o12_2 g13 (Nat.le_refl _); have o13_3 := own_below o12_3 g13 (Nat.le_refl _); have k13 := k12.trans (g13.mono k12.size))))
  clear f11_0 f11_1 f11_2 f11_3 f11_4 f11_5 f11_6 f11_7 f11_8 f11_9 f11_10 f11_11 o11_0 o11_1 o11_2 o11_3 f12_0 f12_1 f12_2 f12_3 f12_4 f12_5 f12_6 f12_7 f12_8 f12_9 f12_10 f12_11 o12_0 o12_1 o12_2 o12_3 n12
  go_wp2_with fail
  refine (toIntS_got q1 A1 c1 _ hn1 ((hA1.below k13 (Nat.le_refl _)).more k13.size)).mono ?_
  rintro e w14 ⟨T14, d14, rfl, n14, hb14⟩
  have g14 : Below w13.heap.size w13 w14 := hb14
  have s14 := hb14.size
  have f14_0 := carry g14 f13_0 (by omega)
  have f14_1 := carry g14 f13_1 (by omega)
  have f14_2 := carry g14 f13_2 (by omega)
  have f14_3 := carry g14 f13_3 (by omega)
  have f14_4 := carry g14 f13_4 (by omega)
  have f14_5 := carry g14 f13_5 (by omega)
  have f14_6 := carry g14 f13_6 (by omega)
  have f14_7 := carry g14 f13_7 (by omega)
  have f14_8 := carry g14 f13_8 (by omega)
  have f14_9 := carry g14 f13_9 (by omega)
  have f14_10 := carry g14 f13_10 (by omega)
  have f14_11 := carry g14 f13_11 (by omega)
  have o14_0 := own_below o13_0 g14 (Nat.le_refl _)
  have o14_1 := own_below o13_1 g14 (Nat.le_refl _)
  have o14_2 := own_below o13_2 g14 (Nat.le_refl _)
  have o14_3 := own_below o13_3 g14 (Nat.le_refl _)
  have k14 := k13.trans (g14.mono k13.size)
  clear f13_0 f13_1 f13_2 f13_3 f13_4 f13_5 f13_6 f13_7 f13_8 f13_9 f13_10 f13_11 o13_0 o13_1 o13_2 o13_3
  have r14 : Lies (.slice T14 q1.length d14) (w13.heap.size) w14.heap.size := own_lies n14
  go_wp2_with fail
  refine (eqIntS_any q1 q1 _ _ _ _ _ hl1 hl1 (CRead.of_own o14_2) (CRead.of_own n14)).mono ?_
  rw [decide_eq_true rfl]
  rintro e w15 ⟨rfl, hb15⟩
  have g15 : Below w14.heap.size w14 w15 := hb15
  have s15 := hb15.size
  have f15_0 := carry g15 f14_0 (by omega)
  have f15_1 := carry g15 f14_1 (by omega)
  have f15_2 := carry g15 f14_2 (by omega)
  have f15_3 := carry g15 f14_3 (by omega)
  have f15_4 := carry g15 f14_4 (by omega)
  have f15_5 := carry g15 f14_5 (by omega)
  have f15_6 := carry g15 f14_6 (by omega)
  have f15_7 := carry g15 f14_7 (by omega)
  have f15_8 := carry g15 f14_8 (by omega)
  have f15_9 := carry g15 f14_9 (by omega)
  have f15_10 := carry g15 f14_10 (by omega)
  have f15_11 := carry g15 f14_11 (by omega)
  have o15_0 := own_below o14_0 g15 (Nat.le_refl _)
  have o15_1 := own_below o14_1 g15 (Nat.le_refl _)
  have o15_2 := own_below o14_2 g15 (Nat.le_refl _)
  have o15_3 := own_below o14_3 g15 (Nat.le_refl _)
  have o15_4 := own_below n14 g15 (Nat.le_refl _)
  have k15 := k14.trans (g15.mono k14.size)
  clear f14_0 f14_1 f14_2 f14_3 f14_4 f14_5 f14_6 f14_7 f14_8 f14_9 f14_10 f14_11 o14_0 o14_1 o14_2 o14_3 n14
  clear o15_4 r14
  go_wp2_with fail
  refine (markPainting_any p0 k0 l0 _ _ _ (1) _ _ rfl hn0 (by omega) o15_1).mono ?_
  rintro e w16 ⟨rfl, n16, hg16⟩
  have s16 := hg16.size
  have f16_0 := carryG hg16 r6 f15_0 (by omega)
  have f16_1 := carryG hg16 r6 f15_1 (by omega)
  have f16_2 := carryG hg16 r6 f15_2 (by omega)
  have f16_3 := carryG hg16 r6 f15_3 (by omega)
  have f16_4 := carryG hg16 r6 f15_4 (by omega)
  have f16_5 := carryG hg16 r6 f15_5 (by omega)
  have f16_6 := carryG hg16 r6 f15_6 (by omega)
  have f16_7 := carryG hg16 r6 f15_7 (by omega)
  have f16_8 := carryG hg16 r6 f15_8 (by omega)
  have f16_9 := carryG hg16 r6 f15_9 (by omega)
  have f16_10 := carryG hg16 r6 f15_10 (by omega)
  have f16_11 := carryG hg16 r6 f15_11 (by omega)
  have o16_0 := keptG hg16 r6 o15_0 r4 (by omega)
  have o16_2 := keptG hg16 r6 o15_2 r8 (by omega)
  have o16_3 := keptG hg16 r6 o15_3 r9 (by omega)
  have k16 := belowG k15 hg16 r6 k15.size (by omega)
  clear f15_0 f15_1 f15_2 f15_3 f15_4 f15_5 f15_6 f15_7 f15_8 f15_9 f15_10 f15_11 o15_0 o15_1 o15_2 o15_3
  go_wp2_with fail
  refine (markIntS_any q1 _ _ _ (1 + (l0.length : Int)) _ _ rfl hn1 (by omega) o16_2).mono ?_
  rintro e w17 ⟨rfl, n17, hg17⟩
  have s17 := hg17.size
  have f17_0 := carryG hg17 r8 f16_0 (by omega)
  have f17_1 := carryG hg17 r8 f16_1 (by omega)
  have f17_2 := carryG hg17 r8 f16_2 (by omega)
  have f17_3 := carryG hg17 r8 f16_3 (by omega)
  have f17_4 := carryG hg17 r8 f16_4 (by omega)
  have f17_5 := carryG hg17 r8 f16_5 (by omega)
  have f17_6 := carryG hg17 r8 f16_6 (by omega)
  have f17_7 := carryG hg17 r8 f16_7 (by omega)
  have f17_8 := carryG hg17 r8 f16_8 (by omega)
  have f17_9 := carryG hg17 r8 f16_9 (by omega)
  have f17_10 := carryG hg17 r8 f16_10 (by omega)
  have f17_11 := carryG hg17 r8 f16_11 (by omega)
  have o17_0 := keptG hg17 r8 o16_0 r4 (by omega)
  have o17_1 := keptG hg17 r8 n16 r6 (by omega)
  have o17_3 := keptG hg17 r8 o16_3 r9 (by omega)
  have k17 := belowG k16 hg17 r8 k16.size (by omega)
  clear f16_0 f16_1 f16_2 f16_3 f16_4 f16_5 f16_6 f16_7 f16_8 f16_9 f16_10 f16_11 o16_0 n16 o16_2 o16_3
  have hmk : ¬ (1 + (l0.length : Int) + (q1.length : Int) < 0) := by omega
  go_wp2_with fail
  refine (eqPainting_any rq rq rk rk rm rm _ _ _ _ _ hrl hrl (CRead.of_own o17_3) (CRead.of_own o17_0)).mono ?_
  rw [decide_eq_true ⟨rfl, rfl, rfl⟩]
  rintro e w18 ⟨rfl, hb18⟩
  have g18 : Below w17.heap.size w17 w18 := hb18
  have s18 := hb18.size
  have f18_0 := carry g18 f17_0 (by omega)
  have f18_1 := carry g18 f17_1 (by omega)
  have f18_2 := carry g18 f17_2 (by omega)
  have f18_3 := carry g18 f17_3 (by omega)
  have f18_4 := carry g18 f17_4 (by omega)
  have f18_5 := carry g18 f17_5 (by omega)
  have f18_6 := carry g18 f17_6 (by omega)
  have f18_7 := carry g18 f17_7 (by omega)
  have f18_8 := carry g18 f17_8 (by omega)
  have f18_9 := carry g18 f17_9 (by omega)
  have f18_10 := carry g18 f17_10 (by omega)
  have f18_11 := carry g18 f17_11 (by omega)
  have o18_0 := own_below o17_0 g18 (Nat.le_refl _)
  have o18_1 := own_below o17_1 g18 (Nat.le_refl _)
  have o18_2 := own_below n17 g18 (Nat.le_refl _)
  have o18_3 := own_below o17_3 g18 (Nat.le_refl _)
  have k18 := k17.trans (g18.mono k17.size)
  clear f17_0 f17_1 f17_2 f17_3 f17_4 f17_5 f17_6 f17_7 f17_8 f17_9 f17_10 f17_11 o17_0 o17_1 n17 o17_3
  clear o18_1 r6
  clear o18_2 r8
  go_wp2_with fail
  refine (markPainting_any rq rk rm _ _ _ 1 _ _ rfl hrn hone o18_3).mono ?_
  rintro e w19 ⟨rfl, n19, hg19⟩
  have s19 := hg19.size
  have f19_0 := carryG hg19 r9 f18_0 (by omega)
  have f19_1 := carryG hg19 r9 f18_1 (by omega)
  have f19_2 := carryG hg19 r9 f18_2 (by omega)
  have f19_3 := carryG hg19 r9 f18_3 (by omega)
  have f19_4 := carryG hg19 r9 f18_4 (by omega)
  have f19_5 := carryG hg19 r9 f18_5 (by omega)
  have f19_6 := carryG hg19 r9 f18_6 (by omega)
  have f19_7 := carryG hg19 r9 f18_7 (by omega)
  have f19_8 := carryG hg19 r9 f18_8 (by omega)
  have f19_9 := carryG hg19 r9 f18_9 (by omega)
  have f19_10 := carryG hg19 r9 f18_10 (by omega)
  have f19_11 := carryG hg19 r9 f18_11 (by omega)
  have o19_0 := keptG hg19 r9 o18_0 r4 (by omega)
  have k19 := belowG k18 hg19 r9 k18.size (by omega)
  clear f18_0 f18_1 f18_2 f18_3 f18_4 f18_5 f18_6 f18_7 f18_8 f18_9 f18_10 f18_11 o18_0 o18_3
  have hmr : ¬ (1 + (rm.length : Int) < 0) := by omega
  go_wp2_with fail
  refine (heldPainting_any _ _ _ _ _ 1 _ hrn hone (CRead.of_own n19)).mono ?_
  rintro e w20 ⟨rfl, hb20⟩
  have g20 : Below w19.heap.size w19 w20 := hb20
  have s20 := hb20.size
  have f20_0 := carry g20 f19_0 (by omega)
  have f20_1 := carry g20 f19_1 (by omega)
  have f20_2 := carry g20 f19_2 (by omega)
  have f20_3 := carry g20 f19_3 (by omega)
  have f20_4 := carry g20 f19_4 (by omega)
  have f20_5 := carry g20 f19_5 (by omega)
  have f20_6 := carry g20 f19_6 (by omega)
  have f20_7 := carry g20 f19_7 (by omega)
  have f20_8 := carry g20 f19_8 (by omega)
  have f20_9 := carry g20 f19_9 (by omega)
  have f20_10 := carry g20 f19_10 (by omega)
  have f20_11 := carry g20 f19_11 (by omega)
  have o20_0 := own_below o19_0 g20 (Nat.le_refl _)
  have o20_1 := own_below n19 g20 (Nat.le_refl _)
  have k20 := k19.trans (g20.mono k19.size)
  clear f19_0 f19_1 f19_2 f19_3 f19_4 f19_5 f19_6 f19_7 f19_8 f19_9 f19_10 f19_11 o19_0 n19
  go_wp2_with fail
  refine (toPainting_any p0 k0 l0 A0 c0 _ hn0 ((hA0.below k20 (Nat.le_refl _)).more k20.size)).mono ?_
  rintro e w21 ⟨T21, d21, rfl, n21, hb21⟩
  have g21 : Below w20.heap.size w20 w21 := hb21
  have s21 := hb21.size
  have f21_0 := carry g21 f20_0 (by omega)
  have f21_1 := carry g21 f20_1 (by omega)
  have f21_2 := carry g21 f20_2 (by omega)
  have f21_3 := carry g21 f20_3 (by omega)
  have f21_4 := carry g21 f20_4 (by omega)
  have f21_5 := carry g21 f20_5 (by omega)
  have f21_6 := carry g21 f20_6 (by omega)
  have f21_7 := carry g21 f20_7 (by omega)
  have f21_8 := carry g21 f20_8 (by omega)
  have f21_9 := carry g21 f20_9 (by omega)
  have f21_10 := carry g21 f20_10 (by omega)
  have f21_11 := carry g21 f20_11 (by omega)
  have o21_0 := own_below o20_0 g21 (Nat.le_refl _)
  have o21_1 := own_below o20_1 g21 (Nat.le_refl _)
  have k21 := k20.trans (g21.mono k20.size)
  clear f20_0 f20_1 f20_2 f20_3 f20_4 f20_5 f20_6 f20_7 f20_8 f20_9 f20_10 f20_11 o20_0 o20_1
  have r21 : Lies (.slice T21 l0.length d21) (w20.heap.size) w21.heap.size := own_lies n21
  go_wp2_with fail
  refine (toIntS_got q1 A1 c1 _ hn1 ((hA1.below k21 (Nat.le_refl _)).more k21.size)).mono ?_
  rintro e w22 ⟨T22, d22, rfl, n22, hb22⟩
  have g22 : Below w21.heap.size w21 w22 := hb22
  have s22 := hb22.size
  have f22_0 := carry g22 f21_0 (by omega)
  have f22_1 := carry g22 f21_1 (by omega)
  have f22_2 := carry g22 f21_2 (by omega)
  have f22_3 := carry g22 f21_3 (by omega)
  have f22_4 := carry g22 f21_4 (by omega)
  have f22_5 := carry g22 f21_5 (by omega)
  have f22_6 := carry g22 f21_6 (by omega)
  have f22_7 := carry g22 f21_7 (by omega)
  have f22_8 := carry g22 f21_8 (by omega)
  have f22_9 := carry g22 f21_9 (by omega)
  have f22_10 := carry g22 f21_10 (by omega)
  have f22_11 := carry g22 f21_11 (by omega)
  have o22_0 := own_below o21_0 g22 (Nat.le_refl _)
  have o22_1 := own_below o21_1 g22 (Nat.le_refl _)
  have o22_2 := own_below n21 g22 (Nat.le_refl _)
  have k22 := k21.trans (g22.mono k21.size)
  clear f21_0 f21_1 f21_2 f21_3 f21_4 f21_5 f21_6 f21_7 f21_8 f21_9 f21_10 f21_11 o21_0 o21_1 n21
  have r22 : Lies (.slice T22 q1.length d22) (w21.heap.size) w22.heap.size := own_lies n22
  go_wp2_with fail
  refine (implRenamePainting_any p0 k0 l0 _ _ q1 _ _ _ hn0 (CRead.of_own o22_2) hn1 (CRead.of_own n22)).mono ?_
  rw [Hres.out]
  rintro e w23 ⟨T23, d23, rfl, n23, hb23⟩
  have g23 : Below w22.heap.size w22 w23 := hb23
  have s23 := hb23.size
  have f23_0 := carry g23 f22_0 (by omega)
  have f23_1 := carry g23 f22_1 (by omega)
  have f23_2 := carry g23 f22_2 (by omega)
  have f23_3 := carry g23 f22_3 (by omega)
  have f23_4 := carry g23 f22_4 (by omega)
  have f23_5 := carry g23 f22_5 (by omega)
  have f23_6 := carry g23 f22_6 (by omega)
  have f23_7 := carry g23 f22_7 (by omega)
  have f23_8 := carry g23 f22_8 (by omega)
  have f23_9 := carry g23 f22_9 (by omega)
  have f23_10 := carry g23 f22_10 (by omega)
  have f23_11 := carry g23 f22_11 (by omega)
  have o23_0 := own_below o22_0 g23 (Nat.le_refl _)
  have o23_1 := own_below o22_1 g23 (Nat.le_refl _)
  have o23_2 := own_below o22_2 g23 (Nat.le_refl _)
  have o23_3 := own_below n22 g23 (Nat.le_refl _)
  have k23 := k22.trans (g23.mono k22.size)
  clear f22_0 f22_1 f22_2 f22_3 f22_4 f22_5 f22_6 f22_7 f22_8 f22_9 f22_10 f22_11 o22_0 o22_1 o22_2 n22
  have r23 : Lies (.slice T23 rm.length d23) (w22.heap.size) w23.heap.size := own_lies n23
  have q24_0 : (w23.alloc (Obj.cells #[.int .i64 rq, .int .i64 rk, .slice T23 rm.length d23] 27)).cell? ⟨W.heap.size, 0, none⟩ = some (.int .i64 p0) := (World.cell?_alloc_lt _ _ _ (show W.heap.size < w23.heap.size by omega)).trans f23_0
  have q24_1 : (w23.alloc (Obj.cells #[.int .i64 rq, .int .i64 rk, .slice T23 rm.length d23] 27)).cell? ⟨W.heap.size, 1, none⟩ = some (.int .i64 k0) := (World.cell?_alloc_lt _ _ _ (show W.heap.size < w23.heap.size by omega)).trans f23_1
  have q24_2 : (w23.alloc (Obj.cells #[.int .i64 rq, .int .i64 rk, .slice T23 rm.length d23] 27)).cell? ⟨W.heap.size, 2, none⟩ = some (.slice A0 l0.length c0) := (World.cell?_alloc_lt _ _ _ (show W.heap.size < w23.heap.size by omega)).trans f23_2
  have q24_3 : (w23.alloc (Obj.cells #[.int .i64 rq, .int .i64 rk, .slice T23 rm.length d23] 27)).cell? ⟨w6.heap.size, 0, none⟩ = some (.int .i64 p0) := (World.cell?_alloc_lt _ _ _ (show w6.heap.size < w23.heap.size by omega)).trans f23_3
  have q24_4 : (w23.alloc (Obj.cells #[.int .i64 rq, .int .i64 rk, .slice T23 rm.length d23] 27)).cell? ⟨w6.heap.size, 1, none⟩ = some (.int .i64 k0) := (World.cell?_alloc_lt _ _ _ (show w6.heap.size < w23.heap.size by omega)).trans f23_4
  have q24_5 : (w23.alloc (Obj.cells #[.int .i64 rq, .int .i64 rk, .slice T23 rm.length d23] 27)).cell? ⟨w6.heap.size, 2, none⟩ = some (.slice T6 l0.length d6) := (World.cell?_alloc_lt _ _ _ (show w6.heap.size < w23.heap.size by omega)).trans f23_5
  have q24_6 : (w23.alloc (Obj.cells #[.int .i64 rq, .int .i64 rk, .slice T23 rm.length d23] 27)).cell? ⟨w4.heap.size, 0, none⟩ = some (.int .i64 rq) := (World.cell?_alloc_lt _ _ _ (show w4.heap.size < w23.heap.size by omega)).trans f23_6
  have q24_7 : (w23.alloc (Obj.cells #[.int .i64 rq, .int .i64 rk, .slice T23 rm.length d23] 27)).cell? ⟨w4.heap.size, 1, none⟩ = some (.int .i64 rk) := (World.cell?_alloc_lt _ _ _ (show w4.heap.size < w23.heap.size by omega)).trans f23_7
  have q24_8 : (w23.alloc (Obj.cells #[.int .i64 rq, .int .i64 rk, .slice T23 rm.length d23] 27)).cell? ⟨w4.heap.size, 2, none⟩ = some (.slice T4 rm.length d4) := (World.cell?_alloc_lt _ _ _ (show w4.heap.size < w23.heap.size by omega)).trans f23_8
  have q24_9 : (w23.alloc (Obj.cells #[.int .i64 rq, .int .i64 rk, .slice T23 rm.length d23] 27)).cell? ⟨w9.heap.size, 0, none⟩ = some (.int .i64 rq) := (World.cell?_alloc_lt _ _ _ (show w9.heap.size < w23.heap.size by omega)).trans f23_9
  have q24_10 : (w23.alloc (Obj.cells #[.int .i64 rq, .int .i64 rk, .slice T23 rm.length d23] 27)).cell? ⟨w9.heap.size, 1, none⟩ = some (.int .i64 rk) := (World.cell?_alloc_lt _ _ _ (show w9.heap.size < w23.heap.size by omega)).trans f23_10
  have q24_11 : (w23.alloc (Obj.cells #[.int .i64 rq, .int .i64 rk, .slice T23 rm.length d23] 27)).cell? ⟨w9.heap.size, 2, none⟩ = some (.slice T9 rm.length d9) := (World.cell?_alloc_lt _ _ _ (show w9.heap.size < w23.heap.size by omega)).trans f23_11
  clear o23_2 r21
  clear o23_3 r22
  go_wp2_with fail
  refine (eqPainting_any rq rq rk rk rm rm _ _ _ _ _ hrl hrl ((((CRead.of_own n23).below (B' := w23.heap.size) (by go_grown) (Nat.le_refl _)).more (by go_size))) ((((CRead.of_own o23_0).below (B' := w23.heap.size) (by go_grown) (Nat.le_refl _)).more (by go_size)))).mono ?_
  rw [decide_eq_true ⟨rfl, rfl, rfl⟩]
  rintro e w25 ⟨rfl, hb25⟩
  simp only [World.size_alloc] at hb25
  have g25 : Below w23.heap.size w23 w25 := Below.trans (b := _) (by go_grown) (hb25.mono (by omega))
  have s25 := hb25.size
  simp only [World.size_alloc] at s25
  have f25_0 := carry g25 f23_0 (by omega)
  have f25_1 := carry g25 f23_1 (by omega)
  have f25_2 := carry g25 f23_2 (by omega)
  have f25_3 := carry g25 f23_3 (by omega)
  have f25_4 := carry g25 f23_4 (by omega)
  have f25_5 := carry g25 f23_5 (by omega)
  have f25_6 := carry g25 f23_6 (by omega)
  have f25_7 := carry g25 f23_7 (by omega)
  have f25_8 := carry g25 f23_8 (by omega)
  have f25_9 := carry g25 f23_9 (by omega)
  have f25_10 := carry g25 f23_10 (by omega)
  have f25_11 := carry g25 f23_11 (by omega)
  have f25_12 : w25.cell? ⟨w23.heap.size, 0, none⟩ = some (.int .i64 rq) := carry hb25 (by simp) (by omega)
  have f25_13 : w25.cell? ⟨w23.heap.size, 1, none⟩ = some (.int .i64 rk) := carry hb25 (by simp) (by omega)
  have f25_14 : w25.cell? ⟨w23.heap.size, 2, none⟩ = some (.slice T23 rm.length d23) := carry hb25 (by simp) (by omega)
  have o25_0 := own_below o23_0 g25 (Nat.le_refl _)
  have o25_1 := own_below o23_1 g25 (Nat.le_refl _)
  have o25_2 := own_below n23 g25 (Nat.le_refl _)
  have k25 := k23.trans (g25.mono k23.size)
  clear f23_0 f23_1 f23_2 f23_3 f23_4 f23_5 f23_6 f23_7 f23_8 f23_9 f23_10 f23_11 o23_0 o23_1 n23 q24_0 q24_1 q24_2 q24_3 q24_4 q24_5 q24_6 q24_7 q24_8 q24_9 q24_10 q24_11
  go_wp2_with fail
  refine (heldPainting_any _ _ _ _ _ 1 _ hrn hone (CRead.of_own o25_1)).mono ?_
  rintro e w26 ⟨rfl, hb26⟩
  have g26 : Below w25.heap.size w25 w26 := hb26
  have s26 := hb26.size
  have f26_0 := carry g26 f25_0 (by omega)
  have f26_1 := carry g26 f25_1 (by omega)
  have f26_2 := carry g26 f25_2 (by omega)
  have f26_3 := carry g26 f25_3 (by omega)
  have f26_4 := carry g26 f25_4 (by omega)
  have f26_5 := carry g26 f25_5 (by omega)
  have f26_6 := carry g26 f25_6 (by omega)
  have f26_7 := carry g26 f25_7 (by omega)
  have f26_8 := carry g26 f25_8 (by omega)
  have f26_9 := carry g26 f25_9 (by omega)
  have f26_10 := carry g26 f25_10 (by omega)
  have f26_11 := carry g26 f25_11 (by omega)
  have f26_12 := carry g26 f25_12 (by omega)
  have f26_13 := carry g26 f25_13 (by omega)
  have f26_14 := carry g26 f25_14 (by omega)
  have o26_0 := own_below o25_0 g26 (Nat.le_refl _)
  have o26_1 := own_below o25_1 g26 (Nat.le_refl _)
  have o26_2 := own_below o25_2 g26 (Nat.le_refl _)
  have k26 := k25.trans (g26.mono k25.size)
  clear f25_0 f25_1 f25_2 f25_3 f25_4 f25_5 f25_6 f25_7 f25_8 f25_9 f25_10 f25_11 f25_12 f25_13 f25_14 o25_0 o25_1 o25_2
  go_wp2
  go_ret
  exact ⟨rfl, k26⟩
end Go.Proofs.Ytepoabbkalhifaa
/-
  THE PROGRAM's HEAD, LOOKED AT ONCE: which make it is, and that a call may enter it. (The head's text is long: the kernel must not read it twice.)
-/
namespace Go.Proofs.Ytepoabbkalhifaa

theorem make_of {P : Program} {rest : List (List Char)} (h : behindMainWord (wordsSigns P.initOrder.toList) = "cut".toList :: rest) : P.make = some .cut := by
  unfold Program.make
  rw [h]
  rfl
theorem strip_cut (rest : List (List Char)) : stripLifts liftWords ("cut".toList :: rest) = ([], "cut".toList :: rest) := rfl
theorem lifts_of {P : Program} {rest : List (List Char)} (h : behindMainWord (wordsSigns P.initOrder.toList) = "cut".toList :: rest) : P.headLifts = [] := by
  unfold Program.headLifts
  rw [h, strip_cut]
  rfl
theorem final_of {P : Program} {rest : List (List Char)} (h : behindMainWord (wordsSigns P.initOrder.toList) = "cut".toList :: rest) : P.liftsFinal = false := by
  unfold Program.liftsFinal
  rw [lifts_of h, h]
  rfl
theorem enter_of {P : Program} {rest : List (List Char)} (h : behindMainWord (wordsSigns P.initOrder.toList) = "cut".toList :: rest) (h1 : P.laysLater = false) (h2 : P.bearsReflect = false) (h3 : P.doorFits [] = true) : P.mayEnter = true := by
  unfold Program.mayEnter
  rw [h]
  show (_ || _ || _) = true
  rw [strip_cut, h1, h2, h3]
  rfl
end Go.Proofs.Ytepoabbkalhifaa
/-
  THE PROGRAM's CLOSED FACTS, EACH ONCE; and how a row's facts are put together out of them.
-/
namespace Go.Proofs.Ytepoabbkalhifaa
open Go.ChangeShapes Go.WideShapes Go.ChangeAt Go.RowKit

def headSigns : List Char := ([104, 97, 114, 110, 101, 115, 115, 32, 99, 100, 56, 97, 99, 56, 48, 53, 55, 98, 98, 102, 57, 52, 102, 101, 100, 56, 100, 102, 101, 49, 51, 97, 54, 57, 57, 97, 55, 99, 57, 97, 55, 57, 53, 56, 99, 49, 48, 55, 52, 99, 98, 98, 49, 53, 56, 97, 55, 55, 97, 56, 102, 51, 55, 52, 50, 57, 53, 48, 52, 53, 99, 52, 32, 99, 117, 116, 32, 97, 116, 32, 108, 111, 111, 112, 46, 101, 120, 97, 109, 112, 108, 101, 47, 103, 48, 49, 50, 53, 55, 47, 108, 97, 119, 115, 46, 70, 110, 69, 120, 97, 99, 116, 73, 115, 80, 97, 105, 110, 116, 105, 110, 103, 32, 108, 111, 111, 112, 46, 101, 120, 97, 109, 112, 108, 101, 47, 103, 48, 49, 50, 53, 55, 47, 108, 97, 119, 115, 46, 70, 110, 69, 120, 97, 99, 116, 67, 111, 108, 111, 117, 114, 79, 102, 32, 108, 111, 111, 112, 46, 101, 120, 97, 109, 112, 108, 101, 47, 103, 48, 49, 50, 53, 55, 47, 108, 97, 119, 115, 46, 70, 110, 69, 120, 97, 99, 116, 80, 97, 105, 110, 116, 80, 97, 105, 114, 32, 108, 111, 111, 112, 46, 101, 120, 97, 109, 112, 108, 101, 47, 103, 48, 49, 50, 53, 55, 47, 108, 97, 119, 115, 46, 70, 110, 69, 120, 97, 99, 116, 80, 97, 105, 110, 116, 105, 110, 103, 79, 102, 32, 108, 111, 111, 112, 46, 101, 120, 97, 109, 112, 108, 101, 47, 103, 48, 49, 50, 53, 55, 47, 108, 97, 119, 115, 46, 70, 110, 69, 120, 97, 99, 116, 80, 97, 114, 116, 121, 79, 102, 67, 111, 108, 111, 117, 114, 32, 108, 111, 111, 112, 46, 101, 120, 97, 109, 112, 108, 101, 47, 103, 48, 49, 50, 53, 55, 47, 108, 97, 119, 115, 46, 70, 110, 69, 120, 97, 99, 116, 79, 110, 101, 67, 111, 108, 111, 117, 114, 84, 104, 114, 101, 101, 115, 32, 108, 111, 111, 112, 46, 101, 120, 97, 109, 112, 108, 101, 47, 103, 48, 49, 50, 53, 55, 47, 108, 97, 119, 115, 46, 70, 110, 69, 120, 97, 99, 116, 67, 111, 117, 110, 116, 79, 110, 101, 67, 111, 108, 111, 117, 114, 32, 108, 111, 111, 112, 46, 101, 120, 97, 109, 112, 108, 101, 47, 103, 48, 49, 50, 53, 55, 47, 108, 97, 119, 115, 46, 70, 110, 69, 120, 97, 99, 116, 67, 111, 117, 110, 116, 77, 105, 120, 101, 100, 32, 108, 111, 111, 112, 46, 101, 120, 97, 109, 112, 108, 101, 47, 103, 48, 49, 50, 53, 55, 47, 108, 97, 119, 115, 46, 70, 110, 69, 120, 97, 99, 116, 76, 101, 97, 115, 116, 84, 104, 114, 101, 101, 115, 32, 108, 111, 111, 112, 46, 101, 120, 97, 109, 112, 108, 101, 47, 103, 48, 49, 50, 53, 55, 47, 108, 97, 119, 115, 46, 70, 110, 69, 120, 97, 99, 116, 70, 105, 114, 115, 116, 65, 118, 111, 105, 100, 105, 110, 103, 32, 108, 111, 111, 112, 46, 101, 120, 97, 109, 112, 108, 101, 47, 103, 48, 49, 50, 53, 55, 47, 108, 97, 119, 115, 46, 70, 110, 69, 120, 97, 99, 116, 67, 111, 117, 110, 116, 65, 118, 111, 105, 100, 105, 110, 103, 32, 108, 111, 111, 112, 46, 101, 120, 97, 109, 112, 108, 101, 47, 103, 48, 49, 50, 53, 55, 47, 108, 97, 119, 115, 46, 70, 110, 69, 120, 97, 99, 116, 69, 120, 99, 104, 97, 110, 103, 101, 67, 111, 108, 111, 117, 114, 115, 32, 108, 111, 111, 112, 46, 101, 120, 97, 109, 112, 108, 101, 47, 103, 48, 49, 50, 53, 55, 47, 108, 97, 119, 115, 46, 70, 110, 69, 120, 97, 99, 116, 82, 101, 110, 97, 109, 101, 80, 97, 105, 110, 116, 105, 110, 103, 32, 108, 111, 111, 112, 46, 101, 120, 97, 109, 112, 108, 101, 47, 103, 48, 49, 50, 53, 55, 47, 108, 97, 119, 115, 46, 70, 110, 69, 120, 97, 99, 116, 76, 101, 97, 115, 116, 79, 110, 101, 75, 105, 110, 100] : List Nat).map Char.ofNat
set_option maxRecDepth 100000 in
theorem Try.initOrder_is : Try.prog.initOrder = String.ofList headSigns := by kernel_rfl
theorem Try.initOrder_signs : Try.prog.initOrder.toList = headSigns := by rw [Try.initOrder_is]; exact String.toList_ofList
set_option maxRecDepth 100000 in
theorem head_words : (behindMainWord (wordsSigns headSigns)).take 1 = ["cut".toList] := by kernel_rfl
theorem Try.words : ∃ rest, behindMainWord (wordsSigns Try.prog.initOrder.toList) = "cut".toList :: rest := by
  rw [Try.initOrder_signs]
  have h := List.take_append_drop 1 (behindMainWord (wordsSigns headSigns))
  rw [head_words] at h
  exact ⟨_, h.symm⟩
theorem Try.make : Try.prog.make = some .cut := by obtain ⟨_, h⟩ := Try.words; exact make_of h
theorem Try.liftsFinal : Try.prog.liftsFinal = false := by obtain ⟨_, h⟩ := Try.words; exact final_of h
theorem Try.laysLater : Try.prog.laysLater = false := by kernel_rfl
theorem Try.bearsReflect : Try.prog.bearsReflect = false := by kernel_rfl
theorem Try.doorFits : Try.prog.doorFits [] = true := by kernel_rfl
theorem Try.mayEnter : Try.prog.mayEnter = true := by obtain ⟨_, h⟩ := Try.words; exact enter_of h Try.laysLater Try.bearsReflect Try.doorFits
theorem Try.mapsRowed : mapsRowed Try.prog = true := by kernel_rfl
theorem Try.stops : (Try.prog.stops == []) = true := by kernel_rfl
theorem Try.stopKnobs : (Try.prog.stopKnobs == []) = true := by kernel_rfl
theorem Try.plainKeys : Try.prog.plainKeys = true := by kernel_rfl
theorem Try.stopsHeard : Try.prog.stopsHeard = true := by kernel_rfl

/-- What the types of one law give: closed facts on its parameters and its result. -/
def typeFacts (P : Program) (fn : Func) (s : ChangeSpec) (c : OpenClaim) : Bool :=
  fn.params.all (P.readableRec ·) && namedTie P c.named s.vars && (c.stops == []) && (c.knobs == []) &&
  (c.maps == (fn.params.toList ++ s.plain.varTypes P).any (P.mapsRec ·)) && (c.ifaces == (fn.params.toList ++ s.plain.varTypes P).any (P.ifacesRec ·)) && (c.mapsOut == P.mapsAmong fn.resultTypes.toList) &&
  (c.loops == (fn.params.toList ++ s.plain.varTypes P).any (P.loopsFrom ·)) && (c.wideKeys == (fn.params.toList ++ s.plain.varTypes P ++ fn.resultTypes.toList).any (P.wideKeysFrom ·)) &&
  s.vars.all (P.varReadable ·) && fn.resultTypes.all (fun t => P.readableRec t && decide (t < P.types.size)) && (c.ifacesOut == fn.resultTypes.toList.any (P.ifacesRec ·)) && (c.loopsOut == fn.resultTypes.toList.any (P.loopsFrom ·)) && c.shortTexts.isNone &&
  (c.kinds == (if c.domain.isEmpty then [] else fn.params.toList.map fun t => match P.underlying t with | some (.int k) => some k | _ => none)) && (c.pinned == c.pinnedBy) &&
  (c.veiled == (fn.params.toList ++ s.plain.varTypes P ++ fn.resultTypes.toList).any (P.veiledRec ·)) && c.veiledFits P fn.params.toList (fn.params.toList ++ s.plain.varTypes P ++ fn.resultTypes.toList)
theorem joined_all {P : Program} {f : FuncId} {fn : Func} {s : ChangeSpec} {c : OpenClaim} (k1 : c.wf (OpenSpec.ofChange s) = true) (kt : typeFacts P fn s c = true)
    (k10 : (c.inPlace == P.inPlace f) = true) (k11 : (c.unfollowed == P.unfollowed f) = true) (k12 : (c.recurses == P.recurses f) = true) (k13 : (c.named == P.varsNamed f) = true)
    (e2 : laidOutB P = true) (e3 : mapsRowed P = true) (e7 : (P.stops == []) = true) (e9 : (P.stopKnobs == []) = true) (e22 : (c.plainKeys == P.plainKeys) = true) (e23 : P.stopsHeard = true) (e24 : P.mayEnter = true)
    (e24b : (c.lifted == P.liftsFinal) = true) (e24c : (P.make == some c.make) = true) : joinedFacts P f fn s c = true := by
  unfold typeFacts at kt
  unfold joinedFacts
  simp only [Bool.and_eq_true] at kt ⊢
  obtain ⟨⟨⟨⟨⟨⟨⟨⟨⟨⟨⟨⟨⟨⟨⟨⟨⟨t1, t2⟩, t3⟩, t4⟩, t5⟩, t6⟩, t7⟩, t8⟩, t9⟩, t10⟩, t11⟩, t12⟩, t13⟩, t14⟩, t15⟩, t16⟩, t17⟩, t18⟩ := kt
  exact ⟨⟨⟨⟨⟨⟨⟨⟨⟨⟨⟨⟨⟨⟨⟨⟨⟨⟨⟨⟨⟨⟨⟨⟨⟨⟨⟨⟨⟨⟨⟨k1, e2⟩, e3⟩, t1⟩, t2⟩, t3⟩, e7⟩, t4⟩, e9⟩, k10⟩, k11⟩, k12⟩, k13⟩, t5⟩, t6⟩, t7⟩, t8⟩, t9⟩, t10⟩, t11⟩, t12⟩, t13⟩, e22⟩, t14⟩, e23⟩, e24⟩, e24b⟩, e24c⟩, t15⟩, t16⟩, t17⟩, t18⟩
theorem joined_of {f : FuncId} {fn : Func} {s : ChangeSpec} {c : OpenClaim} (k1 : c.wf (OpenSpec.ofChange s) = true) (kt : typeFacts Try.prog fn s c = true)
    (k10 : (c.inPlace == Try.prog.inPlace f) = true) (k11 : (c.unfollowed == Try.prog.unfollowed f) = true) (k12 : (c.recurses == Try.prog.recurses f) = true) (k13 : (c.named == Try.prog.varsNamed f) = true)
    (k22 : c.plainKeys = true) (k24b : c.lifted = false) (k24c : c.make = .cut) : joinedFacts Try.prog f fn s c = true :=
  joined_all k1 kt k10 k11 k12 k13 Try.laidOut Try.mapsRowed Try.stops Try.stopKnobs (by rw [k22, Try.plainKeys]; rfl) Try.stopsHeard Try.mayEnter (by rw [k24b, Try.liftsFinal]; rfl) (by rw [k24c, Try.make]; rfl)
end Go.Proofs.Ytepoabbkalhifaa
