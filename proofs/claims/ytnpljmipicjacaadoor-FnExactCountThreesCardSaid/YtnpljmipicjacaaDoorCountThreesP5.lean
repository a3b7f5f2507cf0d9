/-
  Texts put together for the claim of 'CountThrees' (pack 5): Tri, LawCountThrees, Said, Head, Facts, Door.
-/
import Derived.Test.YtnpljmipicjacaaDoorCountThreesP1
import Derived.Test.YtnpljmipicjacaaDoorCountThreesP2
import Derived.Test.YtnpljmipicjacaaDoorCountThreesP3
import Derived.Test.YtnpljmipicjacaaDoorCountThreesP4
import Derived.BigRegion
import Derived.BigQuiet
import Derived.Deep.RegionLaw
import Derived.Deep.DeepCutAuto
import Derived.Deep.RegionHeld3
import Derived.Test.YtnpljmipicjacaaDoorRows
import Derived.ProofKit
import Derived.OpenShut
import Derived.Deep.SlicePairs
import Derived.Lib.SmallJoins
import Derived.Test.YtnpljmipicjacaaDoorTie
import Derived.Test.YtnpljmipicjacaaDoorCards
import Derived.Lib.LaidTab
import Derived.LaidHandle
import Derived.SevenTiedAt
/-
  'CountThrees': the model's and the program's, by their contracts.
-/
namespace Go.Proofs.YtnpljmipicjacaaDoor
open Go.RowKit

theorem threeB (x y z : Bool) (t : Nat → Nat → Bool) (a b c : Nat) (hx : t a b = x) (hy : t a c = y) (hz : t b c = z) : tri t a b c = (if x then 1 else 0) + (if y then 1 else 0) + (if z then 1 else 0) := by unfold tri; rw [hx, hy, hz]

def nthB (u1 u2 u3 : Bool) (j : Nat) : Bool := if j = 0 then u1 else if j = 1 then u2 else u3
def partB (u1 u2 u3 : Bool) (j : Nat) : Nat := (if 0 < j then (if u1 then 1 else 0) else 0) + (if 1 < j then (if u2 then 1 else 0) else 0) + (if 2 < j then (if u3 then 1 else 0) else 0)
theorem partB_succ (u1 u2 u3 : Bool) {j : Nat} (h : j < 3) : partB u1 u2 u3 (j + 1) = partB u1 u2 u3 j + (if nthB u1 u2 u3 j then 1 else 0) := by
  match j, h with
  | 0, _ => cases u1 <;> cases u2 <;> cases u3 <;> rfl
  | 1, _ => cases u1 <;> cases u2 <;> cases u3 <;> rfl
  | 2, _ => cases u1 <;> cases u2 <;> cases u3 <;> rfl
theorem partB_le (u1 u2 u3 : Bool) (j : Nat) : partB u1 u2 u3 j ≤ 3 := by
  unfold partB
  repeat' split
  all_goals omega
theorem nthB_cells (w : World) (ty : TypeId) (u1 u2 u3 : Bool) {j : Nat} (h : j < 3) : (w.alloc (Obj.cells #[.bool u1, .bool u2, .bool u3] ty)).cell? ⟨w.heap.size, j, none⟩ = some (.bool (nthB u1 u2 u3 j)) := by
  match j, h with
  | 0, _ => simp [nthB]
  | 1, _ => simp [nthB]
  | 2, _ => simp [nthB]

set_option maxHeartbeats 4000000 in
set_option maxRecDepth 100000 in
theorem trThrees_any (p : Int) (l : PL) (A : Option Addr) (c : Nat) (w : World) (hp : isP p l = true) (hA : CRead w w.heap.size A (pcells l)) :
    Calls Tryd.prog 51 #[.agg #[.int .i64 p, .slice A l.length c]] w fun e w' => ∃ g, e = .returned (.slice (some ⟨g, 0, none⟩) 4 4) ∧ w'.ownsRow w.heap.size 3 1 (.slice (some ⟨g, 0, none⟩) 4 4) 4 (icells (quad (totT (adj l) p.toNat))) ∧ Below w.heap.size w w' := by
  obtain ⟨i0, hi, hz0, hz1, hz2⟩ := info_parts Tryd.infoInt
  obtain ⟨n, rfl⟩ : ∃ n : Nat, p = n := ⟨p.toNat, by have := isP_range hp; omega⟩
  have hn := isP_range hp
  have hn12 : n ≤ 12 := by omega
  simp only [Int.toNat_natCast]
  have Hp := Lib.hid hp
  have htot := totT_le (adj l) hn12
  have hst := totT_start (adj l) n
  have hstep : ∀ i a, a < n → c3 (triB (adj l) i) n a = c2 (triB (adj l) i a) n (a + 1) + c3 (triB (adj l) i) n (a + 1) := fun i a h => c3_step h
  have hstep2 : ∀ i a b, b < n → c2 (triB (adj l) i a) n b = c1 (triB (adj l) i a b) n (b + 1) + c2 (triB (adj l) i a) n (b + 1) := fun i a b h => c2_step h
  have hstep1 : ∀ i a b c, c < n → c1 (triB (adj l) i a b) n c = (if triB (adj l) i a b c then 1 else 0) + c1 (triB (adj l) i a b) n (c + 1) := fun i a b c h => c1_step h
  have Htot := Lib.hid htot
  have Hst := Lib.hid hst
  have Hstep := Lib.hid hstep
  have Hstep2 := Lib.hid hstep2
  have Hstep1 := Lib.hid hstep1
  clear hp htot hst hstep hstep2 hstep1
  go_enter Tryd.func51, Tryd.ntmps51
  go_wp2_with fail
  refine (paTable_any _ _ _ _ _ Hp.out ((hA.below (B' := w.heap.size) (by go_grown) (Nat.le_refl _)).more (by go_size))).mono ?_
  simp only [Int.toNat_natCast]
  rintro e w1 ⟨A1, k1, G, rfl, tab1, hb1⟩
  simp only [World.size_alloc] at hb1 tab1
  have s1 := hb1.size
  simp only [World.size_alloc] at s1
  have kw : Below w.heap.size w w1 := Below.trans (b := _) (by go_grown) (hb1.mono (by omega))
  go_wp2_with (at_make; refine wpList_make_full _ rfl _ _ 25 rfl w1.heap.size 3 i0 _ 1 Tryd.underlying25 hi hz0 hz1 _ _ _ _ 4 rfl rfl (by omega) (by omega) (by rw [hz2]; omega) (by unfold maxLen; omega) (Nat.le_refl _) ?_; intro w2 hown2 hgr2)
  rw [show Value.cells (.int .i64 0) = #[.int .i64 0] from rfl, made_ints] at hown2
  have hb2 : Below w1.heap.size w1 w2 := below_of_gb hgr2 (Nat.le_refl _)
  have own0 : w2.ownsRow w1.heap.size 3 1 (.slice (some ⟨w1.heap.size, 0, none⟩) 4 4) 4 (icells (quad fun _ => 0)) := hown2
  have Tab := Lib.hid tab1
  clear hown2 hgr2 tab1
  have Own0 := Lib.hid own0
  have Kw := Lib.hid kw
  have Hb2 := Lib.hid hb2
  have zz := hb2.size
  clear own0 kw hb2 hb1 hA
  go_wp2
  go_loopw [16] (fun i wr => ∃ (a : Nat) (f : Nat → Nat), a ≤ n ∧ i = .int .i64 a ∧ (∀ i, f i + c3 (triB (adj l) i) n a = totT (adj l) n i) ∧ wr.ownsRow w1.heap.size 3 1 (.slice (some ⟨w1.heap.size, 0, none⟩) 4 4) 4 (icells (quad f)) ∧ Below w1.heap.size w1 wr) (fun i _ => n - (intOf i).toNat)
  case atStart => exact ⟨0, fun _ => 0, Nat.zero_le _, rfl, fun i => by rw [Hst.out, Nat.zero_add], Own0.out, Hb2.out⟩
  case round =>
    clear Own0 Hb2
    obtain ⟨a, f, ha, rfl, hf, own, hb⟩ := hrel
    have Hf := Lib.hid hf
    have Own := Lib.hid own
    have Hb := Lib.hid hb
    clear hf own hb
    by_cases hlt : a < n
    · have hai : (a : Int) < n := by omega
      go_wp2
      go_loopw [6] (fun i wb => ∃ (b : Nat) (f : Nat → Nat), a < b ∧ b ≤ n ∧ i = .int .i64 b ∧ (∀ i, f i + (c2 (triB (adj l) i a) n b + c3 (triB (adj l) i) n (a + 1)) = totT (adj l) n i) ∧ wb.ownsRow w1.heap.size 3 1 (.slice (some ⟨w1.heap.size, 0, none⟩) 4 4) 4 (icells (quad f)) ∧ Below w1.heap.size w1 wb) (fun i _ => n - (intOf i).toNat)
      case atStart => exact ⟨a + 1, f, by omega, by omega, by go_num, fun i => by rw [← Hstep.out i a hlt]; exact Hf.out i, Own.out, Hb.out⟩
      case round =>
        clear Hf Own Hb
        obtain ⟨b, f, hab, hbn, rfl, hf, own, hb⟩ := hrel
        have Hf := Lib.hid hf
        have Own := Lib.hid own
        have Hb := Lib.hid hb
        clear hf own hb
        by_cases hbt : b < n
        · have hbi : (b : Int) < n := by omega
          go_wp2
          go_loopw [7] (fun i wc => ∃ (c : Nat) (f : Nat → Nat), b < c ∧ c ≤ n ∧ i = .int .i64 c ∧ (∀ i, f i + (c1 (triB (adj l) i a b) n c + (c2 (triB (adj l) i a) n (b + 1) + c3 (triB (adj l) i) n (a + 1))) = totT (adj l) n i) ∧ wc.ownsRow w1.heap.size 3 1 (.slice (some ⟨w1.heap.size, 0, none⟩) 4 4) 4 (icells (quad f)) ∧ Below w1.heap.size w1 wc) (fun i _ => n - (intOf i).toNat)
          case atStart => exact ⟨b + 1, f, by omega, by omega, by go_num, fun i => by have h1 := Hf.out i; rw [Hstep2.out i a b hbt] at h1; omega, Own.out, Hb.out⟩
          case round =>
            clear Hf Own Hb
            obtain ⟨c, f, hbc, hcn, rfl, hf, own, hb⟩ := hrel
            by_cases hct : c < n
            · have hci : (c : Int) < n := by omega
              have tab := Tab.out.below hb (Nat.le_refl _)
              obtain ⟨g, hgA⟩ := own_form tab.own (by omega)
              subst hgA
              have d1 := tab.outer hlt
              have d2 := tab.outer hbt
              have e1 := tab.cell hlt hbt
              have e2 := tab.cell hlt hct
              have e3 := tab.cell hbt hct
              have x1 := tab.blk hlt
              have x2 := tab.blk hbt
              have zr := hb.size
              have go := own_lt tab.own
              have oo := own_lt own
              obtain ⟨u1, hu1⟩ : ∃ u, adj l a b = u := ⟨_, rfl⟩
              obtain ⟨u2, hu2⟩ : ∃ u, adj l a c = u := ⟨_, rfl⟩
              obtain ⟨u3, hu3⟩ : ∃ u, adj l b c = u := ⟨_, rfl⟩
              have htri := threeB u1 u2 u3 _ a b c hu1 hu2 hu3
              rw [hu1] at e1
              rw [hu2] at e2
              rw [hu3] at e3
              have Htri := Lib.hid htri
              have Hf := Lib.hid hf
              have Own := Lib.hid own
              have Hb := Lib.hid hb
              clear htri hf own tab hb hu1 hu2 hu3
              go_wp2
              go_region
              obtain ⟨X, hX⟩ : ∃ X, (wr.alloc (Obj.cells #[.bool u1, .bool u2, .bool u3] 4)).drew = X := ⟨_, rfl⟩
              have hb : Below w1.heap.size w1 X := by rw [← hX]; exact (Hb.out.alloc (by omega) _).drew
              have hbr : Below wr.heap.size wr X := by rw [← hX]; exact ((Below.refl _ wr).alloc (Nat.le_refl _) _).drew
              have hcell : ∀ j, j < 3 → X.cell? ⟨wr.heap.size, j, none⟩ = some (.bool (nthB u1 u2 u3 j)) := fun j hj => by rw [← hX]; exact nthB_cells wr _ u1 u2 u3 hj
              have own := own_below Own.out hbr (Nat.le_refl _)
              have zX := hbr.size
              rw [hX]
              have Hcell := Lib.hid hcell
              have OwnX := Lib.hid own
              have HbX := Lib.hid hb
              clear hX hcell own hb hbr d1 d2 e1 e2 e3 Own Hb
              go_wp2
              go_loopw [8, 58] (fun v i wx => ∃ j : Nat, j ≤ 3 ∧ i = .int .i64 j ∧ v = .int .i64 (partB u1 u2 u3 j : Nat) ∧ X = wx) (fun _ i _ => 3 - (intOf i).toNat)
              case atStart => exact ⟨0, by omega, by go_num, by go_num, rfl⟩
              case round =>
                obtain ⟨j, hj, rfl, rfl, rfl⟩ := hrel
                have hle := partB_le u1 u2 u3 j
                by_cases hj3 : j < 3
                · have hji : (j : Int) < 3 := by omega
                  have cj := Hcell.out j hj3
                  have hs := partB_succ u1 u2 u3 hj3
                  obtain ⟨m, hm⟩ : ∃ m, partB u1 u2 u3 j = m := ⟨_, rfl⟩
                  rw [hm] at hs hle ⊢
                  cases hu : nthB u1 u2 u3 j with
                  | true =>
                    rw [hu] at cj hs
                    have Hs := Lib.hid hs
                    clear hs hu hm
                    go_wp2
                    go_roundw
                    case rel => exact ⟨j + 1, by omega, by go_num, by rw [Hs.out]; simp, trivial⟩
                    case measure => simp [intOf]; omega
                  | false =>
                    rw [hu] at cj hs
                    have Hs := Lib.hid hs
                    clear hs hu hm
                    go_wp2
                    go_roundw
                    case rel => exact ⟨j + 1, by omega, by go_num, by rw [Hs.out]; simp, trivial⟩
                    case measure => simp [intOf]; omega
                · have hje : j = 3 := by omega
                  have ht : tri (adj l) a b c = partB u1 u2 u3 j := by rw [Htri.out, hje]; rfl
                  have hge : ¬ ((j : Int) < 3) := by omega
                  obtain ⟨m, hm⟩ : ∃ m, partB u1 u2 u3 j = m := ⟨_, rfl⟩
                  rw [hm] at ht hle ⊢
                  have hm4 : m < 4 := by omega
                  have hmi : (m : Int) < 4 := by omega
                  have hat := quad_at f hm4
                  have cu := own_intAt OwnX.out hat
                  have fu := OwnX.out.frozenAt m
                  have hset := own_setInt OwnX.out m ((f m : Int) + 1)
                  rw [quad_set f hm4] at hset
                  have hfm : f m ≤ 10000 := by have h1 := Hf.out m; have h2 := Htot.out m hm4; omega
                  have hnew : ∀ i, upN f m (f m + 1) i + (c1 (triB (adj l) i a b) n (c + 1) + (c2 (triB (adj l) i a) n (b + 1) + c3 (triB (adj l) i) n (a + 1))) = totT (adj l) n i := fun i => by
                    have h1 := Hf.out i
                    have h2 := Hstep1.out i a b c hct
                    rw [upN_count]
                    unfold triB at h1 h2 ⊢
                    rw [ht] at h2
                    simp only [decide_eq_true_eq] at h2
                    omega
                  have hbs := HbX.out.setCell (p := ⟨w1.heap.size, m, none⟩) (Nat.le_refl _) (.int .i64 ((f m : Int) + 1))
                  obtain ⟨f2, hf2⟩ : ∃ f2, upN f m (f m + 1) = f2 := ⟨_, rfl⟩
                  rw [hf2] at hset
                  simp only [hf2] at hnew
                  obtain ⟨F, hF⟩ : ∃ F, f m = F := ⟨_, rfl⟩
                  rw [hF] at cu hset hfm hbs
                  have Hset := Lib.hid hset
                  have Hnew := Lib.hid hnew
                  have Hbs := Lib.hid hbs
                  have Hle := Lib.hid hle
                  clear hat hset hnew hbs hm ht hF hje Hf hf2
                  go_wp2
                  go_roundw
                  case rel => exact ⟨c + 1, f2, by omega, by omega, by go_num, Hnew.out, Hset.out, Hbs.out⟩
                  case measure => simp [intOf]; omega
            · have hce : c = n := by omega
              subst hce
              have hge : ¬ ((c : Int) < c) := by omega
              have Hf := Lib.hid hf
              clear hf
              go_wp2
              go_roundw
              case rel => exact ⟨b + 1, f, by omega, by omega, by go_num, fun i => by have h1 := Hf.out i; rw [c1_end (Nat.le_refl _)] at h1; omega, own, hb⟩
              case measure => simp [intOf]; omega
        · have hbe : b = n := by omega
          subst hbe
          have hge : ¬ ((b : Int) < b) := by omega
          go_wp2
          go_roundw
          case rel => exact ⟨a + 1, f, by omega, by go_num, fun i => by have h1 := Hf.out i; rw [c2_end (Nat.le_refl _)] at h1; omega, Own.out, Hb.out⟩
          case measure => simp [intOf]; omega
    · have hae : a = n := by omega
      subst hae
      have hge : ¬ ((a : Int) < a) := by omega
      have hq : quad f = quad (totT (adj l) a) := by
        unfold quad
        have h0 := Hf.out 0
        have h1 := Hf.out 1
        have h2 := Hf.out 2
        have h3 := Hf.out 3
        rw [c3_end (Nat.le_refl _)] at h0 h1 h2 h3
        rw [← h0, ← h1, ← h2, ← h3]
        rfl
      have own := Own.out
      rw [hq] at own
      have OwnE := Lib.hid own
      clear own hq
      go_wp2
      go_ret
      exact ⟨w1.heap.size, rfl, own_lower OwnE.out (by omega), Kw.out.trans (Hb.out.mono (by omega))⟩
set_option maxHeartbeats 8000000 in
set_option maxRecDepth 100000 in
theorem strangersIn_any (p : Int) (l : PL) (A : Option Addr) (c : Nat) (w : World) (hp : isP p l = true) (hA : CRead w w.heap.size A (pcells l)) :
    Calls Tryd.prog 55 #[.agg #[.int .i64 p, .slice A l.length c]] w fun e w' => e = .returned (.agg (tcells (missT (friendsT l) p.toNat))) ∧ Below w.heap.size w w' := by
  obtain ⟨n, rfl⟩ : ∃ n : Nat, p = n := ⟨p.toNat, by have := isP_range hp; omega⟩
  have hn := isP_range hp
  have hn12 : n ≤ 12 := by omega
  rw [Int.toNat_natCast]
  have hT := friendsT_of hp
  have h1 := fun (X : World) => missing_any (friendsT l) hT.lt n hn12 X
  obtain ⟨M, hM⟩ : ∃ M, missT (friendsT l) n = M := ⟨_, rfl⟩
  simp only [hM] at h1 ⊢
  obtain ⟨F, hF⟩ : ∃ F, friendsT l = F := ⟨_, rfl⟩
  have h2 := fun (X : World) (hX : CRead X X.heap.size A (pcells l)) => friendsIn_any n l A c X hp hX
  simp only [hF] at h1 h2
  have H1 := Lib.hid h1
  have H2 := Lib.hid h2
  have Hp := Lib.hid hp
  clear hp hT h1 h2 hM hF
  go_enter Tryd.func55, Tryd.ntmps55
  go_wp2
  obtain ⟨W, hW⟩ : ∃ W, (w.alloc (Obj.cells #[.int .i64 (n : Int), .slice A l.length c] 31)).alloc (Obj.cells #[.int .u16 0, .int .u16 0, .int .u16 0, .int .u16 0, .int .u16 0, .int .u16 0, .int .u16 0, .int .u16 0, .int .u16 0, .int .u16 0, .int .u16 0, .int .u16 0] 63) = W := ⟨_, rfl⟩
  have kW : Below w.heap.size w W := by rw [← hW]; go_grown
  have zW : W.heap.size = w.heap.size + 2 := by rw [← hW]; simp
  have p0 : W.cell? ⟨w.heap.size, 0, none⟩ = some (.int .i64 n) := by rw [← hW]; exact (World.cell?_alloc_lt _ _ _ (by simp)).trans (by simp)
  have p1 : W.cell? ⟨w.heap.size, 1, none⟩ = some (.slice A l.length c) := by rw [← hW]; exact (World.cell?_alloc_lt _ _ _ (by simp)).trans (by simp)
  have rowR : W.rowIs (w.heap.size + 1) 63 12 (fun _ => .int .u16 0) := by
    rw [← hW]
    have := rowIs_u16 (w.alloc (Obj.cells #[.int .i64 (n : Int), .slice A l.length c] 31)) (fun _ => 0) 63
    simp only [World.size_alloc] at this
    exact this
  rw [hW]
  clear hW
  have RR := Lib.hid rowR
  have zW1 : w.heap.size + 1 < W.heap.size := by omega
  have zW2 : w.heap.size ≤ W.heap.size := by omega
  clear rowR zW
  unfold tcells at H1 H2
  go_region_law (first
    | (go_simp; go_at_call 46; refine (H2.out _ ((hA.below kW.drew (Nat.le_refl _)).more zW2)).mono ?_; rintro e w3 ⟨rfl, _, hb3⟩; have g3 : Below W.heap.size W w3 := (Below.refl _ _).drew.trans hb3; have y0 := carry g3 p0 (by omega); have y1 := carry g3 p1 (by omega); have s3 := g3.size; have k3 := kW.trans (g3.mono kW.size))
    | (go_simp; go_at_call 77; refine (H1.out w3).mono ?_; rintro e w4 ⟨rfl, hb4⟩; have s4 := hb4.size; have k4 := k3.trans (hb4.mono k3.size); have row4 := RR.out.of_block ((hb4.block (w.heap.size + 1) (by omega)).trans (g3.block (w.heap.size + 1) (by omega))); have r0 := row4.cell (i := 0) (by omega); have r1 := row4.cell (i := 1) (by omega); have r2 := row4.cell (i := 2) (by omega); have r3 := row4.cell (i := 3) (by omega); have r4 := row4.cell (i := 4) (by omega); have r5 := row4.cell (i := 5) (by omega); have r6 := row4.cell (i := 6) (by omega); have r7 := row4.cell (i := 7) (by omega); have r8 := row4.cell (i := 8) (by omega); have r9 := row4.cell (i := 9) (by omega); have r10 := row4.cell (i := 10) (by omega); have r11 := row4.cell (i := 11) (by omega); have e0 := row4.frozen 0; have e1 := row4.frozen 1; have e2 := row4.frozen 2; have e3 := row4.frozen 3; have e4 := row4.frozen 4; have e5 := row4.frozen 5; have e6 := row4.frozen 6; have e7 := row4.frozen 7; have e8 := row4.frozen 8; have e9 := row4.frozen 9; have e10 := row4.frozen 10; have e11 := row4.frozen 11; clear row4)
    | fail)
  all_goals
    have K4 := Lib.hid k4
    clear k4 k3 kW g3 hb3 hb4 y0 y1 p0 p1
    go_wp2
    refine bodyPost_ret (v := .agg #[.int .u16 (M 0), .int .u16 (M 1), .int .u16 (M 2), .int .u16 (M 3), .int .u16 (M 4), .int .u16 (M 5), .int .u16 (M 6), .int .u16 (M 7), .int .u16 (M 8), .int .u16 (M 9), .int .u16 (M 10), .int .u16 (M 11)]) (by simp [results, Tryd.results55, go_sem, r0, r1, r2, r3, r4, r5, r6, r7, r8, r9, r10, r11]) rfl ?_
    exact ⟨rfl, ((((((((((((K4.out.setCell (p := ⟨w.heap.size + 1, 0, none⟩) (by simp) _).setCell (p := ⟨w.heap.size + 1, 1, none⟩) (by simp) _).setCell (p := ⟨w.heap.size + 1, 2, none⟩) (by simp) _).setCell (p := ⟨w.heap.size + 1, 3, none⟩) (by simp) _).setCell (p := ⟨w.heap.size + 1, 4, none⟩) (by simp) _).setCell (p := ⟨w.heap.size + 1, 5, none⟩) (by simp) _).setCell (p := ⟨w.heap.size + 1, 6, none⟩) (by simp) _).setCell (p := ⟨w.heap.size + 1, 7, none⟩) (by simp) _).setCell (p := ⟨w.heap.size + 1, 8, none⟩) (by simp) _).setCell (p := ⟨w.heap.size + 1, 9, none⟩) (by simp) _).setCell (p := ⟨w.heap.size + 1, 10, none⟩) (by simp) _).setCell (p := ⟨w.heap.size + 1, 11, none⟩) (by simp) _)⟩
set_option maxHeartbeats 2000000 in
set_option maxRecDepth 100000 in
theorem specCountThrees_any (p : Int) (l : PL) (A : Option Addr) (c : Nat) (w : World) (hl : l.length ≤ 1048576) (hA : CRead w w.heap.size A (pcells l)) :
    Calls Tryd.prog 20 #[.agg #[.int .i64 p, .slice A l.length c]] w fun e w' => e = .returned (.tuple #[.int .i64 (resCountThrees p l).1, .int .i64 (resCountThrees p l).2.1, .int .i64 (resCountThrees p l).2.2.1, .bool (resCountThrees p l).2.2.2]) ∧ Below w.heap.size w w' := by
  have hr : CRead (w.alloc (Obj.cells #[.int .i64 p, .slice A l.length c] 31)) (w.alloc (Obj.cells #[.int .i64 p, .slice A l.length c] 31)).heap.size A (pcells l) := (hA.below (B' := w.heap.size) (by go_grown) (Nat.le_refl _)).more (by go_size)
  cases hp : isP p l with
  | false =>
    have e : resCountThrees p l = (0, 0, 0, false) := by simp [resCountThrees, hp]
    rw [e]
    have Hp := Lib.hid hp
    clear hp e
    go_enter Tryd.func20, Tryd.ntmps20
    go_wp2_with fail
    refine (paGood_any _ _ _ _ _ hl hr).mono ?_
    rw [Hp.out]
    rintro e w2 ⟨rfl, hb2⟩
    simp only [World.size_alloc] at hb2
    go_wp2
    refine bodyPost_ret (v := .tuple #[.int .i64 0, .int .i64 0, .int .i64 0, .bool false]) (by simp [results, Tryd.results20, go_sem]) rfl ?_
    exact ⟨rfl, Below.trans (b := _) (by go_grown) (hb2.mono (by omega))⟩
  | true =>
    have hn := isP_range hp
    obtain ⟨n, rfl⟩ : ∃ n : Nat, p = n := ⟨p.toNat, by omega⟩
    have h1 := totT_le (adj l) (show n ≤ 12 by omega) 1 (by omega)
    have h2 := totT_le (adj l) (show n ≤ 12 by omega) 2 (by omega)
    have e : resCountThrees n l = ((totT (adj l) n 3 : Int), (totT (adj l) n 0 : Int), (totT (adj l) n 1 : Int) + (totT (adj l) n 2 : Int), true) := by simp [resCountThrees, hp]
    rw [e]
    obtain ⟨T, hT⟩ : ∃ T, totT (adj l) n = T := ⟨_, rfl⟩
    rw [hT] at h1 h2
    simp only [hT]
    have call := fun (W : World) (hW : CRead W W.heap.size A (pcells l)) => trThrees_any n l A c W hp hW
    rw [Int.toNat_natCast, hT] at call
    have Call := Lib.hid call
    have Hp := Lib.hid hp
    clear hp e hT call
    go_enter Tryd.func20, Tryd.ntmps20
    go_wp2_with fail
    refine (paGood_any _ _ _ _ _ hl hr).mono ?_
    rw [Hp.out]
    rintro e w2 ⟨rfl, hb2⟩
    have s2 := hb2.size
    have k2 : Below w.heap.size w w2 := Below.trans (b := _) (by go_grown) (hb2.mono (by simp))
    have c0 : w2.cell? ⟨w.heap.size, 0, none⟩ = some (.int .i64 n) := carry hb2 (by simp) (by simp)
    have c1 : w2.cell? ⟨w.heap.size, 1, none⟩ = some (.slice A l.length c) := carry hb2 (by simp) (by simp)
    go_wp2_with fail
    refine (Call.out _ ((hA.below k2 (Nat.le_refl _)).more k2.size)).mono ?_
    rintro e w3 ⟨g, rfl, own, hb3⟩
    have k3 := k2.trans (hb3.mono k2.size)
    have x0 := own_intAt own (quad_at T (k := 0) (by omega))
    have x1 := own_intAt own (quad_at T (k := 1) (by omega))
    have x2 := own_intAt own (quad_at T (k := 2) (by omega))
    have x3 := own_intAt own (quad_at T (k := 3) (by omega))
    clear own
    go_wp2
    go_quiet (fail)
    go_wp2
    refine bodyPost_ret (v := .tuple #[.int .i64 (T 3 : Int), .int .i64 (T 0 : Int), .int .i64 ((T 1 : Int) + (T 2 : Int)), .bool true]) (by simp [results, Tryd.results20, go_sem]) rfl ?_
    exact ⟨rfl, ⟨k3.os, k3.tape, k3.output, k3.size, k3.block⟩⟩
set_option maxHeartbeats 4000000 in
set_option maxRecDepth 100000 in
theorem implCountThrees_any (p : Int) (l : PL) (A : Option Addr) (c : Nat) (w : World) (hl : l.length ≤ 1048576) (hA : CRead w w.heap.size A (pcells l)) (htab : TabW w) :
    Calls Tryd.prog 21 #[.agg #[.int .i64 p, .slice A l.length c]] w fun e w' => e = .returned (.tuple #[.int .i64 (resCountThrees p l).1, .int .i64 (resCountThrees p l).2.1, .int .i64 (resCountThrees p l).2.2.1, .bool (resCountThrees p l).2.2.2]) ∧ Below w.heap.size w w' := by
  have hr : CRead (w.alloc (Obj.cells #[.int .i64 p, .slice A l.length c] 31)) (w.alloc (Obj.cells #[.int .i64 p, .slice A l.length c] 31)).heap.size A (pcells l) := (hA.below (B' := w.heap.size) (by go_grown) (Nat.le_refl _)).more (by go_size)
  have HTab := Lib.hid htab
  clear htab
  cases hp : isP p l with
  | false =>
    have e : resCountThrees p l = (0, 0, 0, false) := by simp [resCountThrees, hp]
    rw [e]
    have Hp := Lib.hid hp
    clear hp e
    go_enter Tryd.func21, Tryd.ntmps21
    go_wp2_with fail
    refine (isParty_any _ _ _ _ _ hl hr).mono ?_
    rw [Hp.out]
    rintro e w2 ⟨rfl, hb2⟩
    simp only [World.size_alloc] at hb2
    go_wp2
    refine bodyPost_ret (v := .tuple #[.int .i64 0, .int .i64 0, .int .i64 0, .bool false]) (by simp [results, Tryd.results21, go_sem]) rfl ?_
    exact ⟨rfl, Below.trans (b := _) (by go_grown) (hb2.mono (by omega))⟩
  | true =>
    have hn := isP_range hp
    obtain ⟨n, rfl⟩ : ∃ n : Nat, p = n := ⟨p.toNat, by omega⟩
    have hn12 : n ≤ 12 := by omega
    have hsum := totT_sum (adj l) hn12
    have hle0 := totT_le (adj l) hn12 0 (by omega)
    have hle3 := totT_le (adj l) hn12 3 (by omega)
    have hwb := waysI_bound (n := (n : Int)) (k := 3) (.inl ⟨by omega, by omega, by omega⟩)
    have e : resCountThrees n l = ((totT (adj l) n 3 : Int), (totT (adj l) n 0 : Int), (totT (adj l) n 1 : Int) + (totT (adj l) n 2 : Int), true) := by simp [resCountThrees, hp]
    rw [e]
    have hT := friendsT_of hp
    have hset := IsSet.people (n := n) (by omega)
    have hcs : ∀ b ∈ List.range n, b < 12 := fun b hb => by have := List.mem_range.1 hb; omega
    have h5 := fun (X : World) (hX : TabW X) => countTied_any hT hset hcs (size := 3) (by omega) X hX
    have h6 := fun (X : World) (hX : TabW X) => countTied_any (strangersIn_fact hp) hset hcs (size := 3) (by omega) X hX
    have h7 := fun (X : World) => waysToChoose_any (n : Int) 3 X (.inl ⟨by omega, by omega, by omega⟩)
    simp only [show (3 : Int).toNat = 3 from rfl, threes_friends, threes_strange] at h5 h6
    have hdiff : waysI n 3 - (totT (adj l) n 3 : Int) - (totT (adj l) n 0 : Int) = (totT (adj l) n 1 : Int) + (totT (adj l) n 2 : Int) := by omega
    obtain ⟨T, hTT⟩ : ∃ T, totT (adj l) n = T := ⟨_, rfl⟩
    simp only [hTT] at h5 h6 hdiff hle0 hle3 ⊢
    obtain ⟨WW, hWW⟩ : ∃ WW, waysI n 3 = WW := ⟨_, rfl⟩
    simp only [hWW] at h7 hdiff hwb
    have H5 := Lib.hid h5
    have H6 := Lib.hid h6
    have H7 := Lib.hid h7
    have Hd := Lib.hid hdiff
    have Hp := Lib.hid hp
    clear hp e hsum hT hset hcs h5 h6 h7 hdiff hTT hWW
    go_enter Tryd.func21, Tryd.ntmps21
    go_wp2_with fail
    refine (isParty_any _ _ _ _ _ hl hr).mono ?_
    rw [Hp.out]
    rintro e w2 ⟨rfl, hb2⟩
    have s2 := hb2.size
    simp only [World.size_alloc] at s2
    have k2 : Below w.heap.size w w2 := Below.trans (b := _) (by go_grown) (hb2.mono (by simp))
    have c0 : w2.cell? ⟨w.heap.size, 0, none⟩ = some (.int .i64 n) := carry hb2 (by simp) (by simp)
    have c1 : w2.cell? ⟨w.heap.size, 1, none⟩ = some (.slice A l.length c) := carry hb2 (by simp) (by simp)
    have q0 : ∀ z : Ext w2.heap.size w2, z.val.cell? ⟨w.heap.size, 0, none⟩ = some (.int .i64 n) := fun z => z.cell c0 (by omega)
    have q1 : ∀ z : Ext w2.heap.size w2, z.val.cell? ⟨w.heap.size, 1, none⟩ = some (.slice A l.length c) := fun z => z.cell c1 (by omega)
    have hpos := HTab.out.pos
    go_wp2
    refine wp_region_ext w2.heap.size (by kernel_rfl) (by kernel_rfl) ?_
    repeat (go_big_quiet_step ((first
      | (go_at_call 46; exact Calls.ext_of ((friendsIn_any _ l A c _ Hp.out ((hA.below (k2.trans ((Ext.below _).mono k2.size)) (Nat.le_refl _)).more (Nat.le_trans k2.size (Ext.size _)))).mono fun _ _ h => ⟨h.1, h.2.2.mono (Ext.size _)⟩))
      | (go_at_call 54; exact Calls.ext_of ((everybody_any n hn12 _).mono fun _ _ h => ⟨h.1, h.2 ▸ Below.refl _ _⟩))
      | (go_at_call 53; exact Calls.ext_of ((H5.out _ (HTab.out.below (k2.trans ((Ext.below _).mono k2.size)) hpos)).mono fun _ _ h => ⟨h.1, h.2.mono (Ext.size _)⟩)))))
    refine wpQuiet_nil ?_
    rintro w5 ⟨⟨_, hb5⟩, rfl⟩
    have s5 := hb5.size
    have k5 := k2.trans (hb5.mono k2.size)
    have d0 := carry hb5 c0 (by omega)
    have d1 := carry hb5 c1 (by omega)
    have r0 : ∀ z : Ext w5.heap.size w5, z.val.cell? ⟨w.heap.size, 0, none⟩ = some (.int .i64 n) := fun z => z.cell d0 (by omega)
    have r1 : ∀ z : Ext w5.heap.size w5, z.val.cell? ⟨w.heap.size, 1, none⟩ = some (.slice A l.length c) := fun z => z.cell d1 (by omega)
    clear q0 q1 c0 c1
    go_wp2
    refine wp_region_ext w5.heap.size (by kernel_rfl) (by kernel_rfl) ?_
    repeat (go_big_quiet_step ((first
      | (go_at_call 55; exact Calls.ext_of ((strangersIn_any _ l A c _ Hp.out ((hA.below (k5.trans ((Ext.below _).mono k5.size)) (Nat.le_refl _)).more (Nat.le_trans k5.size (Ext.size _)))).mono fun _ _ h => ⟨h.1, h.2.mono (Ext.size _)⟩))
      | (go_at_call 54; exact Calls.ext_of ((everybody_any n hn12 _).mono fun _ _ h => ⟨h.1, h.2 ▸ Below.refl _ _⟩))
      | (go_at_call 53; exact Calls.ext_of ((H6.out _ (HTab.out.below (k5.trans ((Ext.below _).mono k5.size)) hpos)).mono fun _ _ h => ⟨h.1, h.2.mono (Ext.size _)⟩)))))
    refine wpQuiet_nil ?_
    rintro w6 ⟨⟨_, hb6⟩, rfl⟩
    have e0 := carry hb6 d0 (by omega)
    have k6 := k5.trans (hb6.mono k5.size)
    clear r0 r1 d0 d1
    go_wp2_with fail
    refine (H7.out _).mono ?_
    rintro e w7 ⟨rfl, rfl⟩
    go_wp2
    refine bodyPost_ret (v := .tuple #[.int .i64 (T 3 : Int), .int .i64 (T 0 : Int), .int .i64 (WW - (T 3 : Int) - (T 0 : Int)), .bool true]) (by simp [results, Tryd.results21, go_sem]) rfl ?_
    exact ⟨by rw [Hd.out], k6⟩
end Go.Proofs.YtnpljmipicjacaaDoor
/-
  'laws.FnExactCountThrees' returns true, whatever its arguments: out of the contracts of the model's function and of the program's.
-/
namespace Go.Proofs.YtnpljmipicjacaaDoor
open Go.RowKit

set_option maxHeartbeats 4000000 in
set_option maxRecDepth 100000 in
theorem lawCountThrees_any (p0 : Int) (l0 : PL) (A0 : Option Addr) (c0 : Nat) (W : World) (hl0 : l0.length ≤ maxLen) (hA0 : CRead W W.heap.size A0 (pcells l0)) (htab : TabW W) :
    Calls Tryd.prog 4 #[.agg #[.int .i64 p0, .slice A0 l0.length c0]] W fun e w' => e = .returned (.bool true) ∧ Below W.heap.size W w' := by
  have hone : (0 : Int) ≤ 1 ∧ (1 : Int) ≤ 16777216 := by omega
  have HTab := Lib.hid htab
  clear htab
  by_cases hz0 : szI (1048576) l0.length < 0
  · go_enter Tryd.func4, Tryd.ntmps4
    go_wp2_with fail
    refine (szParty_any _ _ _ _ _ hl0 (by omega) (by omega) _).mono ?_
    rintro e w1 ⟨rfl, hb1⟩
    simp only [World.size_alloc] at hb1
    have g1 : Below W.heap.size W w1 := Below.trans (b := _) (by go_grown) (hb1.mono (by omega))
    have s1 := hb1.size
    simp only [World.size_alloc] at s1
    have f1_0 : w1.cell? ⟨W.heap.size, 0, none⟩ = some (.int .i64 p0) := carry hb1 (by simp) (by omega)
    have f1_1 : w1.cell? ⟨W.heap.size, 1, none⟩ = some (.slice A0 l0.length c0) := carry hb1 (by simp) (by omega)
    have k1 : Below W.heap.size W w1 := g1
    go_wp2
    go_ret
    exact ⟨rfl, k1⟩
  have hn0 : l0.length ≤ 1048576 := by have h1 := szI_len _ _ hz0; have h2 := szI_hi (1048576) l0.length (by omega); omega
  have hz0' : 0 ≤ szI (1048576) l0.length := by omega
  have hz0'' : szI (1048576) l0.length ≤ 1048576 := by have h2 := szI_hi (1048576) l0.length (by omega); omega
  obtain ⟨⟨ra, rb, rc, rok⟩, hres⟩ : ∃ r, resCountThrees p0 l0 = r := ⟨_, rfl⟩
  have Hres := Lib.hid hres
  clear hres
  go_enter Tryd.func4, Tryd.ntmps4
  go_wp2_with fail
  refine (szParty_any _ _ _ _ _ hl0 (by omega) (by omega) _).mono ?_
  rintro e w1 ⟨rfl, hb1⟩
  simp only [World.size_alloc] at hb1
  have g1 : Below W.heap.size W w1 := Below.trans (b := _) (by go_grown) (hb1.mono (by omega))
  have s1 := hb1.size
  simp only [World.size_alloc] at s1
  have f1_0 : w1.cell? ⟨W.heap.size, 0, none⟩ = some (.int .i64 p0) := carry hb1 (by simp) (by omega)
  have f1_1 : w1.cell? ⟨W.heap.size, 1, none⟩ = some (.slice A0 l0.length c0) := carry hb1 (by simp) (by omega)
  have k1 : Below W.heap.size W w1 := g1
  go_wp2_with fail
  refine (toParty_any p0 l0 A0 c0 _ hn0 ((hA0.below k1 (Nat.le_refl _)).more k1.size)).mono ?_
  rintro e w2 ⟨T2, d2, rfl, n2, hb2⟩
  have g2 : Below w1.heap.size w1 w2 := hb2
  have s2 := hb2.size
  have f2_0 := carry g2 f1_0 (by omega)
  have f2_1 := carry g2 f1_1 (by omega)
  have k2 := k1.trans (g2.mono k1.size)
  clear f1_0 f1_1
  have r2 : Lies (.slice T2 l0.length d2) (w1.heap.size) w2.heap.size := own_lies n2
  go_wp2_with fail
  refine (specCountThrees_any p0 l0 _ _ _ hn0 (CRead.of_own n2)).mono ?_
  rw [Hres.out]
  rintro e w3 ⟨rfl, hb3⟩
  have g3 : Below w2.heap.size w2 w3 := hb3
  have s3 := hb3.size
  have f3_0 := carry g3 f2_0 (by omega)
  have f3_1 := carry g3 f2_1 (by omega)
  have o3_0 := own_below n2 g3 (Nat.le_refl _)
  have k3 := k2.trans (g3.mono k2.size)
  clear f2_0 f2_1 n2
  clear o3_0 r2
  go_wp2_with fail
  refine (toParty_any p0 l0 A0 c0 _ hn0 ((hA0.below k3 (Nat.le_refl _)).more k3.size)).mono ?_
  rintro e w4 ⟨T4, d4, rfl, n4, hb4⟩
  have g4 : Below w3.heap.size w3 w4 := hb4
  have s4 := hb4.size
  have f4_0 := carry g4 f3_0 (by omega)
  have f4_1 := carry g4 f3_1 (by omega)
  have k4 := k3.trans (g4.mono k3.size)
  clear f3_0 f3_1
  have r4 : Lies (.slice T4 l0.length d4) (w3.heap.size) w4.heap.size := own_lies n4
  have q5_0 : (w4.alloc (Obj.cells #[.int .i64 p0, .slice T4 l0.length d4] 31)).cell? ⟨W.heap.size, 0, none⟩ = some (.int .i64 p0) := (World.cell?_alloc_lt _ _ _ (show W.heap.size < w4.heap.size by omega)).trans f4_0
  have q5_1 : (w4.alloc (Obj.cells #[.int .i64 p0, .slice T4 l0.length d4] 31)).cell? ⟨W.heap.size, 1, none⟩ = some (.slice A0 l0.length c0) := (World.cell?_alloc_lt _ _ _ (show W.heap.size < w4.heap.size by omega)).trans f4_1
  go_wp2_with fail
  refine (implCountThrees_any p0 l0 _ _ _ hn0 (((CRead.of_own n4).below (B' := w4.heap.size) (by go_grown) (Nat.le_refl _)).more (by go_size)) (by first | exact HTab.out.below (k4.alloc k4.size _) HTab.out.pos | exact HTab.out.below k4 HTab.out.pos)).mono ?_
  rw [Hres.out]
  rintro e w6 ⟨rfl, hb6⟩
  simp only [World.size_alloc] at hb6
  have g6 : Below w4.heap.size w4 w6 := Below.trans (b := _) (by go_grown) (hb6.mono (by omega))
  have s6 := hb6.size
  simp only [World.size_alloc] at s6
  have f6_0 := carry g6 f4_0 (by omega)
  have f6_1 := carry g6 f4_1 (by omega)
  have f6_2 : w6.cell? ⟨w4.heap.size, 0, none⟩ = some (.int .i64 p0) := carry hb6 (by simp) (by omega)
  have f6_3 : w6.cell? ⟨w4.heap.size, 1, none⟩ = some (.slice T4 l0.length d4) := carry hb6 (by simp) (by omega)
  have o6_0 := own_below n4 g6 (Nat.le_refl _)
  have k6 := k4.trans (g6.mono k4.size)
  clear f4_0 f4_1 n4 q5_0 q5_1
  go_wp2
  go_region_held3 (fun w' => w'.cell? ⟨W.heap.size, 0, none⟩ = some (.int .i64 p0) ∧ w'.cell? ⟨W.heap.size, 1, none⟩ = some (.slice A0 l0.length c0) ∧ w'.cell? ⟨w4.heap.size, 0, none⟩ = some (.int .i64 p0) ∧ w'.cell? ⟨w4.heap.size, 1, none⟩ = some (.slice T4 l0.length d4)) (first | exact ⟨f6_0, f6_1, f6_2, f6_3⟩ | exact ⟨f7_0, f7_1, f7_2, f7_3⟩ | exact ⟨f8_0, f8_1, f8_2, f8_3⟩) ((first | (go_at_call 12; refine (toParty_any p0 l0 A0 c0 _ hn0 ((hA0.below k6.drew (Nat.le_refl _)).more k6.size)).mono ?_; rintro e w7 ⟨T7, d7, rfl, n7, hb7⟩; have g7 : Below w6.heap.size w6 w7 := (Below.refl _ _).drew.trans hb7; have s7 := g7.size; have f7_0 := carry g7 f6_0 (by omega); have f7_1 := carry g7 f6_1 (by omega); have f7_2 := carry g7 f6_2 (by omega); have f7_3 := carry g7 f6_3 (by omega); have o7_0 := own_below o6_0 g7 (Nat.le_refl _); have k7 := k6.trans (g7.mono k6.size)) | (go_at_call 16; refine (eqParty_any p0 p0 l0 l0 _ _ _ _ _ hl0 hl0 (CRead.of_own o7_0) (CRead.of_own n7)).mono ?_; rw [decide_eq_true ⟨rfl, rfl⟩]; rintro e w8 ⟨rfl, hb8⟩; have g8 : Below w7.heap.size w7 w8 := hb8; have s8 := g8.size; have f8_0 := carry g8 f7_0 (by omega); have f8_1 := carry g8 f7_1 (by omega); have f8_2 := carry g8 f7_2 (by omega); have f8_3 := carry g8 f7_3 (by omega); have o8_0 := own_below o7_0 g8 (Nat.le_refl _); have k8 := k7.trans (g8.mono k7.size))))
  clear f6_0 f6_1 f6_2 f6_3 o6_0 f7_0 f7_1 f7_2 f7_3 o7_0 n7
  go_wp2
  go_ret
  exact ⟨rfl, k8⟩
end Go.Proofs.YtnpljmipicjacaaDoor
/-
  FROM A LAW's WALK TO ITS STATEMENT: arguments opened (numbers, lists of numbers, parties), and what every law's post asks.
-/
namespace Go.Proofs.YtnpljmipicjacaaDoor
open Go.ChangeShapes Go.WideShapes Go.ChangeAt Go.RowKit Go.Deep

theorem Tryd.own : ownKnob Tryd.prog.godebug = none := by kernel_rfl
theorem Tryd.laidOut : laidOutB Tryd.prog = true := by kernel_rfl
theorem Tryd.cellsPair : Tryd.prog.cellsOf 87 = 2 := by kernel_rfl
theorem Tryd.cellsParty : Tryd.prog.cellsOf 24 = 2 := by kernel_rfl
theorem Tryd.cellsInt : Tryd.prog.cellsOf 3 = 1 := by kernel_rfl

section
variable {H : Type} {enc : TypeId × Value → H} {P : Program}
theorem below_trodAll (hl : laidOutB P = true) : ∀ (ts : List TypeId), (ts.all fun t => P.readableRec t && decide (t < P.types.size)) = true → ∀ {vs : List Value} {ds : List (DataW H)} {ps : List MemPlace} {W W' : World},
    DataW.TrodAll enc P W 0 (fun _ => true) true ts vs ds ps → Below W.heap.size W W' → (∀ x ∈ ps, x.block < W.heap.size) → DataW.TrodAll enc P W' 0 (fun b => decide (b < W.heap.size)) true ts vs ds ps
  | [], _, vs, ds, ps, W, W', h, _, _ => by
    obtain ⟨rfl, rfl, rfl⟩ := trodAll_nil h
    exact trodAll_mk0
  | t :: ts, hr, vs, ds, ps, W, W', h, hb, hlt => by
    obtain ⟨v, vs', d, ds', p, q, rfl, rfl, rfl, h0, h1⟩ := trodAll_cons h
    simp only [List.all_cons, Bool.and_eq_true, decide_eq_true_eq] at hr
    refine trodAll_cons_mk (Below.trod hl hr.1.1 hr.1.2 h0 hb (fun x hx => hlt x (List.mem_append_left _ hx))) (below_trodAll hl ts (by simpa using hr.2) h1 hb (fun x hx => hlt x (List.mem_append_right _ hx)))

theorem law_post {f : Func} {s : ChangeSpec} {W W' : World} {args : Array Value} {ds gs : List (DataW H)} {before : List MemPlace} {tb : TypeId} (hl : laidOutB P = true)
    (hr : (f.params.toList.all fun t => P.readableRec t && decide (t < P.types.size)) = true) (hres : f.resultTypes = #[tb]) (htb : P.underlying tb = some .bool) (hsv : s.vars = [])
    (hspec : s.fn H (ds ++ gs) = { results := [.lit (.bool true)], args := ds })
    (hW : DataW.Whole enc P f.params.toList s.vars false W args.toList ds gs before) (hb : Below W.heap.size W W') : s.post enc P f false true false false W args (.bool true) W' := by
  have hW' := hW
  obtain ⟨p, q, hA, hV, rfl, _, _⟩ := hW
  rw [hsv] at hV
  obtain ⟨rfl, rfl⟩ := trodVars_none hV
  have hlt : ∀ x ∈ p, x.block < W.heap.size := fun x hx => by simpa using hW'.lt x (by simpa using hx)
  refine ⟨ds, _, _, [] ++ [], p, [], hW', ?_, ?_, ?_, hb.frame _, fun h => by cases h⟩
  · rw [hspec, hres]
    exact trodAll_mk1 (shut_bool htb _)
  · rw [hspec]
    exact below_trodAll hl _ hr hA hb hlt
  · rw [hspec, hsv]
    rfl
end

section
variable {H : Type} {enc : TypeId × Value → H} {W : World}
set_option maxRecDepth 100000 in
/-- A party that came in. -/
theorem open_party {v : Value} {d : DataW H} {p : List MemPlace} {r : Reach} {b0 : Nat} (hv : Value.okWide Tryd.prog W r b0 24 v) (h : DataW.Trod enc Tryd.prog W 0 (fun _ => true) true 24 v d p) :
    ∃ (x : Int) (l : PL) (A : Option Addr) (c : Nat), v = .agg #[.int .i64 x, .slice A l.length c] ∧ l.length ≤ maxLen ∧ CRead W W.heap.size A (pcells l) := by
  obtain ⟨v0, v1, y0, y1, n, rfl, _, _, h0, h1⟩ := Joins.open_agg2 Tryd.underlying24 (by kernel_rfl) Tryd.cellsParty hv h
  obtain ⟨x, hx, _, _⟩ := DataW.trod_int Tryd.underlying3 h0
  simp only [List.cons.injEq, and_true] at hx
  subst hx
  rcases open_slice_pairs Tryd.underlying22 Tryd.underlying87 Tryd.cellsPair rfl rfl (by kernel_rfl) (by kernel_rfl) h1 with ⟨hcs, _⟩ | ⟨a, len, cap, m, n', V0, V1, D0, D1, P0, P1, hcs, _, hlc, hcm, hm, _, hall⟩
  · simp only [List.cons.injEq, and_true] at hcs
    subst hcs
    exact ⟨x, [], none, 0, rfl, Nat.zero_le _, CRead.nil⟩
  · simp only [List.cons.injEq, and_true] at hcs
    subst hcs
    have hm' : m = cap := by simpa using hm
    subst hm'
    have each : ∀ i, i < len → ∃ a0 a1 : Int, W.cell? (a.add (i * 2)) = some (.int .i64 a0) ∧ W.cell? (a.add (i * 2 + 1)) = some (.int .i64 a1) := by
      intro i hi
      obtain ⟨c0, c1, t0, t1⟩ := hall i (by omega)
      obtain ⟨a0, e0, _, _⟩ := DataW.trod_int Tryd.underlying3 t0
      obtain ⟨a1, e1, _, _⟩ := DataW.trod_int Tryd.underlying3 t1
      simp only [List.cons.injEq, and_true] at e0 e1
      exact ⟨a0, a1, by rw [c0, e0], by rw [c1, e1]⟩
    let num : Option Value → Int := fun | some (.int _ z) => z | _ => 0
    let l : PL := (List.range len).map fun i => (num (W.cell? (a.add (i * 2))), num (W.cell? (a.add (i * 2 + 1))))
    have hll : l.length = len := by simp [l]
    refine ⟨x, l, some a, m, by rw [hll], by rw [hll]; omega, ?_⟩
    intro j u hu
    have hjl : j < (pcells l).length := (List.getElem?_eq_some_iff.1 hu).1
    rw [pcells_length, hll] at hjl
    have hi : j / 2 < len := by omega
    obtain ⟨a0, a1, c0, c1⟩ := each (j / 2) hi
    have hl : l[j / 2]? = some (a0, a1) := by simp [l, hi, c0, c1, num]
    obtain ⟨z0, _, cz, _⟩ := each 0 (by omega)
    have hspot : a.spot = none := by simpa [Addr.add] using World.cell?_spot cz
    obtain ⟨b, off, sp⟩ := a
    simp only at hspot
    subst hspot
    have hb : b < W.heap.size := by
      have := World.block_lt_of_cell? W _ cz
      simpa [Addr.add] using this
    refine ⟨b, off, rfl, hb, ?_⟩
    rw [add_plain] at c0 c1
    rcases Nat.mod_two_eq_zero_or_one j with h2 | h2
    · have e : j = j / 2 * 2 := by omega
      have e2 := pcells_fst hl
      rw [← e] at e2 c0
      rw [hu] at e2
      rw [c0, e2]
    · have e : j = j / 2 * 2 + 1 := by omega
      have e2 := pcells_snd hl
      rw [← e] at e2 c1
      rw [hu] at e2
      rw [c1, e2]
end
end Go.Proofs.YtnpljmipicjacaaDoor
/-
  THE PROGRAM's HEAD, LOOKED AT ONCE: which make it is, and that a call may enter it. (The head's text is long: the kernel must not read it twice.)
-/
namespace Go.Proofs.YtnpljmipicjacaaDoor

theorem make_of {P : Program} {rest : List (List Char)} (h : behindMainWord (wordsSigns P.initOrder.toList) = "cut".toList :: rest) : P.make = some .cut := by
  unfold Program.make
  rw [h]
  rfl
theorem strip_cut (rest : List (List Char)) : stripLifts liftWords ("cut".toList :: rest) = ([], "cut".toList :: rest) := rfl
theorem lifts_of {P : Program} {rest : List (List Char)} (h : behindMainWord (wordsSigns P.initOrder.toList) = "cut".toList :: rest) : P.headLifts = [] := by
  unfold Program.headLifts
  rw [h, strip_cut]
  rfl
theorem final_of {P : Program} {rest : List (List Char)} (h : behindMainWord (wordsSigns P.initOrder.toList) = "cut".toList :: rest) : P.liftsFinal = false := by
  unfold Program.liftsFinal
  rw [lifts_of h, h]
  rfl
theorem enter_of {P : Program} {rest : List (List Char)} (h : behindMainWord (wordsSigns P.initOrder.toList) = "cut".toList :: rest) (h1 : P.laysLater = false) (h2 : P.bearsReflect = false) (h3 : P.doorFits [] = true) : P.mayEnter = true := by
  unfold Program.mayEnter
  rw [h]
  show (_ || _ || _) = true
  rw [strip_cut, h1, h2, h3]
  rfl
end Go.Proofs.YtnpljmipicjacaaDoor
/-
  THE PROGRAM's CLOSED FACTS, EACH ONCE; and how a row's facts are put together out of them.
-/
namespace Go.Proofs.YtnpljmipicjacaaDoor
open Go.ChangeShapes Go.WideShapes Go.ChangeAt Go.RowKit

def headSigns : List Char := ([104, 97, 114, 110, 101, 115, 115, 32, 51, 51, 56, 52, 55, 54, 51, 53, 98, 101, 100, 53, 98, 101, 54, 57, 55, 55, 51, 98, 51, 49, 99, 56, 52, 56, 97, 98, 100, 98, 50, 98, 54, 97, 101, 50, 55, 51, 100, 101, 55, 49, 97, 54, 51, 97, 55, 100, 100, 50, 55, 48, 56, 100, 97, 54, 100, 50, 98, 98, 98, 52, 50, 50, 32, 99, 117, 116, 32, 97, 116, 32, 108, 111, 111, 112, 46, 101, 120, 97, 109, 112, 108, 101, 47, 103, 48, 49, 50, 53, 55, 47, 108, 97, 119, 115, 46, 70, 110, 69, 120, 97, 99, 116, 71, 114, 111, 119, 71, 114, 111, 117, 112, 32, 108, 111, 111, 112, 46, 101, 120, 97, 109, 112, 108, 101, 47, 103, 48, 49, 50, 53, 55, 47, 108, 97, 119, 115, 46, 70, 110, 69, 120, 97, 99, 116, 67, 111, 117, 110, 116, 84, 104, 114, 101, 101, 115, 32, 108, 111, 111, 112, 46, 101, 120, 97, 109, 112, 108, 101, 47, 103, 48, 49, 50, 53, 55, 47, 108, 97, 119, 115, 46, 70, 110, 69, 120, 97, 99, 116, 70, 114, 105, 101, 110, 100, 84, 104, 114, 101, 101, 115, 32, 108, 111, 111, 112, 46, 101, 120, 97, 109, 112, 108, 101, 47, 103, 48, 49, 50, 53, 55, 47, 108, 97, 119, 115, 46, 70, 110, 69, 120, 97, 99, 116, 71, 114, 101, 97, 116, 101, 115, 116, 71, 114, 111, 117, 112, 32, 108, 111, 111, 112, 46, 101, 120, 97, 109, 112, 108, 101, 47, 103, 48, 49, 50, 53, 55, 47, 108, 97, 119, 115, 46, 70, 110, 69, 120, 97, 99, 116, 71, 114, 101, 97, 116, 101, 115, 116, 83, 116, 114, 97, 110, 103, 101, 32, 108, 111, 111, 112, 46, 101, 120, 97, 109, 112, 108, 101, 47, 103, 48, 49, 50, 53, 55, 47, 108, 97, 119, 115, 46, 70, 110, 69, 120, 97, 99, 116, 65, 108, 108, 71, 114, 111, 117, 112, 115, 32, 108, 111, 111, 112, 46, 101, 120, 97, 109, 112, 108, 101, 47, 103, 48, 49, 50, 53, 55, 47, 108, 97, 119, 115, 46, 70, 110, 69, 120, 97, 99, 116, 65, 108, 108, 65, 112, 97, 114, 116] : List Nat).map Char.ofNat
set_option maxRecDepth 100000 in
theorem Tryd.initOrder_is : Tryd.prog.initOrder = String.ofList headSigns := by kernel_rfl
theorem Tryd.initOrder_signs : Tryd.prog.initOrder.toList = headSigns := by rw [Tryd.initOrder_is]; exact String.toList_ofList
set_option maxRecDepth 100000 in
theorem head_words : (behindMainWord (wordsSigns headSigns)).take 1 = ["cut".toList] := by kernel_rfl
theorem Tryd.words : ∃ rest, behindMainWord (wordsSigns Tryd.prog.initOrder.toList) = "cut".toList :: rest := by
  rw [Tryd.initOrder_signs]
  have h := List.take_append_drop 1 (behindMainWord (wordsSigns headSigns))
  rw [head_words] at h
  exact ⟨_, h.symm⟩
theorem Tryd.make : Tryd.prog.make = some .cut := by obtain ⟨_, h⟩ := Tryd.words; exact make_of h
theorem Tryd.liftsFinal : Tryd.prog.liftsFinal = false := by obtain ⟨_, h⟩ := Tryd.words; exact final_of h
theorem Tryd.laysLater : Tryd.prog.laysLater = false := by kernel_rfl
theorem Tryd.bearsReflect : Tryd.prog.bearsReflect = false := by kernel_rfl
theorem Tryd.doorFits : Tryd.prog.doorFits [] = true := by kernel_rfl
theorem Tryd.mayEnter : Tryd.prog.mayEnter = true := by obtain ⟨_, h⟩ := Tryd.words; exact enter_of h Tryd.laysLater Tryd.bearsReflect Tryd.doorFits
theorem Tryd.mapsRowed : mapsRowed Tryd.prog = true := by kernel_rfl
theorem Tryd.stops : (Tryd.prog.stops == []) = true := by kernel_rfl
theorem Tryd.stopKnobs : (Tryd.prog.stopKnobs == []) = true := by kernel_rfl
theorem Tryd.plainKeys : Tryd.prog.plainKeys = true := by kernel_rfl
theorem Tryd.stopsHeard : Tryd.prog.stopsHeard = true := by kernel_rfl

/-- What the types of one law give: closed facts on its parameters and its result. -/
def typeFacts (P : Program) (fn : Func) (s : ChangeSpec) (c : OpenClaim) : Bool :=
  fn.params.all (P.readableRec ·) && namedTie P c.named s.vars && (c.stops == []) && (c.knobs == []) &&
  (c.maps == (fn.params.toList ++ s.plain.varTypes P).any (P.mapsRec ·)) && (c.ifaces == (fn.params.toList ++ s.plain.varTypes P).any (P.ifacesRec ·)) && (c.mapsOut == P.mapsAmong fn.resultTypes.toList) &&
  (c.loops == (fn.params.toList ++ s.plain.varTypes P).any (P.loopsFrom ·)) && (c.wideKeys == (fn.params.toList ++ s.plain.varTypes P ++ fn.resultTypes.toList).any (P.wideKeysFrom ·)) &&
  s.vars.all (P.varReadable ·) && fn.resultTypes.all (fun t => P.readableRec t && decide (t < P.types.size)) && (c.ifacesOut == fn.resultTypes.toList.any (P.ifacesRec ·)) && (c.loopsOut == fn.resultTypes.toList.any (P.loopsFrom ·)) && c.shortTexts.isNone &&
  (c.kinds == (if c.domain.isEmpty then [] else fn.params.toList.map fun t => match P.underlying t with | some (.int k) => some k | _ => none)) && (c.pinned == c.pinnedBy) &&
  (c.veiled == (fn.params.toList ++ s.plain.varTypes P ++ fn.resultTypes.toList).any (P.veiledRec ·)) && c.veiledFits P fn.params.toList (fn.params.toList ++ s.plain.varTypes P ++ fn.resultTypes.toList)
theorem joined_all {P : Program} {f : FuncId} {fn : Func} {s : ChangeSpec} {c : OpenClaim} (k1 : c.wf (OpenSpec.ofChange s) = true) (kt : typeFacts P fn s c = true)
    (k10 : (c.inPlace == P.inPlace f) = true) (k11 : (c.unfollowed == P.unfollowed f) = true) (k12 : (c.recurses == P.recurses f) = true) (k13 : (c.named == P.varsNamed f) = true)
    (e2 : laidOutB P = true) (e3 : mapsRowed P = true) (e7 : (P.stops == []) = true) (e9 : (P.stopKnobs == []) = true) (e22 : (c.plainKeys == P.plainKeys) = true) (e23 : P.stopsHeard = true) (e24 : P.mayEnter = true)
    (e24b : (c.lifted == P.liftsFinal) = true) (e24c : (P.make == some c.make) = true) : joinedFacts P f fn s c = true := by
  unfold typeFacts at kt
  unfold joinedFacts
  simp only [Bool.and_eq_true] at kt ⊢
  obtain ⟨⟨⟨⟨⟨⟨⟨⟨⟨⟨⟨⟨⟨⟨⟨⟨⟨t1, t2⟩, t3⟩, t4⟩, t5⟩, t6⟩, t7⟩, t8⟩, t9⟩, t10⟩, t11⟩, t12⟩, t13⟩, t14⟩, t15⟩, t16⟩, t17⟩, t18⟩ := kt
  exact ⟨⟨⟨⟨⟨⟨⟨⟨⟨⟨⟨⟨⟨⟨⟨⟨⟨⟨⟨⟨⟨⟨⟨⟨⟨⟨⟨⟨⟨⟨⟨k1, e2⟩, e3⟩, t1⟩, t2⟩, t3⟩, e7⟩, t4⟩, e9⟩, k10⟩, k11⟩, k12⟩, k13⟩, t5⟩, t6⟩, t7⟩, t8⟩, t9⟩, t10⟩, t11⟩, t12⟩, t13⟩, e22⟩, t14⟩, e23⟩, e24⟩, e24b⟩, e24c⟩, t15⟩, t16⟩, t17⟩, t18⟩
theorem joined_of {f : FuncId} {fn : Func} {s : ChangeSpec} {c : OpenClaim} (k1 : c.wf (OpenSpec.ofChange s) = true) (kt : typeFacts Tryd.prog fn s c = true)
    (k10 : (c.inPlace == Tryd.prog.inPlace f) = true) (k11 : (c.unfollowed == Tryd.prog.unfollowed f) = true) (k12 : (c.recurses == Tryd.prog.recurses f) = true) (k13 : (c.named == Tryd.prog.varsNamed f) = true)
    (k22 : c.plainKeys = true) (k24b : c.lifted = false) (k24c : c.make = .cut) : joinedFacts Tryd.prog f fn s c = true :=
  joined_all k1 kt k10 k11 k12 k13 Tryd.laidOut Tryd.mapsRowed Tryd.stops Tryd.stopKnobs (by rw [k22, Tryd.plainKeys]; rfl) Tryd.stopsHeard Tryd.mayEnter (by rw [k24b, Tryd.liftsFinal]; rfl) (by rw [k24c, Tryd.make]; rfl)
end Go.Proofs.YtnpljmipicjacaaDoor
/-
  THE DOOR SEAT's CONDITION: the library's table lies in its variable: what a walk reads of it, and a world that meets it.
-/
namespace Go.Proofs.YtnpljmipicjacaaDoor
open Go.RowKit

def tabInts : List Int := Lib.deBruijn32tab.map fun n : Nat => (n : Int)
theorem Tryd.tabGlobal : Tryd.prog.globalNamed "math/bits.deBruijn32tab" = some 0 := by kernel_rfl
theorem Tryd.tabType : (Tryd.prog.globals[0]?).map (·.type) = some 106 := by kernel_rfl
theorem Tryd.tabCells : Tryd.prog.cellsOf 106 = 32 := by kernel_rfl
theorem Tryd.byteCells : Tryd.prog.cellsOf 5 = 1 := by kernel_rfl
theorem tabInts_at : ∀ i : Fin 32, tabInts.getD i.val 0 = ((Lib.deBruijn32tab.getD i.val 0 : Nat) : Int) := by decide
theorem tab_of_laid {W : World} (h : laidMetH Tryd.prog [("math/bits.deBruijn32tab", Rows.laid_math_bits_deBruijn32tab)] W) : TabW W := by
  have h' : laidMet Tryd.prog (("math/bits.deBruijn32tab", Lib.tabData .u8 tabInts) :: []) W := h
  have ht := Lib.tabIs_of_head Tryd.tabGlobal Tryd.tabType Tryd.underlying106 Tryd.underlying5 Tryd.byteCells Tryd.tabCells h'
  intro j hj
  rw [ht.cell Tryd.tabGlobal j (by simpa [tabInts, Lib.deBruijn32tab] using hj), tabInts_at ⟨j, hj⟩]

/-- A world that meets the condition. -/
noncomputable def laidWorld (os : Os) : World :=
  let w0 := World.holding Tryd.prog os ⟨#[], #[], []⟩
  { w0 with heap := w0.heap.modify 0 fun
      | .cells _ t frozen => .cells (tabInts.map fun z => Value.int .u8 z).toArray t frozen
      | o => o }
theorem laidWorld_met (os : Os) (args : Array Value) : laidMetH Tryd.prog [("math/bits.deBruijn32tab", Rows.laid_math_bits_deBruijn32tab)] ((laidWorld os).forCall (fun _ _ => 0) ⟨#[], args, []⟩).memory :=
  laidMetH_of_parts (laidMet_of_run' 8 (by kernel_rfl) (by kernel_rfl)) (by kernel_rfl)
end Go.Proofs.YtnpljmipicjacaaDoor
