/-
  Texts put together for the claims of 'GroupsOfParty' (pack 7): GopS, LawGroupsOfParty, Head, Facts.
-/
import Derived.Test.YthddlpghjkiioaaGroupsOfPartyP1
import Derived.Test.YthddlpghjkiioaaGroupsOfPartyP6
import Derived.Deep.RegionHeld3
import Derived.Test.YthddlpghjkiioaaRows
/-
  THE GROUPS OF A PARTY: the model's 'GroupsOfParty', by its contract.
-/
namespace Go.Proofs.Ythddlpghjkiioaa
open Go.RowKit

theorem rowI_info : (Try.prog.info? 22).map (fun i => (i.zero, i.size, i.bytes)) = some (some (.slice none 0 0), 1, 24) := by kernel_rfl
set_option maxHeartbeats 4000000 in
set_option maxRecDepth 100000 in
theorem specGroupsOfParty_any (p : Int) (l : PL) (A : Option Addr) (c : Nat) (w : World) (hl : l.length ≤ 1048576) (hA : CRead w w.heap.size A (pcells l)) :
    Calls Try.prog 30 #[.agg #[.int .i64 p, .slice A l.length c]] w (ReadRowsOk w (resGroupsOfParty p l).1 (resGroupsOfParty p l).2) := by
  have RA : CRead (w.alloc (Obj.cells #[.int .i64 p, .slice A l.length c] 25)) (w.alloc (Obj.cells #[.int .i64 p, .slice A l.length c] 25)).heap.size A (pcells l) := (hA.below (B' := w.heap.size) (by go_grown) (Nat.le_refl _)).more (by go_size)
  cases hf : isFew p l with
  | false =>
    have e : resGroupsOfParty p l = ([], false) := by simp [resGroupsOfParty, hf]
    rw [e]
    have Hf := Lib.hid hf
    clear hf e
    go_enter Try.func30, Try.ntmps30
    go_wp2_with fail
    refine (grFew_any _ _ _ _ _ hl RA).mono ?_
    rw [Hf.out]
    rintro e w2 ⟨rfl, hb2⟩
    simp only [World.size_alloc] at hb2
    have k2 : Below w.heap.size w w2 := Below.trans (b := _) (by go_grown) (hb2.mono (by omega))
    go_wp2
    go_ret2
    exact ⟨none, 0, rfl, SRead.nil _ _ _, k2⟩
  | true =>
    have e : resGroupsOfParty p l = (groupsC (fewestC (adj (otherP p.toNat l)) p.toNat).1, true) := by simp [resGroupsOfParty, hf]
    have hp : isP p l = true := by unfold isFew at hf; simp at hf; exact hf.1
    have hn := isP_range hp
    obtain ⟨n, rfl⟩ : ∃ n : Nat, p = n := ⟨p.toNat, by omega⟩
    rw [e]
    simp only [Int.toNat_natCast]
    have hgood := (fewest_good (adj (otherP n l)) n).1
    have hql := fewestC_length (adj (otherP n l)) n
    have hfew := fun (A3 : Option Addr) (c3 : Nat) (w3 : World) (h3 : CRead w3 w3.heap.size A3 (pcells (otherP n l))) => grFewest_any n (otherP n l) A3 c3 w3 (by omega) (other_isP hp) h3
    obtain ⟨q, hq⟩ : ∃ q, (fewestC (adj (otherP n l)) n).1 = q := ⟨_, rfl⟩
    obtain ⟨m2, hm2⟩ : ∃ m2, (fewestC (adj (otherP n l)) n).2 = m2 := ⟨_, rfl⟩
    simp only [hq, hm2] at hfew hgood hql ⊢
    have hof : (otherP n l).length ≤ 66 := otherP_few (by omega) l
    have hnone : ∀ k, (q.take k).length ≤ 1048576 := fun k => by rw [List.length_take]; omega
    have hul := usedC_le hgood
    have Hf := Lib.hid hf
    have Hp := Lib.hid hp
    have Hq := Lib.hid hq
    have Hgood := Lib.hid hgood
    have Hfew := Lib.hid hfew
    have Hul := Lib.hid hul
    have Hnone := Lib.hid hnone
    obtain ⟨i0, hi, hz0, hz1, hz2⟩ := info_parts Try.infoInt
    obtain ⟨i2, hrk, hx0, hx1, hx2⟩ := info_parts rowI_info
    clear hf hp e hq hm2 hfew hgood hul hnone
    go_enter Try.func30, Try.ntmps30
    go_wp2_with fail
    refine (grFew_any _ _ _ _ _ hl RA).mono ?_
    rw [Hf.out]
    rintro e w2 ⟨rfl, hb2⟩
    simp only [World.size_alloc] at hb2
    have a0 : w2.cell? ⟨w.heap.size, 0, none⟩ = some (.int .i64 n) := carry hb2 (by simp) (by omega)
    have a1 : w2.cell? ⟨w.heap.size, 1, none⟩ = some (.slice A l.length c) := carry hb2 (by simp) (by omega)
    have k2 : Below w.heap.size w w2 := Below.trans (b := _) (by go_grown) (hb2.mono (by omega))
    clear hb2
    go_wp2_with fail
    refine (paOther_any n l A c w2 Hp.out ((hA.below k2 (Nat.le_refl _)).more k2.size)).mono ?_
    rintro e w3 ⟨A3, c3, rfl, own3, hb3⟩
    rw [Int.toNat_natCast] at own3
    simp only [Int.toNat_natCast]
    have k3 := k2.trans (hb3.mono k2.size)
    have call := Hfew.out A3 c3 w3 (CRead.of_own own3)
    have Call := Lib.hid call
    have K3 := Lib.hid k3
    clear hb3 k2 a0 a1 call own3 k3 Hfew
    go_wp2_with fail
    refine Call.out.mono ?_
    rintro e w4 ⟨A4, c4, rfl, own4, hb4⟩
    have k4 := K3.out.trans (hb4.mono K3.out.size)
    have rd4 := CRead.of_own own4
    have hc4 : n ≤ c4 := by obtain ⟨A9, c9, e9, h9⟩ := own_shape own4; cases e9; omega
    have K4 := Lib.hid k4
    have Rd4 := Lib.hid rd4
    have s4 := k4.size
    clear own4 hb4 Call k4 rd4
    go_wp2_with fail
    go_loopw [6, 23] (fun v i wr => ∃ (a : Nat) (R : Nat → Option Addr) (C : Nat → Nat), a ≤ n ∧ i = .int .i64 a ∧ RowsL wr w4.heap.size v ((List.range (usedC (q.take a))).map (grpC q n)) R C ∧ Below w4.heap.size w4 wr) (fun _ i _ => n - (intOf i).toNat)
    case atStart => exact ⟨0, _, _, Nat.zero_le _, rfl, RowsL.none _ _, Below.refl _ _⟩
    case round =>
      obtain ⟨a, R, C, ha, rfl, hG, hb⟩ := hrel
      have hsz := hb.size
      have hou := Hul.out a (by omega)
      have htl : (q.take a).length = a := by rw [List.length_take]; omega
      by_cases hlt : a < n
      · have hki : (a : Int) < (n : Int) := by omega
        obtain ⟨x, hx⟩ := getSome q a (by omega)
        have hxD : q.getD a 0 = x := by rw [List.getD_eq_getElem?_getD, hx]; rfl
        obtain ⟨bq, offq, rfl, hbq, u0⟩ := (Rd4.out.below hb (Nat.le_refl _)).int hx
        have haC : a ≤ c4 := by omega
        have hhas := l1Has_any (q.take a) x (some ⟨bq, offq, none⟩) c4 wr (Hnone.out a) ((CRead.front Rd4.out a).below hb (Nat.le_refl _) |>.more hsz)
        rw [htl] at hhas
        have Hhas := Lib.hid hhas
        have HG := Lib.hid hG
        have Hb := Lib.hid hb
        clear hhas hG hb hx
        go_wp2_with fail
        refine Hhas.out.mono ?_
        rintro e w5 ⟨rfl, rfl⟩
        clear Hhas
        by_cases hold : (q.getD a 0).toNat < usedC (q.take a)
        · have hh : hasI (q.take a) x = true := by rw [hasI_mem, ← hxD]; exact (goodC_has Hgood.out (by omega)).2 hold
          have hu := goodC_old (q := q) (a := a) (by omega) hold
          rw [hh]
          have Hu := Lib.hid hu
          clear hh hu hold
          go_wp2
          go_roundw
          case rel => exact ⟨a + 1, R, C, by omega, by go_num, by rw [Hu.out]; exact HG.out, Hb.out⟩
          case measure => simp [intOf]; omega
        · have hh : hasI (q.take a) x = false := by
            rw [Bool.eq_false_iff, ne_eq, hasI_mem, ← hxD]
            exact fun h => hold ((goodC_has Hgood.out (by omega)).1 h)
          obtain ⟨hu, hxu⟩ := goodC_new Hgood.out (a := a) (by omega) hold
          rw [hxD] at hxu
          rw [hh]
          obtain ⟨U, hU⟩ : ∃ U, usedC (q.take a) = U := ⟨_, rfl⟩
          rw [hU] at hu hxu hou HG
          have Hu := Lib.hid hu
          have HU := Lib.hid hU
          subst hxu
          clear hh hu hold hU
          have hUn : U ≤ n := by omega
          obtain ⟨wo, hwo⟩ : ∃ wo, wo = wr := ⟨_, rfl⟩
          subst hwo
          go_wp2_with fail
          go_loopw [9, 35] (fun v i wr => ∃ b : Nat, b ≤ n ∧ i = .int .i64 b ∧ wr.ownsRow wo.heap.size 3 1 v (grpC q b U).length (icells (grpC q b U)) ∧ Below wo.heap.size wo wr) (fun _ i _ => n - (intOf i).toNat)
          case atStart => exact ⟨0, Nat.zero_le _, rfl, World.ownsRow_nil _ _ _ _, Below.refl _ _⟩
          case round =>
            obtain ⟨b, hbn, rfl, hown, hb2⟩ := hrel
            have hs2 := hb2.size
            by_cases hltb : b < n
            · have hkib : (b : Int) < (n : Int) := by omega
              obtain ⟨y, hy⟩ := getSome q b (by omega)
              have hyD : q.getD b 0 = y := by rw [List.getD_eq_getElem?_getD, hy]; rfl
              obtain ⟨bq2, offq2, e2, hbq2, u2⟩ := (Rd4.out.below (Hb.out.trans (hb2.mono hsz)) (Nat.le_refl _)).int hy
              simp only [Option.some.injEq, Addr.mk.injEq, and_true] at e2
              obtain ⟨rfl, rfl⟩ := e2
              have hgl := grpC_len q b U
              have hsucc := grpC_succ q b U
              rw [hyD] at hsucc
              have Hsucc := Lib.hid hsucc
              clear hsucc hy hyD
              by_cases hyu : y = (U : Int)
              · have hbe : (y == (U : Int)) = true := beq_iff_eq.2 hyu
                have hyu2 := Lib.hid hyu
                clear hyu
                go_wp2_with (at_builtin; refine wpList_append_own _ rfl _ _ 22 rfl wo.heap.size 3 i0 _ 1 8 Try.underlying22 hi hz0 hz1 hz2 rfl (by decide) _ _ _ rfl (hown.alloc _) ⟨wr.heap.size, 0, none⟩ 1 1 [.int .i64 b] rfl rfl (one_cell (by simp)) (one_one rfl) (by unfold maxLen; omega) (by omega) (by simp; omega) ?_; intro v1 w6 hown6 hg6 _; obtain ⟨A1, d1', rfl, _⟩ := own_shape hown6)
                go_roundw
                case rel =>
                  refine ⟨b + 1, by omega, by go_num, ?_, ?_⟩
                  · rw [Hsucc.out, if_pos hyu2.out]
                    rw [icells_append, List.length_append]
                    exact hown6
                  · exact (hb2.alloc hs2 _).grown hg6 (by simp; omega) (fun k hk => (hown.lt k hk).1)
                case measure => simp [intOf]; omega
              · have hbe : (y == (U : Int)) = false := by simpa using hyu
                have hyu2 := Lib.hid hyu
                clear hyu
                go_wp2
                go_roundw
                case rel =>
                  refine ⟨b + 1, by omega, by go_num, ?_, hb2⟩
                  rw [Hsucc.out, if_neg hyu2.out, List.append_nil]
                  exact hown
                case measure => simp [intOf]; omega
            · have hkl : n = b := by omega
              subst hkl
              have hge : ¬ ((n : Int) < n) := by omega
              obtain ⟨A7, c7, rfl, _⟩ := own_shape hown
              have hGW := HG.out.below hb2
              have hoW := hGW.own
              have kW : Below w4.heap.size w4 wr := Hb.out.trans (hb2.mono hsz)
              have hap := HG.out.fresh (own_lies hown) (Nat.le_refl _)
              have hgl := grpC_len q n U
              have hlen : ((List.range U).map (grpC q n)).length = U := by simp
              have HGW := Lib.hid hGW
              have HAp := Lib.hid hap
              have Own2 := Lib.hid (own_lower hown hsz)
              have KW := Lib.hid kW
              clear hGW hap hown hb2 kW
              go_wp2_with (at_builtin; refine wpList_append_own _ rfl _ _ 46 rfl w4.heap.size 22 i2 (.slice none 0 0) 1 24 Try.underlying46 hrk hx0 hx1 hx2 rfl (by decide) _ _ _ rfl (hoW.alloc _) ⟨wr.heap.size, 0, none⟩ 1 1 [.slice A7 (grpC q n U).length c7] rfl rfl (one_cell (by simp)) (one_one rfl) (by unfold maxLen; omega) (by omega) (by simp; omega) ?_; intro v3 w8 hown8 hg8 _; obtain ⟨A8, d8, rfl, _⟩ := own_shape hown8)
              have hb8 : Below w4.heap.size w4 w8 := (KW.out.alloc (by have := KW.out.size; omega) _).grown hg8 (by have := KW.out.size; simp; omega) (fun b hb => (hoW.lt b hb).1)
              have ch8 := RowsL.push (l := grpC q n U) (HGW.out.below ((Below.refl wr.heap.size wr).alloc (Nat.le_refl _) _)) (own_below Own2.out ((Below.refl wr.heap.size wr).alloc (Nat.le_refl _) _) (Nat.le_refl _)) HAp.out hg8 hown8
              have Ch8 := Lib.hid ch8
              have Hb8 := Lib.hid hb8
              clear ch8 hb8 hown8 hg8 hoW
              go_roundw
              case rel => exact ⟨a + 1, _, _, by omega, by go_num, by have h := Ch8.out; rw [hlen] at h; rw [Hu.out, List.range_succ, List.map_append]; exact h, Hb8.out⟩
              case measure => simp [intOf]; omega
      · have hkl : n = a := by omega
        subst hkl
        have hge : ¬ ((n : Int) < n) := by omega
        have eq2 : (List.range (usedC (q.take n))).map (grpC q n) = groupsC q := by
          unfold groupsC
          rw [List.take_of_length_le (by omega), hql]
        rw [eq2] at hG
        obtain ⟨LF, hLF⟩ : ∃ LF, groupsC q = LF := ⟨_, rfl⟩
        have hLF2 := Lib.hid hLF
        rw [hLF] at hG
        obtain ⟨A7, c7, rfl, _⟩ := own_shape hG.own
        have HG := Lib.hid hG
        have Hb := Lib.hid (K4.out.trans (hb.mono s4))
        clear hG hb eq2 hLF
        go_wp2
        go_ret2
        rw [hLF2.out]
        exact ⟨A7, c7, rfl, HG.out.read, Hb.out⟩
end Go.Proofs.Ythddlpghjkiioaa
/-
  'laws.FnExactGroupsOfParty' returns true, whatever its arguments: out of the contracts of the model's function and of the program's.
-/
namespace Go.Proofs.Ythddlpghjkiioaa
open Go.RowKit

set_option maxHeartbeats 4000000 in
set_option maxRecDepth 100000 in
theorem lawGroupsOfParty_any (p0 : Int) (l0 : PL) (A0 : Option Addr) (c0 : Nat) (W : World) (hl0 : l0.length ≤ maxLen) (hA0 : CRead W W.heap.size A0 (pcells l0)) :
    Calls Try.prog 8 #[.agg #[.int .i64 p0, .slice A0 l0.length c0]] W fun e w' => e = .returned (.bool true) ∧ Below W.heap.size W w' := by
  have hone : (0 : Int) ≤ 1 ∧ (1 : Int) ≤ 16777216 := by omega
  by_cases hz0 : szI (1048576) l0.length < 0
  · go_enter Try.func8, Try.ntmps8
    go_wp2_with fail
    refine (szParty_any _ _ _ _ _ hl0 (by omega) (by omega) _).mono ?_
    rintro e w1 ⟨rfl, hb1⟩
    simp only [World.size_alloc] at hb1
    have g1 : Below W.heap.size W w1 := Below.trans (b := _) (by go_grown) (hb1.mono (by omega))
    have s1 := hb1.size
    simp only [World.size_alloc] at s1
    have f1_0 : w1.cell? ⟨W.heap.size, 0, none⟩ = some (.int .i64 p0) := carry hb1 (by simp) (by omega)
    have f1_1 : w1.cell? ⟨W.heap.size, 1, none⟩ = some (.slice A0 l0.length c0) := carry hb1 (by simp) (by omega)
    have k1 : Below W.heap.size W w1 := g1
    go_wp2
    go_ret
    exact ⟨rfl, k1⟩
  have hn0 : l0.length ≤ 1048576 := by have h1 := szI_len _ _ hz0; have h2 := szI_hi (1048576) l0.length (by omega); omega
  have hz0' : 0 ≤ szI (1048576) l0.length := by omega
  have hz0'' : szI (1048576) l0.length ≤ 1048576 := by have h2 := szI_hi (1048576) l0.length (by omega); omega
  obtain ⟨⟨rm, rok⟩, hres⟩ : ∃ r, resGroupsOfParty p0 l0 = r := ⟨_, rfl⟩
  have hrn : rm.length ≤ 1048576 := by have h := (resGroupsOfParty_len p0 l0).1; rw [hres] at h; exact h
  have hrs : sumL rm ≤ 1048576 := by have h := (resGroupsOfParty_len p0 l0).2; rw [hres] at h; exact h
  have hrl : rm.length ≤ maxLen := by unfold maxLen; omega
  have hrr : ∀ l ∈ rm, l.length ≤ maxLen := fun l h => by have := sumL_row h; unfold maxLen; omega
  have hone2 : (0 : Int) ≤ 1 ∧ (1 : Int) ≤ 8388608 := by omega
  have Hres := Lib.hid hres
  clear hres
  go_enter Try.func8, Try.ntmps8
  go_wp2_with fail
  refine (szParty_any _ _ _ _ _ hl0 (by omega) (by omega) _).mono ?_
  rintro e w1 ⟨rfl, hb1⟩
  simp only [World.size_alloc] at hb1
  have g1 : Below W.heap.size W w1 := Below.trans (b := _) (by go_grown) (hb1.mono (by omega))
  have s1 := hb1.size
  simp only [World.size_alloc] at s1
  have f1_0 : w1.cell? ⟨W.heap.size, 0, none⟩ = some (.int .i64 p0) := carry hb1 (by simp) (by omega)
  have f1_1 : w1.cell? ⟨W.heap.size, 1, none⟩ = some (.slice A0 l0.length c0) := carry hb1 (by simp) (by omega)
  have k1 : Below W.heap.size W w1 := g1
  go_wp2_with fail
  refine (toParty_any p0 l0 A0 c0 _ hn0 ((hA0.below k1 (Nat.le_refl _)).more k1.size)).mono ?_
  rintro e w2 ⟨T2, d2, rfl, n2, hb2⟩
  have g2 : Below w1.heap.size w1 w2 := hb2
  have s2 := hb2.size
  have f2_0 := carry g2 f1_0 (by omega)
  have f2_1 := carry g2 f1_1 (by omega)
  have k2 := k1.trans (g2.mono k1.size)
  clear f1_0 f1_1
  have r2 : Lies (.slice T2 l0.length d2) (w1.heap.size) w2.heap.size := own_lies n2
  go_wp2_with fail
  refine (specGroupsOfParty_any p0 l0 _ _ _ hn0 (CRead.of_own n2)).mono ?_
  rw [Hres.out]
  rintro e w3 ⟨T3, d3, rfl, n3, hb3⟩
  have g3 : Below w2.heap.size w2 w3 := hb3
  have s3 := hb3.size
  have f3_0 := carry g3 f2_0 (by omega)
  have f3_1 := carry g3 f2_1 (by omega)
  have o3_0 := own_below n2 g3 (Nat.le_refl _)
  have k3 := k2.trans (g3.mono k2.size)
  clear f2_0 f2_1 n2
  clear o3_0 r2
  go_wp2_with fail
  refine (toParty_any p0 l0 A0 c0 _ hn0 ((hA0.below k3 (Nat.le_refl _)).more k3.size)).mono ?_
  rintro e w4 ⟨T4, d4, rfl, n4, hb4⟩
  have g4 : Below w3.heap.size w3 w4 := hb4
  have s4 := hb4.size
  have f4_0 := carry g4 f3_0 (by omega)
  have f4_1 := carry g4 f3_1 (by omega)
  have m4_0 := n3.below (g4.mono (by omega)) (Nat.le_refl _)
  have k4 := k3.trans (g4.mono k3.size)
  clear f3_0 f3_1 n3
  have r4 : Lies (.slice T4 l0.length d4) (w3.heap.size) w4.heap.size := own_lies n4
  have q5_0 : (w4.alloc (Obj.cells #[.int .i64 p0, .slice T4 l0.length d4] 25)).cell? ⟨W.heap.size, 0, none⟩ = some (.int .i64 p0) := (World.cell?_alloc_lt _ _ _ (show W.heap.size < w4.heap.size by omega)).trans f4_0
  have q5_1 : (w4.alloc (Obj.cells #[.int .i64 p0, .slice T4 l0.length d4] 25)).cell? ⟨W.heap.size, 1, none⟩ = some (.slice A0 l0.length c0) := (World.cell?_alloc_lt _ _ _ (show W.heap.size < w4.heap.size by omega)).trans f4_1
  go_wp2_with fail
  refine (implGroupsOfParty_any p0 l0 _ _ _ hn0 (((CRead.of_own n4).below (B' := w4.heap.size) (by go_grown) (Nat.le_refl _)).more (by go_size))).mono ?_
  rw [Hres.out]
  rintro e w6 ⟨T6, d6, R6, C6, rfl, n6, hb6⟩
  simp only [World.size_alloc] at n6
  simp only [World.size_alloc] at hb6
  have g6 : Below w4.heap.size w4 w6 := Below.trans (b := _) (by go_grown) (hb6.mono (by omega))
  have s6 := hb6.size
  simp only [World.size_alloc] at s6
  have f6_0 := carry g6 f4_0 (by omega)
  have f6_1 := carry g6 f4_1 (by omega)
  have f6_2 : w6.cell? ⟨w4.heap.size, 0, none⟩ = some (.int .i64 p0) := carry hb6 (by simp) (by omega)
  have f6_3 : w6.cell? ⟨w4.heap.size, 1, none⟩ = some (.slice T4 l0.length d4) := carry hb6 (by simp) (by omega)
  have o6_0 := own_below n4 g6 (Nat.le_refl _)
  have m6_0 := m4_0.below (g6.mono (by omega)) (Nat.le_refl _)
  have k6 := k4.trans (g6.mono k4.size)
  clear f4_0 f4_1 n4 m4_0 q5_0 q5_1
  go_wp2_with fail
  refine (eqIntSS_same rm _ _ _ _ _ hrl hrr (RowsL.read n6) (SRead.more m6_0 (by omega))).mono ?_
  rintro e w7 ⟨rfl, hb7⟩
  have g7 : Below w6.heap.size w6 w7 := hb7
  have s7 := hb7.size
  have f7_0 := carry g7 f6_0 (by omega)
  have f7_1 := carry g7 f6_1 (by omega)
  have f7_2 := carry g7 f6_2 (by omega)
  have f7_3 := carry g7 f6_3 (by omega)
  have o7_0 := own_below o6_0 g7 (Nat.le_refl _)
  have m7_0 := m6_0.below (g7.mono (by omega)) (Nat.le_refl _)
  have m7_1 := RowsL.below n6 g7
  have k7 := k6.trans (g7.mono k6.size)
  clear f6_0 f6_1 f6_2 f6_3 o6_0 m6_0 n6
  go_wp2
  go_region_held3 (fun w' => w'.cell? ⟨W.heap.size, 0, none⟩ = some (.int .i64 p0) ∧ w'.cell? ⟨W.heap.size, 1, none⟩ = some (.slice A0 l0.length c0) ∧ w'.cell? ⟨w4.heap.size, 0, none⟩ = some (.int .i64 p0) ∧ w'.cell? ⟨w4.heap.size, 1, none⟩ = some (.slice T4 l0.length d4)) (first | exact ⟨f7_0, f7_1, f7_2, f7_3⟩ | exact ⟨f8_0, f8_1, f8_2, f8_3⟩ | exact ⟨f9_0, f9_1, f9_2, f9_3⟩) ((first | (go_at_call 21; refine (toParty_any p0 l0 A0 c0 _ hn0 ((hA0.below k7.drew (Nat.le_refl _)).more k7.size)).mono ?_; rintro e w8 ⟨T8, d8, rfl, n8, hb8⟩; have g8 : Below w7.heap.size w7 w8 := (Below.refl _ _).drew.trans hb8; have s8 := g8.size; have f8_0 := carry g8 f7_0 (by omega); have f8_1 := carry g8 f7_1 (by omega); have f8_2 := carry g8 f7_2 (by omega); have f8_3 := carry g8 f7_3 (by omega); have o8_0 := own_below o7_0 g8 (Nat.le_refl _); have m8_0 := m7_0.below (g8.mono (by omega)) (Nat.le_refl _); have m8_1 := RowsL.below m7_1 g8; have k8 := k7.trans (g8.mono k7.size)) | (go_at_call 14; refine (eqParty_any p0 p0 l0 l0 _ _ _ _ _ hl0 hl0 (CRead.of_own o8_0) (CRead.of_own n8)).mono ?_; rw [decide_eq_true ⟨rfl, rfl⟩]; rintro e w9 ⟨rfl, hb9⟩; have g9 : Below w8.heap.size w8 w9 := hb9; have s9 := g9.size; have f9_0 := carry g9 f8_0 (by omega); have f9_1 := carry g9 f8_1 (by omega); have f9_2 := carry g9 f8_2 (by omega); have f9_3 := carry g9 f8_3 (by omega); have o9_0 := own_below o8_0 g9 (Nat.le_refl _); have m9_0 := m8_0.below (g9.mono (by omega)) (Nat.le_refl _); have m9_1 := RowsL.below m8_1 g9; have k9 := k8.trans (g9.mono k8.size))))
  clear f7_0 f7_1 f7_2 f7_3 o7_0 f8_0 f8_1 f8_2 f8_3 o8_0 n8 m7_0 m7_1 m8_0 m8_1
  go_wp2_with fail
  refine (markParty_any p0 l0 _ _ _ (1) _ _ rfl hn0 (by omega) o9_0).mono ?_
  rintro e w10 ⟨rfl, n10, hg10⟩
  have s10 := hg10.size
  have f10_0 := carryG hg10 r4 f9_0 (by omega)
  have f10_1 := carryG hg10 r4 f9_1 (by omega)
  have f10_2 := carryG hg10 r4 f9_2 (by omega)
  have f10_3 := carryG hg10 r4 f9_3 (by omega)
  have k10 := belowG k9 hg10 r4 k9.size (by omega)
  have m10_0 := m9_0.below (belowG (Below.refl _ _) hg10 r4 (by omega) (by omega)) (Nat.le_refl _)
  have m10_1 := RowsL.keptG m9_1 hg10 r4 (by omega)
  clear f9_0 f9_1 f9_2 f9_3 o9_0 m9_0 m9_1
  have hmk : ¬ (1 + 2 * (l0.length : Int) < 0) := by omega
  go_wp2_with fail
  refine (eqIntSS_same rm _ _ _ _ _ hrl hrr (RowsL.read m10_1) (SRead.more m10_0 (by omega))).mono ?_
  rintro e w11 ⟨rfl, hb11⟩
  have g11 : Below w10.heap.size w10 w11 := hb11
  have s11 := hb11.size
  have f11_0 := carry g11 f10_0 (by omega)
  have f11_1 := carry g11 f10_1 (by omega)
  have f11_2 := carry g11 f10_2 (by omega)
  have f11_3 := carry g11 f10_3 (by omega)
  have o11_0 := own_below n10 g11 (Nat.le_refl _)
  have m11_0 := m10_0.below (g11.mono (by omega)) (Nat.le_refl _)
  have m11_1 := RowsL.below m10_1 g11
  have k11 := k10.trans (g11.mono k10.size)
  clear f10_0 f10_1 f10_2 f10_3 n10 m10_0 m10_1
  clear o11_0 r4
  go_wp2_with fail
  refine (markIntSS_rows rm _ _ 1 _ _ _ _ hrn hrs hone2 (by omega) m11_1).mono ?_
  rintro e w12 ⟨rfl, n12, hb12⟩
  have s12 := hb12.size
  have f12_0 := carry hb12 f11_0 (by omega)
  have f12_1 := carry hb12 f11_1 (by omega)
  have f12_2 := carry hb12 f11_2 (by omega)
  have f12_3 := carry hb12 f11_3 (by omega)
  have k12 := k11.trans (hb12.mono (by have := k11.size; omega))
  have m12_0 := m11_0.below (hb12.mono (by omega)) (Nat.le_refl _)
  clear f11_0 f11_1 f11_2 f11_3 m11_0 m11_1
  have hmr : ¬ (1 + (sumL rm : Int) < 0) := by omega
  go_wp2_with fail
  refine (heldIntSS_rows rm _ _ 1 _ _ _ _ hrn hrs hone2 n12).mono ?_
  rintro e w13 ⟨rfl, h13⟩
  subst h13
  go_wp2_with fail
  refine (toParty_any p0 l0 A0 c0 _ hn0 ((hA0.below k12 (Nat.le_refl _)).more k12.size)).mono ?_
  rintro e w14 ⟨T14, d14, rfl, n14, hb14⟩
  have g14 : Below w12.heap.size w12 w14 := hb14
  have s14 := hb14.size
  have f14_0 := carry g14 f12_0 (by omega)
  have f14_1 := carry g14 f12_1 (by omega)
  have f14_2 := carry g14 f12_2 (by omega)
  have f14_3 := carry g14 f12_3 (by omega)
  have m14_0 := m12_0.below (g14.mono (by omega)) (Nat.le_refl _)
  have m14_1 := MarkedL.below n12 g14
  have k14 := k12.trans (g14.mono k12.size)
  clear f12_0 f12_1 f12_2 f12_3 m12_0 n12
  have r14 : Lies (.slice T14 l0.length d14) (w12.heap.size) w14.heap.size := own_lies n14
  go_wp2_with fail
  refine (implGroupsOfParty_any p0 l0 _ _ _ hn0 (CRead.of_own n14)).mono ?_
  rw [Hres.out]
  rintro e w15 ⟨T15, d15, R15, C15, rfl, n15, hb15⟩
  have g15 : Below w14.heap.size w14 w15 := hb15
  have s15 := hb15.size
  have f15_0 := carry g15 f14_0 (by omega)
  have f15_1 := carry g15 f14_1 (by omega)
  have f15_2 := carry g15 f14_2 (by omega)
  have f15_3 := carry g15 f14_3 (by omega)
  have o15_0 := own_below n14 g15 (Nat.le_refl _)
  have m15_0 := m14_0.below (g15.mono (by omega)) (Nat.le_refl _)
  have m15_1 := MarkedL.below m14_1 g15
  have k15 := k14.trans (g15.mono k14.size)
  clear f14_0 f14_1 f14_2 f14_3 n14 m14_0 m14_1
  have p15 := RowsL.read n15
  clear o15_0 r14
  go_wp2_with fail
  refine (eqIntSS_same rm _ _ _ _ _ hrl hrr (SRead.more p15 (by omega)) (SRead.more m15_0 (by omega))).mono ?_
  rintro e w16 ⟨rfl, hb16⟩
  have g16 : Below w15.heap.size w15 w16 := hb16
  have s16 := hb16.size
  have f16_0 := carry g16 f15_0 (by omega)
  have f16_1 := carry g16 f15_1 (by omega)
  have f16_2 := carry g16 f15_2 (by omega)
  have f16_3 := carry g16 f15_3 (by omega)
  have m16_0 := m15_0.below (g16.mono (by omega)) (Nat.le_refl _)
  have m16_1 := MarkedL.below m15_1 g16
  have m16_2 := p15.below (g16.mono (by omega)) (Nat.le_refl _)
  have k16 := k15.trans (g16.mono k15.size)
  clear f15_0 f15_1 f15_2 f15_3 m15_0 m15_1 p15
  go_wp2_with fail
  refine (heldIntSS_rows rm _ _ 1 _ _ _ _ hrn hrs hone2 m16_1).mono ?_
  rintro e w17 ⟨rfl, h17⟩
  subst h17
  go_wp2
  go_ret
  exact ⟨rfl, k16⟩
end Go.Proofs.Ythddlpghjkiioaa
/-
  THE PROGRAM's HEAD, LOOKED AT ONCE: which make it is, and that a call may enter it. (The head's text is long: the kernel must not read it twice.)
-/
namespace Go.Proofs.Ythddlpghjkiioaa

theorem make_of {P : Program} {rest : List (List Char)} (h : behindMainWord (wordsSigns P.initOrder.toList) = "cut".toList :: rest) : P.make = some .cut := by
  unfold Program.make
  rw [h]
  rfl
theorem strip_cut (rest : List (List Char)) : stripLifts liftWords ("cut".toList :: rest) = ([], "cut".toList :: rest) := rfl
theorem lifts_of {P : Program} {rest : List (List Char)} (h : behindMainWord (wordsSigns P.initOrder.toList) = "cut".toList :: rest) : P.headLifts = [] := by
  unfold Program.headLifts
  rw [h, strip_cut]
  rfl
theorem final_of {P : Program} {rest : List (List Char)} (h : behindMainWord (wordsSigns P.initOrder.toList) = "cut".toList :: rest) : P.liftsFinal = false := by
  unfold Program.liftsFinal
  rw [lifts_of h, h]
  rfl
theorem enter_of {P : Program} {rest : List (List Char)} (h : behindMainWord (wordsSigns P.initOrder.toList) = "cut".toList :: rest) (h1 : P.laysLater = false) (h2 : P.bearsReflect = false) (h3 : P.doorFits [] = true) : P.mayEnter = true := by
  unfold Program.mayEnter
  rw [h]
  show (_ || _ || _) = true
  rw [strip_cut, h1, h2, h3]
  rfl
end Go.Proofs.Ythddlpghjkiioaa
/-
  THE PROGRAM's CLOSED FACTS, EACH ONCE; and how a row's facts are put together out of them.
-/
namespace Go.Proofs.Ythddlpghjkiioaa
open Go.ChangeShapes Go.WideShapes Go.ChangeAt Go.RowKit

def headSigns : List Char := ([104, 97, 114, 110, 101, 115, 115, 32, 56, 99, 49, 98, 48, 55, 52, 50, 97, 97, 50, 57, 102, 50, 97, 52, 101, 54, 98, 49, 51, 53, 52, 100, 54, 51, 51, 102, 101, 97, 54, 55, 101, 51, 48, 54, 97, 53, 49, 97, 51, 100, 49, 99, 52, 54, 99, 54, 48, 52, 50, 48, 53, 48, 53, 52, 48, 54, 50, 50, 54, 102, 54, 54, 32, 99, 117, 116, 32, 97, 116, 32, 108, 111, 111, 112, 46, 101, 120, 97, 109, 112, 108, 101, 47, 103, 48, 49, 50, 53, 55, 47, 108, 97, 119, 115, 46, 70, 110, 69, 120, 97, 99, 116, 70, 105, 114, 115, 116, 79, 102, 78, 117, 109, 98, 101, 114, 115, 32, 108, 111, 111, 112, 46, 101, 120, 97, 109, 112, 108, 101, 47, 103, 48, 49, 50, 53, 55, 47, 108, 97, 119, 115, 46, 70, 110, 69, 120, 97, 99, 116, 70, 101, 119, 101, 115, 116, 67, 111, 108, 111, 117, 114, 115, 32, 108, 111, 111, 112, 46, 101, 120, 97, 109, 112, 108, 101, 47, 103, 48, 49, 50, 53, 55, 47, 108, 97, 119, 115, 46, 70, 110, 69, 120, 97, 99, 116, 70, 105, 114, 115, 116, 67, 111, 108, 111, 117, 114, 105, 110, 103, 32, 108, 111, 111, 112, 46, 101, 120, 97, 109, 112, 108, 101, 47, 103, 48, 49, 50, 53, 55, 47, 108, 97, 119, 115, 46, 70, 110, 69, 120, 97, 99, 116, 67, 111, 117, 110, 116, 67, 111, 108, 111, 117, 114, 105, 110, 103, 115, 32, 108, 111, 111, 112, 46, 101, 120, 97, 109, 112, 108, 101, 47, 103, 48, 49, 50, 53, 55, 47, 108, 97, 119, 115, 46, 70, 110, 69, 120, 97, 99, 116, 70, 101, 119, 101, 115, 116, 71, 114, 111, 117, 112, 115, 32, 108, 111, 111, 112, 46, 101, 120, 97, 109, 112, 108, 101, 47, 103, 48, 49, 50, 53, 55, 47, 108, 97, 119, 115, 46, 70, 110, 69, 120, 97, 99, 116, 71, 114, 111, 117, 112, 115, 79, 102, 80, 97, 114, 116, 121, 32, 108, 111, 111, 112, 46, 101, 120, 97, 109, 112, 108, 101, 47, 103, 48, 49, 50, 53, 55, 47, 108, 97, 119, 115, 46, 70, 110, 69, 120, 97, 99, 116, 70, 105, 114, 115, 116, 65, 118, 111, 105, 100, 105, 110, 103, 32, 108, 111, 111, 112, 46, 101, 120, 97, 109, 112, 108, 101, 47, 103, 48, 49, 50, 53, 55, 47, 108, 97, 119, 115, 46, 70, 110, 69, 120, 97, 99, 116, 67, 111, 117, 110, 116, 65, 118, 111, 105, 100, 105, 110, 103] : List Nat).map Char.ofNat
set_option maxRecDepth 100000 in
theorem Try.initOrder_is : Try.prog.initOrder = String.ofList headSigns := by kernel_rfl
theorem Try.initOrder_signs : Try.prog.initOrder.toList = headSigns := by rw [Try.initOrder_is]; exact String.toList_ofList
set_option maxRecDepth 100000 in
theorem head_words : (behindMainWord (wordsSigns headSigns)).take 1 = ["cut".toList] := by kernel_rfl
theorem Try.words : ∃ rest, behindMainWord (wordsSigns Try.prog.initOrder.toList) = "cut".toList :: rest := by
  rw [Try.initOrder_signs]
  have h := List.take_append_drop 1 (behindMainWord (wordsSigns headSigns))
  rw [head_words] at h
  exact ⟨_, h.symm⟩
theorem Try.make : Try.prog.make = some .cut := by obtain ⟨_, h⟩ := Try.words; exact make_of h
theorem Try.liftsFinal : Try.prog.liftsFinal = false := by obtain ⟨_, h⟩ := Try.words; exact final_of h
theorem Try.laysLater : Try.prog.laysLater = false := by kernel_rfl
theorem Try.bearsReflect : Try.prog.bearsReflect = false := by kernel_rfl
theorem Try.doorFits : Try.prog.doorFits [] = true := by kernel_rfl
theorem Try.mayEnter : Try.prog.mayEnter = true := by obtain ⟨_, h⟩ := Try.words; exact enter_of h Try.laysLater Try.bearsReflect Try.doorFits
theorem Try.mapsRowed : mapsRowed Try.prog = true := by kernel_rfl
theorem Try.stops : (Try.prog.stops == []) = true := by kernel_rfl
theorem Try.stopKnobs : (Try.prog.stopKnobs == []) = true := by kernel_rfl
theorem Try.plainKeys : Try.prog.plainKeys = true := by kernel_rfl
theorem Try.stopsHeard : Try.prog.stopsHeard = true := by kernel_rfl

/-- What the types of one law give: closed facts on its parameters and its result. -/
def typeFacts (P : Program) (fn : Func) (s : ChangeSpec) (c : OpenClaim) : Bool :=
  fn.params.all (P.readableRec ·) && namedTie P c.named s.vars && (c.stops == []) && (c.knobs == []) &&
  (c.maps == (fn.params.toList ++ s.plain.varTypes P).any (P.mapsRec ·)) && (c.ifaces == (fn.params.toList ++ s.plain.varTypes P).any (P.ifacesRec ·)) && (c.mapsOut == P.mapsAmong fn.resultTypes.toList) &&
  (c.loops == (fn.params.toList ++ s.plain.varTypes P).any (P.loopsFrom ·)) && (c.wideKeys == (fn.params.toList ++ s.plain.varTypes P ++ fn.resultTypes.toList).any (P.wideKeysFrom ·)) &&
  s.vars.all (P.varReadable ·) && fn.resultTypes.all (fun t => P.readableRec t && decide (t < P.types.size)) && (c.ifacesOut == fn.resultTypes.toList.any (P.ifacesRec ·)) && (c.loopsOut == fn.resultTypes.toList.any (P.loopsFrom ·)) && c.shortTexts.isNone &&
  (c.kinds == (if c.domain.isEmpty then [] else fn.params.toList.map fun t => match P.underlying t with | some (.int k) => some k | _ => none)) && (c.pinned == c.pinnedBy) &&
  (c.veiled == (fn.params.toList ++ s.plain.varTypes P ++ fn.resultTypes.toList).any (P.veiledRec ·)) && c.veiledFits P fn.params.toList (fn.params.toList ++ s.plain.varTypes P ++ fn.resultTypes.toList)
theorem joined_all {P : Program} {f : FuncId} {fn : Func} {s : ChangeSpec} {c : OpenClaim} (k1 : c.wf (OpenSpec.ofChange s) = true) (kt : typeFacts P fn s c = true)
    (k10 : (c.inPlace == P.inPlace f) = true) (k11 : (c.unfollowed == P.unfollowed f) = true) (k12 : (c.recurses == P.recurses f) = true) (k13 : (c.named == P.varsNamed f) = true)
    (e2 : laidOutB P = true) (e3 : mapsRowed P = true) (e7 : (P.stops == []) = true) (e9 : (P.stopKnobs == []) = true) (e22 : (c.plainKeys == P.plainKeys) = true) (e23 : P.stopsHeard = true) (e24 : P.mayEnter = true)
    (e24b : (c.lifted == P.liftsFinal) = true) (e24c : (P.make == some c.make) = true) : joinedFacts P f fn s c = true := by
  unfold typeFacts at kt
  unfold joinedFacts
  simp only [Bool.and_eq_true] at kt ⊢
  obtain ⟨⟨⟨⟨⟨⟨⟨⟨⟨⟨⟨⟨⟨⟨⟨⟨⟨t1, t2⟩, t3⟩, t4⟩, t5⟩, t6⟩, t7⟩, t8⟩, t9⟩, t10⟩, t11⟩, t12⟩, t13⟩, t14⟩, t15⟩, t16⟩, t17⟩, t18⟩ := kt
  exact ⟨⟨⟨⟨⟨⟨⟨⟨⟨⟨⟨⟨⟨⟨⟨⟨⟨⟨⟨⟨⟨⟨⟨⟨⟨⟨⟨⟨⟨⟨⟨k1, e2⟩, e3⟩, t1⟩, t2⟩, t3⟩, e7⟩, t4⟩, e9⟩, k10⟩, k11⟩, k12⟩, k13⟩, t5⟩, t6⟩, t7⟩, t8⟩, t9⟩, t10⟩, t11⟩, t12⟩, t13⟩, e22⟩, t14⟩, e23⟩, e24⟩, e24b⟩, e24c⟩, t15⟩, t16⟩, t17⟩, t18⟩
theorem joined_of {f : FuncId} {fn : Func} {s : ChangeSpec} {c : OpenClaim} (k1 : c.wf (OpenSpec.ofChange s) = true) (kt : typeFacts Try.prog fn s c = true)
    (k10 : (c.inPlace == Try.prog.inPlace f) = true) (k11 : (c.unfollowed == Try.prog.unfollowed f) = true) (k12 : (c.recurses == Try.prog.recurses f) = true) (k13 : (c.named == Try.prog.varsNamed f) = true)
    (k22 : c.plainKeys = true) (k24b : c.lifted = false) (k24c : c.make = .cut) : joinedFacts Try.prog f fn s c = true :=
  joined_all k1 kt k10 k11 k12 k13 Try.laidOut Try.mapsRowed Try.stops Try.stopKnobs (by rw [k22, Try.plainKeys]; rfl) Try.stopsHeard Try.mayEnter (by rw [k24b, Try.liftsFinal]; rfl) (by rw [k24c, Try.make]; rfl)
end Go.Proofs.Ythddlpghjkiioaa
