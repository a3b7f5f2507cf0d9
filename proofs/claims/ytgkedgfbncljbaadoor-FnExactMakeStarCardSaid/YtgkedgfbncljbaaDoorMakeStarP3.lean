/-
  Texts put together for the claim of 'MakeStar' (pack 3): StarM, StarMS, LawMakeStar, Said, Head, Facts, Door.
-/
import Derived.Test.YtgkedgfbncljbaaDoorMakeStarP1
import Derived.Test.YtgkedgfbncljbaaDoorMakeStarP2
import Derived.Deep.RegionLaw
import Derived.Deep.RegionHeld3
import Derived.Test.YtgkedgfbncljbaaDoorRows
import Derived.ProofKit
import Derived.OpenShut
import Derived.Deep.SlicePairs
import Derived.Lib.SmallJoins
import Derived.Test.YtgkedgfbncljbaaDoorTie
import Derived.Test.YtgkedgfbncljbaaDoorCards
import Derived.Lib.LaidTab
import Derived.LaidHandle
import Derived.SevenTiedAt
/-
  'MakeStar': the lists as plain lists; the model's and the program's, by their contracts.
-/
namespace Go.Proofs.YtgkedgfbncljbaaDoor
open Go.RowKit

def nextM (n a : Nat) : Nat := (a + 1) % n
def pairM (s x : Nat) : List Nat := if s = x then [s] else if s < x then [s, x] else [x, s]
theorem pairM_set {s x : Nat} (hs : s < 12) (hx : x < 12) : IsSet (2 ^ s ||| 2 ^ x) (pairM s x) := by
  refine ⟨?_, fun b hb => ?_, fun b => ?_⟩
  · unfold pairM
    split
    · simp
    · split
      · simp; omega
      · simp; omega
  · unfold pairM at hb
    split at hb
    · simp at hb; omega
    · split at hb <;> simp at hb <;> omega
  · rw [Nat.testBit_or, Nat.testBit_two_pow, Nat.testBit_two_pow, Bool.or_eq_true, decide_eq_true_eq, decide_eq_true_eq]
    unfold pairM
    split
    · simp; omega
    · split <;> simp <;> omega
def rowM (n s a : Nat) : List Int := if a = s then [] else (pairM s (nextM n a)).map fun b : Nat => (b : Int)
theorem rowM_len (n s a : Nat) : (rowM n s a).length ≤ 2 := by
  unfold rowM pairM
  split
  · simp
  · rw [List.length_map]
    split
    · simp
    · split <;> simp
def resMakeStar (n s : Int) : List (List Int) × Bool := if (1 ≤ n ∧ n ≤ 12) ∧ (0 ≤ s ∧ s < n) then ((List.range n.toNat).map (rowM n.toNat s.toNat), true) else ([], false)
theorem resMakeStar_len (n s : Int) : (resMakeStar n s).1.length ≤ 1048576 ∧ sumL (resMakeStar n s).1 ≤ 1048576 := by
  unfold resMakeStar
  split
  · rename_i h
    have h1 : ((List.range n.toNat).map (rowM n.toNat s.toNat)).length ≤ 12 := by simp; omega
    have h2 := sumL_le (LL := (List.range n.toNat).map (rowM n.toNat s.toNat)) (m := 2) (fun l hl => by obtain ⟨a, _, rfl⟩ := List.mem_map.1 hl; exact rowM_len _ _ _)
    show ((List.range n.toNat).map (rowM n.toNat s.toNat)).length ≤ _ ∧ sumL ((List.range n.toNat).map (rowM n.toNat s.toNat)) ≤ _
    omega
  · simp [sumL]
theorem resMake_yes {n s : Nat} (h1 : 1 ≤ n) (h12 : n ≤ 12) (hs : s < n) : resMakeStar n s = ((List.range n).map (rowM n s), true) := by
  unfold resMakeStar
  rw [if_pos (by omega)]
  simp
theorem resMake_no {n s : Int} (h : ¬ ((1 ≤ n ∧ n ≤ 12) ∧ (0 ≤ s ∧ s < n))) : resMakeStar n s = ([], false) := if_neg h
theorem two_crowd {s x : Nat} (hs : s < 12) (hx : x < 12) : bits BinOp.or IntKind.u16 (IntKind.u16.wrap (2 ^ min s 16)) (IntKind.u16.wrap (2 ^ min x 16)) = ((2 ^ s ||| 2 ^ x : Nat) : Int) := by
  rw [shl_bit (show s < 16 by omega)]
  exact or_bit (two_lt (show s < 16 by omega)) (show x < 16 by omega)
theorem two_crowd2 {s x : Nat} (hs : s < 12) (hx : x < 12) : bits BinOp.or IntKind.u16 (IntKind.u16.wrap (2 ^ s)) (IntKind.u16.wrap (2 ^ x)) = ((2 ^ s ||| 2 ^ x : Nat) : Int) := by
  have := two_crowd hs hx
  rwa [Nat.min_eq_left (by omega), Nat.min_eq_left (by omega)] at this
theorem two_crowd3 {s x : Nat} (hs : s < 12) (hx : x < 12) : bits BinOp.or IntKind.u16 (IntKind.u16.wrap (2 ^ s)) (IntKind.u16.wrap (2 ^ min x 16)) = ((2 ^ s ||| 2 ^ x : Nat) : Int) := by
  have := two_crowd hs hx
  rwa [Nat.min_eq_left (show s ≤ 16 by omega)] at this
theorem tmod_next {n a : Nat} : Int.tmod ((a : Int) + 1) (n : Int) = ((nextM n a : Nat) : Int) := by
  rw [Int.tmod_eq_emod_of_nonneg (by omega)]
  simp [nextM]
/-- the first k rows, the others nil -/
def upToM (n s k : Nat) : Nat → List Int := fun i => if i < k then rowM n s i else []
set_option maxHeartbeats 4000000 in
set_option maxRecDepth 100000 in
theorem implMakeStar_any (n s : Int) (w : World) (htab : TabW w) : Calls Tryd.prog 6 #[.int .i64 n, .int .i64 s] w (GotRowsOk w (resMakeStar n s).1 (resMakeStar n s).2) := by
  by_cases h1 : n < 1
  · rw [resMake_no (by omega)]
    go_enter Tryd.func6, Tryd.ntmps6
    go_wp2
    go_ret2
    exact ⟨none, 0, _, _, rfl, RowsL.none _ _, by go_grown⟩
  by_cases h2 : 12 < n
  · rw [resMake_no (by omega)]
    go_enter Tryd.func6, Tryd.ntmps6
    go_wp2
    go_ret2
    exact ⟨none, 0, _, _, rfl, RowsL.none _ _, by go_grown⟩
  by_cases h3 : s < 0
  · rw [resMake_no (by omega)]
    go_enter Tryd.func6, Tryd.ntmps6
    go_wp2
    go_ret2
    exact ⟨none, 0, _, _, rfl, RowsL.none _ _, by go_grown⟩
  by_cases h4 : n ≤ s
  · rw [resMake_no (by omega)]
    go_enter Tryd.func6, Tryd.ntmps6
    go_wp2
    go_ret2
    exact ⟨none, 0, _, _, rfl, RowsL.none _ _, by go_grown⟩
  obtain ⟨n, rfl⟩ : ∃ m : Nat, n = m := ⟨n.toNat, by omega⟩
  obtain ⟨s, rfl⟩ : ∃ m : Nat, s = m := ⟨s.toNat, by omega⟩
  have hn1 : 1 ≤ n := by omega
  have hn12 : n ≤ 12 := by omega
  have hsn : s < n := by omega
  rw [resMake_yes hn1 hn12 hsn]
  obtain ⟨i0, hi, hz0, hz1, hz2⟩ := info_parts Tryd.infoRowI
  have e1 : decide ((n : Int) < 1) = false := decide_eq_false h1
  have e2 : decide ((12 : Int) < (n : Int)) = false := decide_eq_false h2
  have e3 : decide ((s : Int) < 0) = false := decide_eq_false h3
  have e4 : decide ((n : Int) ≤ (s : Int)) = false := decide_eq_false h4
  have HTab := Lib.hid htab
  clear htab
  go_enter Tryd.func6, Tryd.ntmps6
  go_wp2_with (at_make; refine wpList_make_full _ rfl _ _ 22 rfl w.heap.size 37 i0 _ 1 Tryd.underlying22 hi hz0 hz1 _ _ _ _ n rfl rfl (by omega) (by omega) (by rw [hz2]; omega) (by unfold maxLen; omega) (Nat.le_refl _) ?_; intro w1 hown1 hgr1)
  have hb1 : Below w.heap.size w w1 := (Below.refl _ _).grown hgr1 (Nat.le_refl _) (by simp)
  rw [show Value.cells (.slice none 0 0) = #[.slice none 0 0] from rfl, made_rows] at hown1
  have G1 : RowsG w1 w.heap.size (.slice (some ⟨w.heap.size, 0, none⟩) n n) n (fun _ => none) (fun _ => 0) (fun _ => 0) (upToM n s 0) :=
    ⟨hown1, fun i _ => by rw [show upToM n s 0 i = [] from if_neg (Nat.not_lt_zero i)]; exact ⟨rfl, World.ownsRow_nil _ _ _ _⟩, fun i j _ _ _ => .inl rfl⟩
  have H1 := Lib.hid G1
  have HB1 := Lib.hid hb1
  clear hown1 hgr1 G1 hb1 e1 e2 e3 e4
  go_loopw [26] (fun i wr => ∃ (k : Nat) (R : Nat → Option Addr) (C N : Nat → Nat), k ≤ n ∧ i = .int .i64 k ∧ RowsG wr w.heap.size (.slice (some ⟨w.heap.size, 0, none⟩) n n) n R C N (upToM n s k) ∧ Below w.heap.size w wr) (fun i _ => n - (intOf i).toNat)
  case atStart => exact ⟨0, _, _, _, Nat.zero_le _, rfl, H1.out, HB1.out⟩
  case round =>
    clear H1 HB1
    obtain ⟨k, R, C, N, hk, rfl, hG, hb⟩ := hrel
    have hs := hb.size
    by_cases hlt : k < n
    · have hki : (k : Int) < (n : Int) := by omega
      by_cases hks : k = s
      · have hne : ((k : Int) != (s : Int)) = false := by simp; omega
        have G2 := Lib.hid (hG.congr (F' := upToM n s (k + 1)) fun i _ => by
          unfold upToM
          by_cases e : i = k
          · subst e; rw [if_neg (Nat.lt_irrefl i), if_pos (Nat.lt_succ_self i)]; unfold rowM; rw [if_pos hks]
          · by_cases h3 : i < k
            · rw [if_pos h3, if_pos (by omega)]
            · rw [if_neg h3, if_neg (by omega)])
        clear hG
        go_wp2
        go_roundw
        case rel => exact ⟨k + 1, _, _, _, by omega, by go_num, G2.out, hb⟩
        case measure => simp [intOf]; omega
      · have hne : ((k : Int) != (s : Int)) = true := by simp; omega
        have hx12 : nextM n k < n := Nat.mod_lt _ (by omega)
        obtain ⟨x, hx⟩ : ∃ x, nextM n k = x := ⟨_, rfl⟩
        have htm : Int.tmod ((k : Int) + 1) (n : Int) = (x : Int) := by rw [tmod_next, hx]
        have hset := pairM_set (s := s) (x := x) (by omega) (by omega)
        have hrow : rowM n s k = (pairM s x).map fun b : Nat => (b : Int) := by unfold rowM; rw [if_neg hks, hx]
        have hlen : (rowM n s k).length = (pairM s x).length := by rw [hrow, List.length_map]
        have call : ∀ W : World, Below w.heap.size w W → Calls Tryd.prog 19 #[.int .u16 ((2 ^ s ||| 2 ^ x : Nat) : Int)] W fun e w' => ∃ A c, e = .returned (.slice A (rowM n s k).length c) ∧ w'.ownsRow W.heap.size 3 1 (.slice A (rowM n s k).length c) (rowM n s k).length (icells (rowM n s k)) ∧ Below W.heap.size W w' := fun W hW => by
          have h := peopleOf_any hset W (HTab.out.below hW HTab.out.pos)
          rw [hrow, List.length_map]
          exact h
        have Call := Lib.hid call
        have Hor := Lib.hid (two_crowd (s := s) (x := x) (by omega) (by omega))
        have Hor2 := Lib.hid (two_crowd2 (s := s) (x := x) (by omega) (by omega))
        have Hor3 := Lib.hid (two_crowd3 (s := s) (x := x) (by omega) (by omega))
        have hxs : (0 : Int) ≤ (x : Int) := by omega
        have hn0 : ¬ ((n : Int) = 0) := by omega
        have hrl := rowM_len n s k
        obtain ⟨L, hL⟩ : ∃ L, rowM n s k = L := ⟨_, rfl⟩
        rw [hL] at Call hrl
        have HL := Lib.hid hL
        have HG := Lib.hid hG
        clear call hset hrow hlen hx hL hG
        have hwk : IntKind.i64.wrap ((k : Int) + 1) = (k : Int) + 1 := by simp [IntKind.wrap, IntKind.bits, IntKind.signed]; omega
        have hn0' : ¬ (n = 0) := by omega
        go_wp2_with fail
        go_region_law (first
          | (go_simp; go_at_call 19; (first | rw [Hor3.out] | rw [Hor.out] | rw [Hor2.out]); refine (Call.out wr.drew hb.drew).mono ?_; rintro e w2 ⟨A2, c2, rfl, own2, hb2⟩; have kX : Below wr.heap.size wr w2 := (Below.refl _ _).drew.trans hb2; have G2 := HG.out.below kX; have cd := G2.headAt hlt; have cf := G2.own.frozenAt k; have s2 := kX.size)
          | fail)
        all_goals (have hap : ∀ i, i < n → i ≠ k → (Value.slice (R i) (N i) (C i)).ownBlock = none ∨ (Value.slice (R i) (N i) (C i)).ownBlock ≠ (Value.slice A2 L.length c2).ownBlock := fun i hi _ => HG.out.fresh (own_lies own2) (Nat.le_refl _) i hi)
        all_goals (have G3 := G2.put hlt (own_lower own2 (show w.heap.size ≤ wr.drew.heap.size from hs)) hap)
        all_goals (have G4 := Lib.hid (G3.congr (F' := upToM n s (k + 1)) fun i _ => by
          by_cases e : i = k
          · subst e; rw [upN_self]; unfold upToM; rw [if_pos (Nat.lt_succ_self i), HL.out]
          · rw [upN_ne _ _ e]; unfold upToM
            by_cases h3 : i < k
            · rw [if_pos h3, if_pos (by omega)]
            · rw [if_neg h3, if_neg (by omega)]))
        all_goals (have K4 := Lib.hid ((hb.trans (kX.mono hs)).setCell (p := ⟨w.heap.size, k, none⟩) (Nat.le_refl _) (.slice A2 L.length c2)))
        all_goals (clear hap G3 G2 own2 kX)
        go_wp2
        go_roundw
        case rel => exact ⟨k + 1, _, _, _, by omega, by go_num, G4.out, K4.out⟩
        case measure => simp [intOf]; omega
    · have hkl : k = n := by omega
      have hge : ¬ ((k : Int) < (n : Int)) := by omega
      have hgd : ∀ i, i < n → ((List.range n).map (rowM n s)).getD i [] = rowM n s i := fun i hi => by simp [List.getD_eq_getElem?_getD, hi]
      have hN : ∀ i, i < n → N i = (((List.range n).map (rowM n s)).getD i []).length := fun i hi => by rw [← (hG.row i hi).1, hgd i hi]; unfold upToM; rw [if_pos (by omega)]
      have G2 := Lib.hid ((hG.congr (F' := fun i => ((List.range n).map (rowM n s)).getD i []) fun i hi => by rw [hgd i hi]; unfold upToM; rw [if_pos (by omega)]).congrN hN)
      have hln : ((List.range n).map (rowM n s)).length = n := by simp
      have Hln := Lib.hid hln
      clear hG hN hgd hln
      go_wp2
      go_ret2
      refine ⟨some ⟨w.heap.size, 0, none⟩, n, R, C, by rw [Hln.out]; rfl, ?_, hb⟩
      unfold RowsL
      rw [Hln.out]
      exact G2.out
end Go.Proofs.YtgkedgfbncljbaaDoor
/-
  'MakeStar': the model's contract.
-/
namespace Go.Proofs.YtgkedgfbncljbaaDoor
open Go.RowKit

theorem putI_one {s x : Nat} (h : x ≠ s) : putI [(s : Int)] (x : Int) = (pairM s x).map fun b : Nat => (b : Int) := by
  unfold putI putAt pairM
  rw [if_neg (Ne.symm h)]
  by_cases e : s < x
  · rw [if_pos e]
    simp [e]
  · rw [if_neg e]
    simp [e]
theorem hasI_one {s x : Nat} : hasI [(s : Int)] (x : Int) = decide (x = s) := by
  unfold hasI
  by_cases e : x = s
  · subst e; simp
  · have : ¬ ((x : Int) = (s : Int)) := by omega
    simp [e, this]
/-- the first k rows -/
def rowsM (n s k : Nat) : List (List Int) := (List.range k).map (rowM n s)
theorem rowsM_len (n s k : Nat) : (rowsM n s k).length = k := by simp [rowsM]
theorem rowsM_succ (n s k : Nat) : rowsM n s (k + 1) = rowsM n s k ++ [rowM n s k] := by simp [rowsM, List.range_succ]
set_option maxHeartbeats 4000000 in
set_option maxRecDepth 100000 in
theorem specMakeStar_any (n s : Int) (w : World) : Calls Tryd.prog 5 #[.int .i64 n, .int .i64 s] w (ReadRowsOk w (resMakeStar n s).1 (resMakeStar n s).2) := by
  by_cases h1 : 1 ≤ n ∧ n ≤ 12
  rotate_left
  · rw [resMake_no (by omega)]
    go_enter Tryd.func5, Tryd.ntmps5
    go_wp2_with fail
    refine (l1In_no _ _ _ (by omega) _).mono ?_
    rintro e w' ⟨rfl, rfl⟩
    go_wp2
    go_ret2
    exact ⟨none, 0, rfl, SRead.nil _ _ _, Below.refl _ _⟩
  by_cases h2 : 0 ≤ s ∧ s < n
  rotate_left
  · have hw : IntKind.i64.wrap (n - 1) = n - 1 := by simp [IntKind.wrap, IntKind.bits, IntKind.signed]; omega
    rw [resMake_no (by omega)]
    go_enter Tryd.func5, Tryd.ntmps5
    go_wp2_with fail
    refine (l1In_yes _ _ _ (by omega) (by omega) _).mono ?_
    rintro e w' ⟨rfl, rfl⟩
    go_wp2_with fail
    refine (l1In_no _ _ _ (by omega) _).mono ?_
    rintro e w' ⟨rfl, rfl⟩
    go_wp2
    go_ret2
    exact ⟨none, 0, rfl, SRead.nil _ _ _, Below.refl _ _⟩
  obtain ⟨n, rfl⟩ : ∃ m : Nat, n = m := ⟨n.toNat, by omega⟩
  obtain ⟨s, rfl⟩ : ∃ m : Nat, s = m := ⟨s.toNat, by omega⟩
  have hn1 : 1 ≤ n := by omega
  have hn12 : n ≤ 12 := by omega
  have hsn : s < n := by omega
  rw [resMake_yes hn1 hn12 hsn]
  obtain ⟨i0, hi, hz0, hz1, hz2⟩ := info_parts Tryd.infoRowI
  have hw : IntKind.i64.wrap ((n : Int) - 1) = (n : Int) - 1 := by simp [IntKind.wrap, IntKind.bits, IntKind.signed]; omega
  go_enter Tryd.func5, Tryd.ntmps5
  go_wp2_with fail
  refine (l1In_yes _ _ _ (by omega) (by omega) _).mono ?_
  rintro e w' ⟨rfl, rfl⟩
  go_wp2_with fail
  refine (l1In_yes _ _ _ (by omega) (by omega) _).mono ?_
  rintro e w' ⟨rfl, rfl⟩
  go_wp2_with fail
  go_loopw [6, 7] (fun v i wr => ∃ (k : Nat) (R : Nat → Option Addr) (C : Nat → Nat), k ≤ n ∧ i = .int .i64 k ∧ RowsL wr w.heap.size v (rowsM n s k) R C ∧ Below w.heap.size w wr) (fun _ i _ => n - (intOf i).toNat)
  case atStart => exact ⟨0, _, _, Nat.zero_le _, rfl, RowsL.none _ _, Below.refl _ _⟩
  case round =>
    obtain ⟨k, R, C, hk, rfl, hG, hb⟩ := hrel
    have hsz := hb.size
    by_cases hlt : k < n
    · have hki : (k : Int) < (n : Int) := by omega
      have hnk : ((k : Int) == (n : Int)) = false := by simp; omega
      by_cases hks : k = s
      · have hne : ((k : Int) != (s : Int)) = false := by simp; omega
        have hrow : rowM n s k = [] := by unfold rowM; rw [if_pos hks]
        have hlen := rowsM_len n s k
        have own2 : wr.ownsRow wr.heap.size 3 1 (.slice none 0 0) 0 (icells []) := World.ownsRow_nil _ _ _ _
        have hbr : Below wr.heap.size wr wr := Below.refl _ _
        have hGW := hG.below hbr
        have hoW := hGW.own
        have kW : Below w.heap.size w wr := hb.trans (hbr.mono hsz)
        have sW := kW.size
        have hap := hG.fresh (own_lies own2) (Nat.le_refl _)
        have HGW := Lib.hid hGW
        have HAp := Lib.hid hap
        have Own2 := Lib.hid own2
        clear hG hGW hap own2
        go_wp2_with (at_builtin; refine wpList_append_own _ rfl _ _ 22 rfl w.heap.size 37 i0 (.slice none 0 0) 1 24 Tryd.underlying22 hi hz0 hz1 hz2 rfl (by decide) _ _ _ rfl (hoW.alloc _) ⟨wr.heap.size, 0, none⟩ 1 1 [.slice none 0 0] rfl rfl (one_cell (by simp)) (one_one rfl) (by unfold maxLen; omega) (by omega) (by simp; omega) ?_; intro v1 w3 hown3 hg3 _)
        have hb3 : Below w.heap.size w w3 := (kW.alloc (by omega) _).grown hg3 (by simp; omega) (fun b hb => (hoW.lt b hb).1)
        have ch3 := RowsL.push (l := []) (HGW.out.below ((Below.refl wr.heap.size wr).alloc (Nat.le_refl _) _)) (own_below (own_lower Own2.out hsz) ((Below.refl wr.heap.size wr).alloc (Nat.le_refl _) _) (Nat.le_refl _)) HAp.out hg3 hown3
        rw [← hrow, ← rowsM_succ] at ch3
        have Ch3 := Lib.hid ch3
        have Hb3 := Lib.hid hb3
        clear ch3 hb3 hown3 hg3 hoW
        go_roundw
        case rel => exact ⟨k + 1, _, _, by omega, by go_num, Ch3.out, Hb3.out⟩
        case measure => simp [intOf]; omega
      · have hne : ((k : Int) != (s : Int)) = true := by simp; omega
        have hx12 : nextM n k < n := Nat.mod_lt _ (by omega)
        obtain ⟨x, hx⟩ : ∃ x, nextM n k = x := ⟨_, rfl⟩
        have htm : Int.tmod ((k : Int) + 1) (n : Int) = (x : Int) := by rw [tmod_next, hx]
        have hrow : rowM n s k = (pairM s x).map fun b : Nat => (b : Int) := by unfold rowM; rw [if_neg hks, hx]
        have hn0 : ¬ ((n : Int) = 0) := by omega
        have hwk : IntKind.i64.wrap ((k : Int) + 1) = (k : Int) + 1 := by simp [IntKind.wrap, IntKind.bits, IntKind.signed]; omega
        have hlen := rowsM_len n s k
        go_wp2_with fail
        refine (l1Put_nil _ _).mono ?_
        rintro e w2 ⟨A2, c2, rfl, own2, hb2⟩
        have rd := CRead.of_own own2
        by_cases hxs : x = s
        · have hrow : rowM n s k = [(s : Int)] := by rw [hrow]; simp [pairM, hxs]
          have hh : hasI [(s : Int)] (x : Int) = true := by rw [hasI_one]; exact decide_eq_true hxs
          have Hh := Lib.hid hh
          clear hh hxs
          go_wp2_with fail
          refine (l1Has_any [(s : Int)] (x : Int) A2 c2 w2 (by simp) rd).mono ?_
          rw [Hh.out]
          rintro e w' ⟨rfl, rfl⟩
          clear rd
          have hGW := hG.below hb2
          have hoW := hGW.own
          have kW : Below w.heap.size w w2 := hb.trans (hb2.mono hsz)
          have sW := kW.size
          have hap := hG.fresh (own_lies own2) (Nat.le_refl _)
          have HGW := Lib.hid hGW
          have HAp := Lib.hid hap
          have Own2 := Lib.hid own2
          clear hG hGW hap own2
          go_wp2_with (at_builtin; refine wpList_append_own _ rfl _ _ 22 rfl w.heap.size 37 i0 (.slice none 0 0) 1 24 Tryd.underlying22 hi hz0 hz1 hz2 rfl (by decide) _ _ _ rfl (hoW.alloc _) ⟨w2.heap.size, 0, none⟩ 1 1 [.slice A2 1 c2] rfl rfl (one_cell (by simp)) (one_one rfl) (by unfold maxLen; omega) (by omega) (by simp; omega) ?_; intro v1 w3 hown3 hg3 _)
          have hb3 : Below w.heap.size w w3 := (kW.alloc (by omega) _).grown hg3 (by simp; omega) (fun b hb => (hoW.lt b hb).1)
          have ch3 := RowsL.push (l := [(s : Int)]) (HGW.out.below ((Below.refl w2.heap.size w2).alloc (Nat.le_refl _) _)) (own_below (own_lower Own2.out hsz) ((Below.refl w2.heap.size w2).alloc (Nat.le_refl _) _) (Nat.le_refl _)) HAp.out hg3 hown3
          rw [← hrow, ← rowsM_succ] at ch3
          have Ch3 := Lib.hid ch3
          have Hb3 := Lib.hid hb3
          clear ch3 hb3 hown3 hg3 hoW
          go_roundw
          case rel => exact ⟨k + 1, _, _, by omega, by go_num, Ch3.out, Hb3.out⟩
          case measure => simp [intOf]; omega
        · obtain ⟨a, b, hab⟩ : ∃ a b : Int, putI [(s : Int)] (x : Int) = [a, b] := by
            rw [putI_one hxs]; unfold pairM; rw [if_neg (Ne.symm hxs)]
            split
            · exact ⟨_, _, rfl⟩
            · exact ⟨_, _, rfl⟩
          have hrow : rowM n s k = [a, b] := by rw [hrow, ← putI_one hxs, hab]
          have hh : hasI [(s : Int)] (x : Int) = false := by rw [hasI_one]; exact decide_eq_false hxs
          have hmem : (x : Int) ∉ [(s : Int)] := by simp; omega
          have Hh := Lib.hid hh
          have Hmem := Lib.hid hmem
          clear hh hxs hmem
          obtain ⟨g, rfl⟩ := own_form own2 (by omega)
          have hcap : 1 ≤ c2 := by obtain ⟨A9, c9, e9, h9⟩ := own_shape own2; cases e9; omega
          have hgl := (own_lt own2).2
          go_wp2_with fail
          refine (l1Has_any [(s : Int)] (x : Int) _ c2 w2 (by simp) rd).mono ?_
          rw [Hh.out]
          rintro e w' ⟨rfl, rfl⟩
          go_wp2_with fail
          refine (l1Put_any [(s : Int)] (x : Int) g c2 w2 (by simp) hcap Hmem.out rd hgl).mono ?_
          rw [hab]
          rintro e w4 ⟨A4, c4, rfl, own4, hb4⟩
          have hb5 := hb2.trans (hb4.mono hb2.size)
          have own2 := own_lower own4 hb2.size
          clear rd own4 hb4 hab
          have hGW := hG.below hb5
          have hoW := hGW.own
          have kW : Below w.heap.size w w4 := hb.trans (hb5.mono hsz)
          have sW := kW.size
          have hap := hG.fresh (own_lies own2) (Nat.le_refl _)
          have HGW := Lib.hid hGW
          have HAp := Lib.hid hap
          have Own2 := Lib.hid own2
          clear hG hGW hap own2
          go_wp2_with (at_builtin; refine wpList_append_own _ rfl _ _ 22 rfl w.heap.size 37 i0 (.slice none 0 0) 1 24 Tryd.underlying22 hi hz0 hz1 hz2 rfl (by decide) _ _ _ rfl (hoW.alloc _) ⟨w4.heap.size, 0, none⟩ 1 1 [.slice A4 2 c4] rfl rfl (one_cell (by simp)) (one_one rfl) (by unfold maxLen; omega) (by omega) (by simp; omega) ?_; intro v1 w3 hown3 hg3 _)
          have hb3 : Below w.heap.size w w3 := (kW.alloc (by omega) _).grown hg3 (by simp; omega) (fun b hb => (hoW.lt b hb).1)
          have ch3 := RowsL.push (l := [a, b]) (HGW.out.below ((Below.refl w4.heap.size w4).alloc (Nat.le_refl _) _)) (own_below (own_lower Own2.out hsz) ((Below.refl w4.heap.size w4).alloc (Nat.le_refl _) _) (Nat.le_refl _)) HAp.out hg3 hown3
          rw [← hrow, ← rowsM_succ] at ch3
          have Ch3 := Lib.hid ch3
          have Hb3 := Lib.hid hb3
          clear ch3 hb3 hown3 hg3 hoW
          go_roundw
          case rel => exact ⟨k + 1, _, _, by omega, by go_num, Ch3.out, Hb3.out⟩
          case measure => simp [intOf]; omega
    · have hkl : k = n := by omega
      have hge : ¬ ((k : Int) < (n : Int)) := by omega
      subst hkl
      have hsh := hG.own
      obtain ⟨Av, cv, rfl, _⟩ := own_shape hsh
      have rd := hG.read
      have Rd := Lib.hid rd
      clear rd hG hsh
      go_wp2
      go_ret2
      exact ⟨Av, cv, rfl, Rd.out, hb⟩
end Go.Proofs.YtgkedgfbncljbaaDoor
/-
  'laws.FnExactMakeStar' returns true, whatever its arguments: out of the contracts of the model's function and of the program's.
-/
namespace Go.Proofs.YtgkedgfbncljbaaDoor
open Go.RowKit

set_option maxHeartbeats 4000000 in
set_option maxRecDepth 100000 in
theorem lawMakeStar_any (i0 : Int) (i1 : Int) (W : World) (htab : TabW W) :
    Calls Tryd.prog 3 #[.int .i64 i0, .int .i64 i1] W fun e w' => e = .returned (.bool true) ∧ Below W.heap.size W w' := by
  have hone : (0 : Int) ≤ 1 ∧ (1 : Int) ≤ 16777216 := by omega
  have HTab := Lib.hid htab
  clear htab
  obtain ⟨⟨rm, rok⟩, hres⟩ : ∃ r, resMakeStar i0 i1 = r := ⟨_, rfl⟩
  have hrn : rm.length ≤ 1048576 := by have h := (resMakeStar_len i0 i1).1; rw [hres] at h; exact h
  have hrs : sumL rm ≤ 1048576 := by have h := (resMakeStar_len i0 i1).2; rw [hres] at h; exact h
  have hrl : rm.length ≤ maxLen := by unfold maxLen; omega
  have hrr : ∀ l ∈ rm, l.length ≤ maxLen := fun l h => by have := sumL_row h; unfold maxLen; omega
  have hone2 : (0 : Int) ≤ 1 ∧ (1 : Int) ≤ 8388608 := by omega
  have Hres := Lib.hid hres
  clear hres
  go_enter Tryd.func3, Tryd.ntmps3
  go_wp2_with fail
  refine (specMakeStar_any i0 i1 _ ).mono ?_
  rw [Hres.out]
  rintro e w1 ⟨T1, d1, rfl, n1, hb1⟩
  have g1 : Below W.heap.size W w1 := hb1
  have s1 := hb1.size
  have k1 : Below W.heap.size W w1 := g1
  go_wp2_with fail
  refine (implMakeStar_any i0 i1 _ (by first | exact HTab.out.below (k1.alloc k1.size _) HTab.out.pos | exact HTab.out.below k1 HTab.out.pos)).mono ?_
  rw [Hres.out]
  rintro e w2 ⟨T2, d2, R2, C2, rfl, n2, hb2⟩
  have g2 : Below w1.heap.size w1 w2 := hb2
  have s2 := hb2.size
  have m2_0 := n1.below (g2.mono (by omega)) (Nat.le_refl _)
  have k2 := k1.trans (g2.mono k1.size)
  clear n1
  go_wp2_with fail
  refine (eqIntSS_same rm _ _ _ _ _ hrl hrr (RowsL.read n2) (SRead.more m2_0 (by omega))).mono ?_
  rintro e w3 ⟨rfl, hb3⟩
  have g3 : Below w2.heap.size w2 w3 := hb3
  have s3 := hb3.size
  have m3_0 := m2_0.below (g3.mono (by omega)) (Nat.le_refl _)
  have m3_1 := RowsL.below n2 g3
  have k3 := k2.trans (g3.mono k2.size)
  clear m2_0 n2
  go_wp2_with fail
  refine (markIntSS_rows rm _ _ 1 _ _ _ _ hrn hrs hone2 (by omega) m3_1).mono ?_
  rintro e w4 ⟨rfl, n4, hb4⟩
  have s4 := hb4.size
  have k4 := k3.trans (hb4.mono (by have := k3.size; omega))
  have m4_0 := m3_0.below (hb4.mono (by omega)) (Nat.le_refl _)
  clear m3_0 m3_1
  have hmr : ¬ (1 + (sumL rm : Int) < 0) := by omega
  go_wp2_with fail
  refine (heldIntSS_rows rm _ _ 1 _ _ _ _ hrn hrs hone2 n4).mono ?_
  rintro e w5 ⟨rfl, h5⟩
  subst h5
  go_wp2_with fail
  refine (implMakeStar_any i0 i1 _ (by first | exact HTab.out.below (k4.alloc k4.size _) HTab.out.pos | exact HTab.out.below k4 HTab.out.pos)).mono ?_
  rw [Hres.out]
  rintro e w6 ⟨T6, d6, R6, C6, rfl, n6, hb6⟩
  have g6 : Below w4.heap.size w4 w6 := hb6
  have s6 := hb6.size
  have m6_0 := m4_0.below (g6.mono (by omega)) (Nat.le_refl _)
  have m6_1 := MarkedL.below n4 g6
  have k6 := k4.trans (g6.mono k4.size)
  clear m4_0 n4
  have p6 := RowsL.read n6
  go_wp2_with fail
  refine (eqIntSS_same rm _ _ _ _ _ hrl hrr (SRead.more p6 (by omega)) (SRead.more m6_0 (by omega))).mono ?_
  rintro e w7 ⟨rfl, hb7⟩
  have g7 : Below w6.heap.size w6 w7 := hb7
  have s7 := hb7.size
  have m7_0 := m6_0.below (g7.mono (by omega)) (Nat.le_refl _)
  have m7_1 := MarkedL.below m6_1 g7
  have m7_2 := p6.below (g7.mono (by omega)) (Nat.le_refl _)
  have k7 := k6.trans (g7.mono k6.size)
  clear m6_0 m6_1 p6
  go_wp2_with fail
  refine (heldIntSS_rows rm _ _ 1 _ _ _ _ hrn hrs hone2 m7_1).mono ?_
  rintro e w8 ⟨rfl, h8⟩
  subst h8
  go_wp2
  go_ret
  exact ⟨rfl, k7⟩
end Go.Proofs.YtgkedgfbncljbaaDoor
/-
  FROM A LAW's WALK TO ITS STATEMENT: arguments opened (numbers, lists of numbers, parties), and what every law's post asks.
-/
namespace Go.Proofs.YtgkedgfbncljbaaDoor
open Go.ChangeShapes Go.WideShapes Go.ChangeAt Go.RowKit Go.Deep

theorem Tryd.own : ownKnob Tryd.prog.godebug = none := by kernel_rfl
theorem Tryd.laidOut : laidOutB Tryd.prog = true := by kernel_rfl
theorem Tryd.cellsPair : Tryd.prog.cellsOf 50 = 2 := by kernel_rfl
theorem Tryd.cellsInt : Tryd.prog.cellsOf 3 = 1 := by kernel_rfl

section
variable {H : Type} {enc : TypeId × Value → H} {P : Program}
theorem below_trodAll (hl : laidOutB P = true) : ∀ (ts : List TypeId), (ts.all fun t => P.readableRec t && decide (t < P.types.size)) = true → ∀ {vs : List Value} {ds : List (DataW H)} {ps : List MemPlace} {W W' : World},
    DataW.TrodAll enc P W 0 (fun _ => true) true ts vs ds ps → Below W.heap.size W W' → (∀ x ∈ ps, x.block < W.heap.size) → DataW.TrodAll enc P W' 0 (fun b => decide (b < W.heap.size)) true ts vs ds ps
  | [], _, vs, ds, ps, W, W', h, _, _ => by
    obtain ⟨rfl, rfl, rfl⟩ := trodAll_nil h
    exact trodAll_mk0
  | t :: ts, hr, vs, ds, ps, W, W', h, hb, hlt => by
    obtain ⟨v, vs', d, ds', p, q, rfl, rfl, rfl, h0, h1⟩ := trodAll_cons h
    simp only [List.all_cons, Bool.and_eq_true, decide_eq_true_eq] at hr
    refine trodAll_cons_mk (Below.trod hl hr.1.1 hr.1.2 h0 hb (fun x hx => hlt x (List.mem_append_left _ hx))) (below_trodAll hl ts (by simpa using hr.2) h1 hb (fun x hx => hlt x (List.mem_append_right _ hx)))

theorem law_post {f : Func} {s : ChangeSpec} {W W' : World} {args : Array Value} {ds gs : List (DataW H)} {before : List MemPlace} {tb : TypeId} (hl : laidOutB P = true)
    (hr : (f.params.toList.all fun t => P.readableRec t && decide (t < P.types.size)) = true) (hres : f.resultTypes = #[tb]) (htb : P.underlying tb = some .bool) (hsv : s.vars = [])
    (hspec : s.fn H (ds ++ gs) = { results := [.lit (.bool true)], args := ds })
    (hW : DataW.Whole enc P f.params.toList s.vars false W args.toList ds gs before) (hb : Below W.heap.size W W') : s.post enc P f false true false false W args (.bool true) W' := by
  have hW' := hW
  obtain ⟨p, q, hA, hV, rfl, _, _⟩ := hW
  rw [hsv] at hV
  obtain ⟨rfl, rfl⟩ := trodVars_none hV
  have hlt : ∀ x ∈ p, x.block < W.heap.size := fun x hx => by simpa using hW'.lt x (by simpa using hx)
  refine ⟨ds, _, _, [] ++ [], p, [], hW', ?_, ?_, ?_, hb.frame _, fun h => by cases h⟩
  · rw [hspec, hres]
    exact trodAll_mk1 (shut_bool htb _)
  · rw [hspec]
    exact below_trodAll hl _ hr hA hb hlt
  · rw [hspec, hsv]
    rfl
end

section
variable {H : Type} {enc : TypeId × Value → H} {W : World}
end
end Go.Proofs.YtgkedgfbncljbaaDoor
/-
  THE PROGRAM's HEAD, LOOKED AT ONCE: which make it is, and that a call may enter it. (The head's text is long: the kernel must not read it twice.)
-/
namespace Go.Proofs.YtgkedgfbncljbaaDoor

theorem make_of {P : Program} {rest : List (List Char)} (h : behindMainWord (wordsSigns P.initOrder.toList) = "cut".toList :: rest) : P.make = some .cut := by
  unfold Program.make
  rw [h]
  rfl
theorem strip_cut (rest : List (List Char)) : stripLifts liftWords ("cut".toList :: rest) = ([], "cut".toList :: rest) := rfl
theorem lifts_of {P : Program} {rest : List (List Char)} (h : behindMainWord (wordsSigns P.initOrder.toList) = "cut".toList :: rest) : P.headLifts = [] := by
  unfold Program.headLifts
  rw [h, strip_cut]
  rfl
theorem final_of {P : Program} {rest : List (List Char)} (h : behindMainWord (wordsSigns P.initOrder.toList) = "cut".toList :: rest) : P.liftsFinal = false := by
  unfold Program.liftsFinal
  rw [lifts_of h, h]
  rfl
theorem enter_of {P : Program} {rest : List (List Char)} (h : behindMainWord (wordsSigns P.initOrder.toList) = "cut".toList :: rest) (h1 : P.laysLater = false) (h2 : P.bearsReflect = false) (h3 : P.doorFits [] = true) : P.mayEnter = true := by
  unfold Program.mayEnter
  rw [h]
  show (_ || _ || _) = true
  rw [strip_cut, h1, h2, h3]
  rfl
end Go.Proofs.YtgkedgfbncljbaaDoor
/-
  THE PROGRAM's CLOSED FACTS, EACH ONCE; and how a row's facts are put together out of them.
-/
namespace Go.Proofs.YtgkedgfbncljbaaDoor
open Go.ChangeShapes Go.WideShapes Go.ChangeAt Go.RowKit

def headSigns : List Char := ([104, 97, 114, 110, 101, 115, 115, 32, 101, 100, 56, 100, 48, 53, 54, 97, 53, 51, 57, 57, 100, 57, 55, 99, 55, 100, 48, 100, 56, 57, 99, 48, 55, 54, 51, 55, 101, 55, 100, 97, 101, 53, 56, 52, 51, 102, 56, 98, 101, 52, 101, 57, 99, 102, 101, 49, 99, 99, 52, 101, 52, 48, 99, 99, 54, 51, 97, 99, 51, 56, 50, 49, 32, 99, 117, 116, 32, 97, 116, 32, 108, 111, 111, 112, 46, 101, 120, 97, 109, 112, 108, 101, 47, 103, 48, 49, 50, 53, 55, 47, 108, 97, 119, 115, 46, 70, 110, 69, 120, 97, 99, 116, 77, 97, 107, 101, 83, 116, 97, 114, 32, 108, 111, 111, 112, 46, 101, 120, 97, 109, 112, 108, 101, 47, 103, 48, 49, 50, 53, 55, 47, 108, 97, 119, 115, 46, 70, 110, 69, 120, 97, 99, 116, 78, 101, 119, 115, 65, 102, 116, 101, 114] : List Nat).map Char.ofNat
set_option maxRecDepth 100000 in
theorem Tryd.initOrder_is : Tryd.prog.initOrder = String.ofList headSigns := by kernel_rfl
theorem Tryd.initOrder_signs : Tryd.prog.initOrder.toList = headSigns := by rw [Tryd.initOrder_is]; exact String.toList_ofList
set_option maxRecDepth 100000 in
theorem head_words : (behindMainWord (wordsSigns headSigns)).take 1 = ["cut".toList] := by kernel_rfl
theorem Tryd.words : ∃ rest, behindMainWord (wordsSigns Tryd.prog.initOrder.toList) = "cut".toList :: rest := by
  rw [Tryd.initOrder_signs]
  have h := List.take_append_drop 1 (behindMainWord (wordsSigns headSigns))
  rw [head_words] at h
  exact ⟨_, h.symm⟩
theorem Tryd.make : Tryd.prog.make = some .cut := by obtain ⟨_, h⟩ := Tryd.words; exact make_of h
theorem Tryd.liftsFinal : Tryd.prog.liftsFinal = false := by obtain ⟨_, h⟩ := Tryd.words; exact final_of h
theorem Tryd.laysLater : Tryd.prog.laysLater = false := by kernel_rfl
theorem Tryd.bearsReflect : Tryd.prog.bearsReflect = false := by kernel_rfl
theorem Tryd.doorFits : Tryd.prog.doorFits [] = true := by kernel_rfl
theorem Tryd.mayEnter : Tryd.prog.mayEnter = true := by obtain ⟨_, h⟩ := Tryd.words; exact enter_of h Tryd.laysLater Tryd.bearsReflect Tryd.doorFits
theorem Tryd.mapsRowed : mapsRowed Tryd.prog = true := by kernel_rfl
theorem Tryd.stops : (Tryd.prog.stops == []) = true := by kernel_rfl
theorem Tryd.stopKnobs : (Tryd.prog.stopKnobs == []) = true := by kernel_rfl
theorem Tryd.plainKeys : Tryd.prog.plainKeys = true := by kernel_rfl
theorem Tryd.stopsHeard : Tryd.prog.stopsHeard = true := by kernel_rfl

/-- What the types of one law give: closed facts on its parameters and its result. -/
def typeFacts (P : Program) (fn : Func) (s : ChangeSpec) (c : OpenClaim) : Bool :=
  fn.params.all (P.readableRec ·) && namedTie P c.named s.vars && (c.stops == []) && (c.knobs == []) &&
  (c.maps == (fn.params.toList ++ s.plain.varTypes P).any (P.mapsRec ·)) && (c.ifaces == (fn.params.toList ++ s.plain.varTypes P).any (P.ifacesRec ·)) && (c.mapsOut == P.mapsAmong fn.resultTypes.toList) &&
  (c.loops == (fn.params.toList ++ s.plain.varTypes P).any (P.loopsFrom ·)) && (c.wideKeys == (fn.params.toList ++ s.plain.varTypes P ++ fn.resultTypes.toList).any (P.wideKeysFrom ·)) &&
  s.vars.all (P.varReadable ·) && fn.resultTypes.all (fun t => P.readableRec t && decide (t < P.types.size)) && (c.ifacesOut == fn.resultTypes.toList.any (P.ifacesRec ·)) && (c.loopsOut == fn.resultTypes.toList.any (P.loopsFrom ·)) && c.shortTexts.isNone &&
  (c.kinds == (if c.domain.isEmpty then [] else fn.params.toList.map fun t => match P.underlying t with | some (.int k) => some k | _ => none)) && (c.pinned == c.pinnedBy) &&
  (c.veiled == (fn.params.toList ++ s.plain.varTypes P ++ fn.resultTypes.toList).any (P.veiledRec ·)) && c.veiledFits P fn.params.toList (fn.params.toList ++ s.plain.varTypes P ++ fn.resultTypes.toList)
theorem joined_all {P : Program} {f : FuncId} {fn : Func} {s : ChangeSpec} {c : OpenClaim} (k1 : c.wf (OpenSpec.ofChange s) = true) (kt : typeFacts P fn s c = true)
    (k10 : (c.inPlace == P.inPlace f) = true) (k11 : (c.unfollowed == P.unfollowed f) = true) (k12 : (c.recurses == P.recurses f) = true) (k13 : (c.named == P.varsNamed f) = true)
    (e2 : laidOutB P = true) (e3 : mapsRowed P = true) (e7 : (P.stops == []) = true) (e9 : (P.stopKnobs == []) = true) (e22 : (c.plainKeys == P.plainKeys) = true) (e23 : P.stopsHeard = true) (e24 : P.mayEnter = true)
    (e24b : (c.lifted == P.liftsFinal) = true) (e24c : (P.make == some c.make) = true) : joinedFacts P f fn s c = true := by
  unfold typeFacts at kt
  unfold joinedFacts
  simp only [Bool.and_eq_true] at kt ⊢
  obtain ⟨⟨⟨⟨⟨⟨⟨⟨⟨⟨⟨⟨⟨⟨⟨⟨⟨t1, t2⟩, t3⟩, t4⟩, t5⟩, t6⟩, t7⟩, t8⟩, t9⟩, t10⟩, t11⟩, t12⟩, t13⟩, t14⟩, t15⟩, t16⟩, t17⟩, t18⟩ := kt
  exact ⟨⟨⟨⟨⟨⟨⟨⟨⟨⟨⟨⟨⟨⟨⟨⟨⟨⟨⟨⟨⟨⟨⟨⟨⟨⟨⟨⟨⟨⟨⟨k1, e2⟩, e3⟩, t1⟩, t2⟩, t3⟩, e7⟩, t4⟩, e9⟩, k10⟩, k11⟩, k12⟩, k13⟩, t5⟩, t6⟩, t7⟩, t8⟩, t9⟩, t10⟩, t11⟩, t12⟩, t13⟩, e22⟩, t14⟩, e23⟩, e24⟩, e24b⟩, e24c⟩, t15⟩, t16⟩, t17⟩, t18⟩
theorem joined_of {f : FuncId} {fn : Func} {s : ChangeSpec} {c : OpenClaim} (k1 : c.wf (OpenSpec.ofChange s) = true) (kt : typeFacts Tryd.prog fn s c = true)
    (k10 : (c.inPlace == Tryd.prog.inPlace f) = true) (k11 : (c.unfollowed == Tryd.prog.unfollowed f) = true) (k12 : (c.recurses == Tryd.prog.recurses f) = true) (k13 : (c.named == Tryd.prog.varsNamed f) = true)
    (k22 : c.plainKeys = true) (k24b : c.lifted = false) (k24c : c.make = .cut) : joinedFacts Tryd.prog f fn s c = true :=
  joined_all k1 kt k10 k11 k12 k13 Tryd.laidOut Tryd.mapsRowed Tryd.stops Tryd.stopKnobs (by rw [k22, Tryd.plainKeys]; rfl) Tryd.stopsHeard Tryd.mayEnter (by rw [k24b, Tryd.liftsFinal]; rfl) (by rw [k24c, Tryd.make]; rfl)
end Go.Proofs.YtgkedgfbncljbaaDoor
/-
  THE DOOR SEAT's CONDITION: the library's table lies in its variable: what a walk reads of it, and a world that meets it.
-/
namespace Go.Proofs.YtgkedgfbncljbaaDoor
open Go.RowKit

def tabInts : List Int := Lib.deBruijn32tab.map fun n : Nat => (n : Int)
theorem Tryd.tabGlobal : Tryd.prog.globalNamed "math/bits.deBruijn32tab" = some 0 := by kernel_rfl
theorem Tryd.tabType : (Tryd.prog.globals[0]?).map (·.type) = some 65 := by kernel_rfl
theorem Tryd.tabCells : Tryd.prog.cellsOf 65 = 32 := by kernel_rfl
theorem Tryd.byteCells : Tryd.prog.cellsOf 5 = 1 := by kernel_rfl
theorem tabInts_at : ∀ i : Fin 32, tabInts.getD i.val 0 = ((Lib.deBruijn32tab.getD i.val 0 : Nat) : Int) := by decide
theorem tab_of_laid {W : World} (h : laidMetH Tryd.prog [("math/bits.deBruijn32tab", Rows.laid_math_bits_deBruijn32tab)] W) : TabW W := by
  have h' : laidMet Tryd.prog (("math/bits.deBruijn32tab", Lib.tabData .u8 tabInts) :: []) W := h
  have ht := Lib.tabIs_of_head Tryd.tabGlobal Tryd.tabType Tryd.underlying65 Tryd.underlying5 Tryd.byteCells Tryd.tabCells h'
  intro j hj
  rw [ht.cell Tryd.tabGlobal j (by simpa [tabInts, Lib.deBruijn32tab] using hj), tabInts_at ⟨j, hj⟩]

/-- A world that meets the condition. -/
noncomputable def laidWorld (os : Os) : World :=
  let w0 := World.holding Tryd.prog os ⟨#[], #[], []⟩
  { w0 with heap := w0.heap.modify 0 fun
      | .cells _ t frozen => .cells (tabInts.map fun z => Value.int .u8 z).toArray t frozen
      | o => o }
theorem laidWorld_met (os : Os) (args : Array Value) : laidMetH Tryd.prog [("math/bits.deBruijn32tab", Rows.laid_math_bits_deBruijn32tab)] ((laidWorld os).forCall (fun _ _ => 0) ⟨#[], args, []⟩).memory :=
  laidMetH_of_parts (laidMet_of_run' 8 (by kernel_rfl) (by kernel_rfl)) (by kernel_rfl)
end Go.Proofs.YtgkedgfbncljbaaDoor
