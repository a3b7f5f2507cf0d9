/-
  EVEN SIZES AND THEIR PARTIES: the model's and the program's 'TuranParty' and 'MostWithout', by their contracts.
-/
import Derived.Test.YtgccapdjhnejcaaPartsI
namespace Go.Proofs.Ytgccapdjhnejcaa
open Go.RowKit

set_option maxHeartbeats 2000000 in
set_option maxRecDepth 100000 in
theorem grEven_any (n p : Nat) (w : World) (hn : n ≤ 12) (hp : 1 ≤ p) (hpn : p ≤ n) :
    Calls Try.prog 52 #[.int .i64 n, .int .i64 p] w fun e w' => ∃ A c, e = .returned (.slice A (evenI n p).length c) ∧ w'.ownsRow w.heap.size 3 1 (.slice A (evenI n p).length c) (evenI n p).length (icells (evenI n p)) ∧ Below w.heap.size w w' := by
  obtain ⟨i0, hi, hz0, hz1, hz2⟩ := info_parts Try.infoInt
  have hat := fun k (hk : k < p) => evenI_at (n := n) hk
  rw [evenI_length]
  obtain ⟨E, hE⟩ : ∃ E, evenI n p = E := ⟨_, rfl⟩
  have hEl : E.length = p := by rw [← hE, evenI_length]
  rw [hE] at hat ⊢
  clear hE
  have hp0 : ¬ ((p : Int) = 0) := by omega
  have hd : (n : Int) / (p : Int) = ((n / p : Nat) : Int) := rfl
  have hr : (n : Int) % (p : Int) = ((n % p : Nat) : Int) := rfl
  have hd12 : n / p ≤ n := Nat.div_le_self n p
  have hr12 : n % p < p := Nat.mod_lt _ (by omega)
  obtain ⟨d, hd'⟩ : ∃ d, n / p = d := ⟨_, rfl⟩
  obtain ⟨r, hr'⟩ : ∃ r, n % p = r := ⟨_, rfl⟩
  rw [hd'] at hd hd12 hat
  rw [hr'] at hr hr12 hat
  have Hat := Lib.hid hat
  have HEl := Lib.hid hEl
  clear hat hEl hd' hr'
  go_enter Try.func52, Try.ntmps52
  go_wp2
  go_loopw [5, 6] (fun v i wr => ∃ k : Nat, k ≤ p ∧ i = .int .i64 k ∧ wr.ownsRow w.heap.size 3 1 v k (icells (E.take k)) ∧ Below w.heap.size w wr) (fun _ i _ => p - (intOf i).toNat)
  case atStart => exact ⟨0, Nat.zero_le _, rfl, World.ownsRow_nil _ _ _ _, Below.refl _ _⟩
  case round =>
    obtain ⟨k, hk, rfl, hown, hb⟩ := hrel
    have hs := hb.size
    by_cases hlt : k < p
    · have hki : (k : Int) < p := by omega
      have hx := Hat.out k hlt
      by_cases hkr : k < r
      · have hkri : (k : Int) < r := by omega
        rw [if_pos hkr] at hx
        have e1 : icells (E.take (k + 1)) = icells (E.take k) ++ [.int .i64 ((d : Int) + 1)] := by rw [List.take_add_one, hx, Option.toList_some, icells_append]; rfl
        have E1 := Lib.hid e1
        clear e1 hx
        go_wp2_with (at_builtin; refine wpList_append_own _ rfl _ _ 25 rfl w.heap.size 3 i0 _ 1 8 Try.underlying25 hi hz0 hz1 hz2 rfl (by decide) _ _ _ rfl (hown.alloc _) ⟨wr.heap.size, 0, none⟩ 1 1 [.int .i64 ((d : Int) + 1)] rfl rfl (one_cell (by simp)) (one_one rfl) (by unfold maxLen; omega) (by omega) (by simp; omega) ?_; intro v1 w3 hown3 hg3 _; obtain ⟨A1, d1', rfl, _⟩ := own_shape hown3)
        go_roundw
        case rel =>
          refine ⟨k + 1, by omega, by go_num, ?_, (hb.alloc hs _).grown hg3 (by simp; omega) (fun k hk => (hown.lt k hk).1)⟩
          rw [E1.out]
          exact hown3
        case measure => simp [intOf]; omega
      · have hkri : ¬ (k : Int) < r := by omega
        rw [if_neg hkr] at hx
        have e1 : icells (E.take (k + 1)) = icells (E.take k) ++ [.int .i64 (d : Int)] := by rw [List.take_add_one, hx, Option.toList_some, icells_append]; rfl
        have E1 := Lib.hid e1
        clear e1 hx
        go_wp2_with (at_builtin; refine wpList_append_own _ rfl _ _ 25 rfl w.heap.size 3 i0 _ 1 8 Try.underlying25 hi hz0 hz1 hz2 rfl (by decide) _ _ _ rfl (hown.alloc _) ⟨wr.heap.size, 0, none⟩ 1 1 [.int .i64 (d : Int)] rfl rfl (one_cell (by simp)) (one_one rfl) (by unfold maxLen; omega) (by omega) (by simp; omega) ?_; intro v1 w3 hown3 hg3 _; obtain ⟨A1, d1', rfl, _⟩ := own_shape hown3)
        go_roundw
        case rel =>
          refine ⟨k + 1, by omega, by go_num, ?_, (hb.alloc hs _).grown hg3 (by simp; omega) (fun k hk => (hown.lt k hk).1)⟩
          rw [E1.out]
          exact hown3
        case measure => simp [intOf]; omega
    · have hkl : k = p := by omega
      subst hkl
      have hge : ¬ ((k : Int) < (k : Int)) := by omega
      rw [List.take_of_length_le (by rw [HEl.out]; exact Nat.le_refl _)] at hown
      obtain ⟨A1, d1', rfl, _⟩ := own_shape hown
      go_wp2
      go_ret
      exact ⟨A1, d1', rfl, hown, hb⟩
set_option maxHeartbeats 2000000 in
set_option maxRecDepth 100000 in
theorem specTuranParty_any (n p : Int) (w : World) :
    Calls Try.prog 22 #[.int .i64 n, .int .i64 p] w (GotPartyOk w (resTuranParty n p).1 (resTuranParty n p).2.1 (resTuranParty n p).2.2) := by
  by_cases h1 : 1 ≤ n ∧ n ≤ 12
  · by_cases h2 : 1 ≤ p ∧ p ≤ n
    · obtain ⟨n', rfl⟩ : ∃ n' : Nat, n = n' := ⟨n.toNat, by omega⟩
      obtain ⟨p', rfl⟩ : ∃ p' : Nat, p = p' := ⟨p.toNat, by omega⟩
      have e : resTuranParty n' p' = ((n' : Int), partsP (evenI n' p'), true) := by simp only [resTuranParty, h1, h2, and_self, decide_true, Bool.and_self, if_true, Int.toNat_natCast]
      rw [e]
      obtain ⟨g1, g2⟩ := evenI_good (n := n') (p := p') (by omega) (by omega) (by omega)
      obtain ⟨_, g3, g4⟩ := goodS_parts g1
      have G2 := Lib.hid g2
      have G3 := Lib.hid g3
      clear e g1 g2 g3
      obtain ⟨q, hq⟩ : ∃ q, evenI n' p' = q := ⟨_, rfl⟩
      have hev := grEven_any n' p'
      rw [hq] at hev G2 G3 g4 ⊢
      clear hq
      go_enter Try.func22, Try.ntmps22
      go_wp2_with fail
      refine (l1In_yes _ 1 12 h1.1 h1.2 _).mono ?_
      rintro e w' ⟨rfl, rfl⟩
      go_wp2_with fail
      refine (l1In_yes _ 1 _ h2.1 h2.2 _).mono ?_
      rintro e w' ⟨rfl, rfl⟩
      go_wp2_with fail
      refine (hev _ (by omega) (by omega) (by omega)).mono ?_
      rintro e w1 ⟨A1, d1, rfl, own1, hb1⟩
      have s1 := hb1.size
      simp only [World.size_alloc] at s1 hb1 own1
      go_wp2_with fail
      refine (grParts_any q _ _ _ G3.out g4 (CRead.of_own own1)).mono ?_
      rintro e w2 ⟨A2, c2, rfl, own2, hb2⟩
      have s2 := hb2.size
      have g := hb1.trans (hb2.mono s1)
      have o0 : w2.cell? ⟨w.heap.size, 0, none⟩ = some (.int .i64 0) := carry g (by simp) (by omega)
      have o1 : w2.cell? ⟨w.heap.size, 1, none⟩ = some (.slice none 0 0) := carry g (by simp) (by omega)
      have o2 : w2.frozen? ⟨w.heap.size, 0, none⟩ = false := (g.frozen (p := ⟨w.heap.size, 0, none⟩) (by simp)).trans (by simp)
      have o3 : w2.frozen? ⟨w.heap.size, 1, none⟩ = false := (g.frozen (p := ⟨w.heap.size, 1, none⟩) (by simp)).trans (by simp)
      go_wp2
      refine bodyPost_ret (v := .tuple #[.agg #[.int .i64 (sumI q), .slice A2 (partsP q).length c2], .bool true]) (by simp [results, Try.results22, go_sem, o0, o1]) rfl ?_
      rw [← G2.out]
      exact ⟨A2, c2, rfl, own_lower (ownsRow_setCell_below (ownsRow_setCell_below own2 (a := ⟨w.heap.size, 0, none⟩) (by simp; omega) _) (a := ⟨w.heap.size, 1, none⟩) (by simp; omega) _) (by omega),
        ((Below.trans (b := _) (by go_grown) (g.mono (by omega))).setCell (p := ⟨w.heap.size, 0, none⟩) (by simp) _).setCell (p := ⟨w.heap.size, 1, none⟩) (by simp) _⟩
    · have e : resTuranParty n p = (0, [], false) := by simp [resTuranParty, h2]
      rw [e]
      clear e
      have h2' : p < 1 ∨ n < p := by omega
      go_enter Try.func22, Try.ntmps22
      go_wp2_with fail
      refine (l1In_yes _ 1 12 h1.1 h1.2 _).mono ?_
      rintro e w' ⟨rfl, rfl⟩
      go_wp2_with fail
      refine (l1In_no _ 1 _ h2' _).mono ?_
      rintro e w' ⟨rfl, rfl⟩
      go_wp2
      refine bodyPost_ret (v := .tuple #[.agg #[.int .i64 0, .slice none 0 0], .bool false]) (by simp [results, Try.results22, go_sem]) rfl ?_
      exact ⟨none, 0, rfl, World.ownsRow_nil _ _ _ _, by go_grown⟩
  · have e : resTuranParty n p = (0, [], false) := by simp [resTuranParty, h1]
    rw [e]
    clear e
    have h1' : n < 1 ∨ 12 < n := by omega
    go_enter Try.func22, Try.ntmps22
    go_wp2_with fail
    refine (l1In_no _ 1 12 h1' _).mono ?_
    rintro e w' ⟨rfl, rfl⟩
    go_wp2
    refine bodyPost_ret (v := .tuple #[.agg #[.int .i64 0, .slice none 0 0], .bool false]) (by simp [results, Try.results22, go_sem]) rfl ?_
    exact ⟨none, 0, rfl, World.ownsRow_nil _ _ _ _, by go_grown⟩
set_option maxHeartbeats 2000000 in
set_option maxRecDepth 100000 in
theorem implTuranParty_any (n p : Int) (w : World) :
    Calls Try.prog 23 #[.int .i64 n, .int .i64 p] w (GotPartyOk w (resTuranParty n p).1 (resTuranParty n p).2.1 (resTuranParty n p).2.2) := by
  obtain ⟨i0, hi, hz0, hz1, hz2⟩ := info_parts Try.infoInt
  by_cases h1 : (1 ≤ n ∧ n ≤ 12) ∧ (1 ≤ p ∧ p ≤ n)
  · obtain ⟨⟨h1a, h1b⟩, h2a, h2b⟩ := h1
    obtain ⟨n', rfl⟩ : ∃ n' : Nat, n = n' := ⟨n.toNat, by omega⟩
    obtain ⟨p', rfl⟩ : ∃ p' : Nat, p = p' := ⟨p.toNat, by omega⟩
    have e : resTuranParty n' p' = ((n' : Int), partsP (evenI n' p'), true) := by simp only [resTuranParty, h1a, h1b, h2a, h2b, and_self, decide_true, Bool.and_self, if_true, Int.toNat_natCast]
    rw [e]
    have hR := Lib.hid (resTuran_parts (n := n') (p := p') (by omega) (by omega) (by omega))
    have hp12 : p' ≤ 12 := by omega
    have hp1 : 1 ≤ p' := by omega
    have k1 : ¬ (12 : Int) < n' := by omega
    have k2 : ¬ (p' : Int) < 1 := by omega
    have k3 : ¬ (n' : Int) < p' := by omega
    have hp0 : ¬ ((p' : Int) = 0) := by omega
    clear e
    go_enter Try.func23, Try.ntmps23
    go_wp2_with (at_make; refine wpList_make_full _ rfl _ _ 25 rfl (w.heap.size + 1) 3 i0 _ 1 Try.underlying25 hi hz0 hz1 _ _ _ _ p' rfl rfl (by omega) (by omega) (by rw [hz2]; omega) (by unfold maxLen; omega) (by simp) ?_; intro w1 hown1 hgr1)
    simp only [World.size_alloc] at hown1
    have hb1 : Below (w.heap.size + 1) (w.alloc (Obj.cells #[.int .i64 0, .slice none 0 0] 31)) w1 := (Below.refl _ _).grown hgr1 (by simp) (by simp)
    rw [show Value.cells (.int .i64 0) = #[.int .i64 0] from rfl, made_ints, ← evenI_none] at hown1
    clear hgr1
    go_wp2
    go_loopw [23] (fun i wr => ∃ a : Nat, a ≤ n' ∧ i = .int .i64 a ∧ wr.ownsRow (w.heap.size + 1) 3 1 (.slice (some ⟨w.heap.size + 1, 0, none⟩) p' p') p' (icells (evenI a p')) ∧ Below (w.heap.size + 1) (w.alloc (Obj.cells #[.int .i64 0, .slice none 0 0] 31)) wr) (fun i _ => n' - (intOf i).toNat)
    case atStart => exact ⟨0, Nat.zero_le _, rfl, hown1, hb1⟩
    case round =>
      clear hown1 hb1
      obtain ⟨a, ha, rfl, hown, hb⟩ := hrel
      have hsz := own_lt hown
      by_cases hlt : a < n'
      · have hai : (a : Int) < n' := by omega
        have hr : (a : Int) % (p' : Int) = ((a % p' : Nat) : Int) := rfl
        have hr12 : a % p' < p' := Nat.mod_lt _ (by omega)
        have hd12 : a / p' ≤ a := Nat.div_le_self a p'
        have hx := evenI_at (n := a) hr12
        rw [if_neg (by omega)] at hx
        have c0 := own_intAt hown hx
        have f0 := hown.frozenAt (a % p')
        have hn := own_setInt hown (a % p') (((a / p' : Nat) : Int) + 1)
        rw [evenI_next (by omega) hp1 hp12] at hn
        have hbn := hb.setCell (p := ⟨w.heap.size + 1, a % p', none⟩) (Nat.le_refl _) (.int .i64 (((a / p' : Nat) : Int) + 1))
        obtain ⟨d, hd'⟩ : ∃ d, a / p' = d := ⟨_, rfl⟩
        obtain ⟨r, hr'⟩ : ∃ r, a % p' = r := ⟨_, rfl⟩
        rw [hd'] at c0 hn hbn hd12
        rw [hr'] at hr hr12 c0 f0 hn hbn
        have hri : (r : Int) < p' := by omega
        have Hn := Lib.hid hn
        have Hbn := Lib.hid hbn
        clear hn hbn hd' hr' hown hb hx
        go_wp2
        go_roundw
        case rel => exact ⟨a + 1, by omega, by go_num, Hn.out, Hbn.out⟩
        case measure => simp [intOf]; omega
      · have hal : a = n' := by omega
        subst hal
        have hge : ¬ ((a : Int) < a) := by omega
        have hrd := CRead.of_own hown
        have hs := hb.size
        simp only [World.size_alloc] at hs
        have x0 : wr.cell? ⟨w.heap.size, 0, none⟩ = some (.int .i64 0) := carry hb (by simp) (by omega)
        have x1 : wr.cell? ⟨w.heap.size, 1, none⟩ = some (.slice none 0 0) := carry hb (by simp) (by omega)
        have x2 : wr.frozen? ⟨w.heap.size, 0, none⟩ = false := (hb.frozen (p := ⟨w.heap.size, 0, none⟩) (by simp)).trans (by simp)
        have x3 : wr.frozen? ⟨w.heap.size, 1, none⟩ = false := (hb.frozen (p := ⟨w.heap.size, 1, none⟩) (by simp)).trans (by simp)
        have kw : Below w.heap.size w wr := Below.trans (b := _) (by go_grown) (hb.mono (by omega))
        have hq12 : (evenI a p').length ≤ 1048576 := by rw [evenI_length]; omega
        have hcall := implPartsParty_any (evenI a p') (some ⟨w.heap.size + 1, 0, none⟩) p' wr hq12 hrd
        rw [hR.out, evenI_length] at hcall
        clear hb hown hrd
        go_wp2_with fail
        refine hcall.mono ?_
        rintro e w2 ⟨A2, c2, rfl, own2, hb2⟩
        have s2 := hb2.size
        have o0 := carry hb2 x0 (by omega)
        have o1 := carry hb2 x1 (by omega)
        have o2 := (hb2.frozen (p := ⟨w.heap.size, 0, none⟩) (by simp; omega)).trans x2
        have o3 := (hb2.frozen (p := ⟨w.heap.size, 1, none⟩) (by simp; omega)).trans x3
        have k2' := kw.trans (hb2.mono (by omega))
        clear x0 x1 x2 x3 hcall
        go_wp2
        refine bodyPost_ret (v := .tuple #[.agg #[.int .i64 a, .slice A2 (partsP (evenI a p')).length c2], .bool true]) (by simp [results, Try.results23, go_sem, o0, o1]) rfl ?_
        exact ⟨A2, c2, rfl, own_lower (ownsRow_setCell_below (ownsRow_setCell_below own2 (a := ⟨w.heap.size, 0, none⟩) (by simp; omega) _) (a := ⟨w.heap.size, 1, none⟩) (by simp; omega) _) (by omega),
          (k2'.setCell (p := ⟨w.heap.size, 0, none⟩) (by simp) _).setCell (p := ⟨w.heap.size, 1, none⟩) (by simp) _⟩
  · have e : resTuranParty n p = (0, [], false) := by
      unfold resTuranParty
      rw [if_neg]
      simp only [Bool.and_eq_true, decide_eq_true_eq]
      omega
    rw [e]
    clear e
    have hor : 12 < n ∨ ¬ (12 < n) ∧ p < 1 ∨ ¬ (12 < n) ∧ ¬ (p < 1) ∧ n < p := by omega
    clear h1
    rcases hor with h | ⟨h, h'⟩ | ⟨h, h', h''⟩
    all_goals
      go_enter Try.func23, Try.ntmps23
      go_wp2
      refine bodyPost_ret (v := .tuple #[.agg #[.int .i64 0, .slice none 0 0], .bool false]) (by simp [results, Try.results23, go_sem]) rfl ?_
      exact ⟨none, 0, rfl, World.ownsRow_nil _ _ _ _, by go_grown⟩
theorem Try.run_pairs (a b : Value) (X : World) : (Instr.field 31 (.agg #[a, b]) 1).run Try.prog X = .ok b X := by
  simp [Instr.field, go_sem]
  rfl
set_option maxHeartbeats 2000000 in
set_option maxRecDepth 100000 in
theorem specMostWithout_any (n s : Int) (w : World) :
    Calls Try.prog 24 #[.int .i64 n, .int .i64 s] w fun e w' => e = .returned (.tuple #[.int .i64 (resMostWithout n s).1, .bool (resMostWithout n s).2]) ∧ Below w.heap.size w w' := by
  by_cases h1 : 1 ≤ n ∧ n ≤ 12
  · by_cases h2 : 2 ≤ s ∧ s ≤ n + 1
    · obtain ⟨n', rfl⟩ : ∃ n' : Nat, n = n' := ⟨n.toNat, by omega⟩
      obtain ⟨p', rfl⟩ : ∃ p' : Nat, s = (p' : Int) + 1 := ⟨(s - 1).toNat, by omega⟩
      have e : resMostWithout n' ((p' : Int) + 1) = (((partsP (evenI n' p')).length : Int), true) := by
        simp only [resMostWithout, h1, h2, and_self, decide_true, Bool.and_self, if_true, Int.toNat_natCast]
        rw [show ((p' : Int) + 1 - 1).toNat = p' from by omega]
      rw [e]
      obtain ⟨g1, g2⟩ := evenI_good (n := n') (p := p') (by omega) (by omega) (by omega)
      obtain ⟨_, g3, g4⟩ := goodS_parts g1
      have G3 := Lib.hid g3
      clear e g1 g2 g3
      obtain ⟨q, hq⟩ : ∃ q, evenI n' p' = q := ⟨_, rfl⟩
      have hev := grEven_any n' p'
      have e1 : (p' : Int) + 1 - 1 = p' := by omega
      rw [hq] at hev G3 g4 ⊢
      clear hq
      go_enter Try.func24, Try.ntmps24
      go_wp2_with fail
      refine (l1In_yes _ 1 12 h1.1 h1.2 _).mono ?_
      rintro e w' ⟨rfl, rfl⟩
      go_wp2_with fail
      refine (l1In_yes _ 2 _ h2.1 h2.2 _).mono ?_
      rintro e w' ⟨rfl, rfl⟩
      go_wp2_with fail
      refine (hev _ (by omega) (by omega) (by omega)).mono ?_
      rintro e w1 ⟨A1, d1, rfl, own1, hb1⟩
      have s1 := hb1.size
      go_wp2_with fail
      refine (grParts_any q _ _ _ G3.out g4 (CRead.of_own own1)).mono ?_
      rintro e w2 ⟨A2, c2, rfl, own2, hb2⟩
      have g := hb1.trans (hb2.mono s1)
      have hf := Try.run_pairs
      go_wp2
      go_ret2
      exact ⟨rfl, g⟩
    · have e : resMostWithout n s = (0, false) := by simp [resMostWithout, h2]
      rw [e]
      clear e
      have h2' : s < 2 ∨ n + 1 < s := by omega
      go_enter Try.func24, Try.ntmps24
      go_wp2_with fail
      refine (l1In_yes _ 1 12 h1.1 h1.2 _).mono ?_
      rintro e w' ⟨rfl, rfl⟩
      go_wp2_with fail
      refine (l1In_no _ 2 _ h2' _).mono ?_
      rintro e w' ⟨rfl, rfl⟩
      go_wp2
      go_ret2
      exact ⟨rfl, Below.refl _ _⟩
  · have e : resMostWithout n s = (0, false) := by simp [resMostWithout, h1]
    rw [e]
    clear e
    have h1' : n < 1 ∨ 12 < n := by omega
    go_enter Try.func24, Try.ntmps24
    go_wp2_with fail
    refine (l1In_no _ 1 12 h1' _).mono ?_
    rintro e w' ⟨rfl, rfl⟩
    go_wp2
    go_ret2
    exact ⟨rfl, Below.refl _ _⟩
set_option maxHeartbeats 2000000 in
set_option maxRecDepth 100000 in
theorem implMostWithout_any (n s : Int) (w : World) (hs : -9223372036854775808 ≤ s ∧ s ≤ 9223372036854775807) :
    Calls Try.prog 25 #[.int .i64 n, .int .i64 s] w fun e w' => e = .returned (.tuple #[.int .i64 (resMostWithout n s).1, .bool (resMostWithout n s).2]) ∧ Below w.heap.size w w' := by
  obtain ⟨u, hu⟩ : ∃ u, wrap64 (s - 1) = u := ⟨_, rfl⟩
  have hres : ((resTuranParty n u).2.1.length : Int) = (resMostWithout n s).1 ∧ (resTuranParty n u).2.2 = (resMostWithout n s).2 := by
    by_cases hmin : s = -9223372036854775808
    · subst hmin
      have hu' : u = 9223372036854775807 := by rw [← hu]; simp [wrap64]
      subst hu'
      unfold resTuranParty resMostWithout
      rw [if_neg (by simp only [Bool.and_eq_true, decide_eq_true_eq]; omega), if_neg (by simp only [Bool.and_eq_true, decide_eq_true_eq]; omega)]
      exact ⟨rfl, rfl⟩
    · have hu' : u = s - 1 := by rw [← hu]; unfold wrap64; omega
      subst hu'
      unfold resTuranParty resMostWithout
      by_cases h : (1 ≤ n ∧ n ≤ 12) ∧ (2 ≤ s ∧ s ≤ n + 1)
      · rw [if_pos (by simp only [Bool.and_eq_true, decide_eq_true_eq]; omega), if_pos (by simp only [Bool.and_eq_true, decide_eq_true_eq]; omega)]
        exact ⟨rfl, rfl⟩
      · rw [if_neg (by simp only [Bool.and_eq_true, decide_eq_true_eq]; omega), if_neg (by simp only [Bool.and_eq_true, decide_eq_true_eq]; omega)]
        exact ⟨rfl, rfl⟩
  rw [← hres.1, ← hres.2]
  have hlen := resTuranParty_len n u
  obtain ⟨⟨tp, tl, tok⟩, ht⟩ : ∃ r, resTuranParty n u = r := ⟨_, rfl⟩
  have HT := Lib.hid ht
  rw [ht] at hlen ⊢
  have HU := Lib.hid hu
  clear hres ht hu
  go_enter Try.func25, Try.ntmps25
  go_wp2_with fail
  rw [HU.out]
  refine (implTuranParty_any n u _).mono ?_
  rw [HT.out]
  rintro e w2 ⟨A2, c2, rfl, own2, hb2⟩
  go_wp2
  go_ret2
  exact ⟨rfl, (hb2.alloc hb2.size _)⟩
end Go.Proofs.Ytgccapdjhnejcaa
