/-
  THE MODEL's PARTY OF PARTS ('spec.grParts', 'spec.PartsParty'), by its contract.
-/
import Derived.Test.YtgccapdjhnejcaaSizes
import Derived.Test.YtgccapdjhnejcaaNumsW
import Derived.Test.YtgccapdjhnejcaaJoinT
namespace Go.Proofs.Ytgccapdjhnejcaa
open Go.RowKit

/-- a table in the middle of being filled -/
def fillQ (L : List Int) (a b : Nat) : Nat → Nat → Bool := fun i j => if i < a ∨ i = a ∧ j < b then partF L i j else false
theorem fillQ_start (L : List Int) : fillQ L 0 0 = fun _ _ => false := by funext i j; simp [fillQ]
theorem fillQ_next (L : List Int) (a b : Nat) : upd (fillQ L a b) a b (partF L a b) = fillQ L a (b + 1) := by
  funext i j
  unfold upd fillQ
  by_cases h : i = a ∧ j = b
  · rw [if_pos h, if_pos (by omega), h.1, h.2]
  · rw [if_neg h]
    have : (i < a ∨ i = a ∧ j < b) ↔ (i < a ∨ i = a ∧ j < b + 1) := by omega
    simp only [this]
theorem fillQ_row {n : Nat} (L : List Int) (a : Nat) : ∀ i j, i < n → j < n → fillQ L a n i j = fillQ L (a + 1) 0 i j := by
  intro i j _ hj
  unfold fillQ
  have : (i < a ∨ i = a ∧ j < n) ↔ (i < a + 1 ∨ i = a + 1 ∧ j < 0) := by omega
  simp only [this]
theorem fillQ_all {n : Nat} (L : List Int) : ∀ i j, i < n → j < n → fillQ L n 0 i j = partF L i j := by
  intro i j hi _
  unfold fillQ
  rw [if_pos (by omega)]
/-- the beginnings of good sizes -/
theorem parts_step {q : List Int} (h1 : ∀ x ∈ q, 1 ≤ x) (hs : sumI q ≤ 12) {k : Nat} {x : Int} (hx : q[k]? = some x) :
    1 ≤ x ∧ (partL 0 (q.take k)).length + x.toNat ≤ 12 ∧ partL 0 (q.take (k + 1)) = partL 0 (q.take k) ++ List.replicate x.toNat (k : Int) ∧ ((partL 0 (q.take k)).length : Int) = sumI (q.take k) ∧ sumI (q.take (k + 1)) = sumI (q.take k) + x := by
  have hk : k < q.length := (List.getElem?_eq_some_iff.1 hx).1
  have e : q = q.take (k + 1) ++ q.drop (k + 1) := (List.take_append_drop _ _).symm
  have hd : 0 ≤ sumI (q.drop (k + 1)) := sum_nonneg fun y hy => by have := h1 y (List.mem_of_mem_drop hy); omega
  have e2 : sumI (q.take (k + 1)) = sumI (q.take k) + x := by rw [List.take_add_one, hx, Option.toList_some, sumI_snoc]
  have e3 : sumI q = sumI (q.take (k + 1)) + sumI (q.drop (k + 1)) := by rw [← sumI_append, List.take_append_drop]
  have hx1 := h1 x (List.mem_of_getElem? hx)
  have hl := partL_length (l := q.take k) (fun y hy => by have := h1 y (List.mem_of_mem_take hy); omega) 0
  refine ⟨hx1, by omega, ?_, hl, e2⟩
  rw [List.take_add_one, hx, Option.toList_some, partL_snoc, List.length_take, Nat.min_eq_left (by omega), Int.zero_add]

set_option maxHeartbeats 4000000 in
set_option maxRecDepth 100000 in
theorem grParts_any (q : List Int) (A : Option Addr) (c : Nat) (w : World) (h1 : ∀ x ∈ q, 1 ≤ x) (hs : sumI q ≤ 12) (hA : CRead w w.heap.size A (icells q)) :
    Calls Try.prog 48 #[.slice A q.length c] w (GotParty w (sumI q) (partsP q)) := by
  obtain ⟨i0, hi, hz0, hz1, hz2⟩ := info_parts Try.infoInt
  have hq12 := sum_len h1
  have hL := partL_length (l := q) (fun x hx => by have := h1 x hx; omega) 0
  have H1 := Lib.hid h1
  have Hs := Lib.hid hs
  have HL := Lib.hid hL
  clear h1 hL
  go_enter Try.func48, Try.ntmps48
  go_wp2
  go_loopw [3, 11] (fun v i wr => ∃ k : Nat, k ≤ q.length ∧ i = .int .i64 k ∧ wr.ownsRow (w.heap.size + 1) 3 1 v (partL 0 (q.take k)).length (icells (partL 0 (q.take k))) ∧ Below (w.heap.size + 1) (w.alloc (Obj.cells #[.int .i64 0, .slice none 0 0] 31)) wr) (fun _ i _ => q.length - (intOf i).toNat)
  case atStart => exact ⟨0, Nat.zero_le _, rfl, World.ownsRow_nil _ _ _ _, Below.refl _ _⟩
  case round =>
    obtain ⟨k, hk, rfl, hown, hb⟩ := hrel
    have hsz := hb.size
    simp only [World.size_alloc] at hsz
    have hbw : Below w.heap.size w wr := Below.trans (b := _) (by go_grown) (hb.mono (by omega))
    by_cases hlt : k < q.length
    · obtain ⟨x, hx⟩ := getSome q k hlt
      obtain ⟨b, off, rfl, hbb, c0⟩ := (hA.below hbw (Nat.le_refl _)).int hx
      obtain ⟨x1, x2, x3, x4, x5⟩ := parts_step H1.out Hs.out hx
      have hki : (k : Int) < (q.length : Int) := by omega
      have X3 := Lib.hid x3
      clear x3 x4 x5 hx
      have Hown := Lib.hid hown
      have Hb := Lib.hid hb
      clear hown hb hbw
      go_wp2
      clear c0
      go_loopw [3, 5] (fun v s wx => ∃ m : Nat, m ≤ x.toNat ∧ s = .int .i64 (x - m) ∧ wx.ownsRow (w.heap.size + 1) 3 1 v ((partL 0 (q.take k)).length + m) (icells (partL 0 (q.take k) ++ List.replicate m (k : Int))) ∧ Below (w.heap.size + 1) (w.alloc (Obj.cells #[.int .i64 0, .slice none 0 0] 31)) wx) (fun _ s _ => (intOf s).toNat)
      case atStart => exact ⟨0, Nat.zero_le _, by simp, by simpa using Hown.out, Hb.out⟩
      case round =>
        clear Hown Hb hsz
        obtain ⟨m, hm, rfl, hown, hb⟩ := hrel
        have hsz := hb.size
        simp only [World.size_alloc] at hsz
        by_cases hlm : m < x.toNat
        · have hpos : (0 : Int) < x - m := by omega
          have e1 : icells (partL 0 (q.take k) ++ List.replicate (m + 1) (k : Int)) = icells (partL 0 (q.take k) ++ List.replicate m (k : Int)) ++ [.int .i64 k] := by rw [List.replicate_succ', ← List.append_assoc, icells_append]; rfl
          have E1 := Lib.hid e1
          clear e1
          go_wp2_with (at_builtin; refine wpList_append_own _ rfl _ _ 25 rfl (w.heap.size + 1) 3 i0 _ 1 8 Try.underlying25 hi hz0 hz1 hz2 rfl (by decide) _ _ _ rfl (hown.alloc _) ⟨wr.heap.size, 0, none⟩ 1 1 [.int .i64 k] rfl rfl (one_cell (by simp)) (one_one rfl) (by unfold maxLen; omega) (by omega) (by simp; omega) ?_; intro v1 w3 hown3 hg3 _; obtain ⟨A1, d1', rfl, _⟩ := own_shape hown3)
          go_roundw
          case rel =>
            refine ⟨m + 1, by omega, by go_num, ?_, (hb.alloc (by omega) _).grown hg3 (by simp; omega) (fun k hk => (hown.lt k hk).1)⟩
            rw [E1.out]
            exact hown3
          case measure => simp [intOf]; omega
        · have hmx : m = x.toNat := by omega
          have hneg : ¬ (0 : Int) < x - m := by omega
          go_wp2
          go_roundw
          case rel =>
            refine ⟨k + 1, by omega, by go_num, ?_, hb⟩
            rw [X3.out, List.length_append, List.length_replicate, ← hmx]
            exact hown
          case measure => simp [intOf]; omega
    · have hkl : k = q.length := by omega
      subst hkl
      rw [List.take_length] at hown
      have hge : ¬ ((q.length : Int) < (q.length : Int)) := by omega
      have hL12 : (partL 0 q).length ≤ 12 := by have := HL.out; omega
      have hlen := HL.out
      have hPP : partsP q = tabP (partL 0 q).length (partF (partL 0 q)) := rfl
      generalize hLL : partL 0 q = L at *
      obtain ⟨n, hn⟩ : ∃ n : Nat, L.length = n := ⟨_, rfl⟩
      rw [hn] at hown hL12 hlen hPP
      obtain ⟨Ap, cp, rfl, _⟩ := own_shape hown
      have Hn := Lib.hid hn
      have HPP := Lib.hid hPP
      have HSS := Lib.hid hlen
      clear hn hLL HL H1 hq12 hs hPP hlen
      have hnil : isP n [] = true := by simp [isP]; omega
      have Hnil := Lib.hid hnil
      clear hnil
      have hb0 : wr.cell? ⟨w.heap.size, 0, none⟩ = some (.int .i64 0) := carry hb (by simp) (by omega)
      have hb1 : wr.cell? ⟨w.heap.size, 1, none⟩ = some (.slice none 0 0) := carry hb (by simp) (by omega)
      have hf0 : wr.frozen? ⟨w.heap.size, 0, none⟩ = false := (hb.frozen (p := ⟨w.heap.size, 0, none⟩) (by simp)).trans (by simp)
      have hf1 : wr.frozen? ⟨w.heap.size, 1, none⟩ = false := (hb.frozen (p := ⟨w.heap.size, 1, none⟩) (by simp)).trans (by simp)
      have Hb0 := Lib.hid hb0
      have Hb1 := Lib.hid hb1
      have Hf0 := Lib.hid hf0
      have Hf1 := Lib.hid hf1
      have KW := Lib.hid hbw
      have HopW := Lib.hid hown
      clear hb0 hb1 hf0 hf1 hb hbw
      obtain ⟨w0, rfl⟩ : ∃ w0, w0 = wr := ⟨wr, rfl⟩
      go_wp2_with fail
      refine (paTable_any _ [] none 0 _ Hnil.out CRead.nil).mono ?_
      rw [Int.toNat_natCast, adj_nil]
      rintro e w3 ⟨A4, c4, G, rfl, tab4, hb4⟩
      have s4 := hb4.size
      have own3 := own_below hown hb4 (Nat.le_refl _)
      have tab5 : TabG w3 w0.heap.size (.slice A4 n c4) n n G (fillQ L 0 0) := by rw [fillQ_start]; exact tab4
      have Own := Lib.hid own3
      clear hown tab4 own3
      go_wp2
      go_loopw [31] (fun i wy => ∃ a : Nat, a ≤ n ∧ i = .int .i64 a ∧ TabG wy w0.heap.size (.slice A4 n c4) n n G (fillQ L a 0) ∧ wy.ownsRow (w.heap.size + 1) 3 1 (.slice Ap n cp) n (icells L) ∧ Below w0.heap.size w0 wy) (fun i _ => n - (intOf i).toNat)
      case atStart => exact ⟨0, Nat.zero_le _, rfl, tab5, Own.out, hb4⟩
      case round =>
        clear tab5 Own hb4 s4
        obtain ⟨a, ha, rfl, tab, hop, hbt⟩ := hrel
        by_cases hlt : a < n
        · have hai : (a : Int) < n := by omega
          have Tab := Lib.hid tab
          have Hop := Lib.hid hop
          have Hbt := Lib.hid hbt
          clear tab hop hbt
          go_wp2
          go_loopw [36] (fun i wz => ∃ b : Nat, b ≤ n ∧ i = .int .i64 b ∧ TabG wz w0.heap.size (.slice A4 n c4) n n G (fillQ L a b) ∧ wz.ownsRow (w.heap.size + 1) 3 1 (.slice Ap n cp) n (icells L) ∧ Below w0.heap.size w0 wz) (fun i _ => n - (intOf i).toNat)
          case atStart => exact ⟨0, Nat.zero_le _, rfl, Tab.out, Hop.out, Hbt.out⟩
          case round =>
            clear Tab Hop Hbt
            obtain ⟨b, hbn, rfl, tab, hop, hbt⟩ := hrel
            by_cases hlb : b < n
            · have hbi : (b : Int) < n := by omega
              obtain ⟨g, rfl⟩ := own_form tab.own (by omega)
              obtain ⟨gp, rfl⟩ := own_form hop (by omega)
              obtain ⟨x, hx⟩ := getSome L a (by rw [Hn.out]; exact hlt)
              obtain ⟨y, hy⟩ := getSome L b (by rw [Hn.out]; exact hlb)
              have p0 := own_intAt hop hx
              have p1 := own_intAt hop hy
              have d0 := tab.outer hlt
              have d2 := tab.frozen hlt b
              have d1 := tab.cell hlt hlb
              have hG := tab.blk hlt
              have hpG : gp ≠ G a := by have h1 := (own_lt HopW.out).2; have h2 := hG.1; omega
              have hFx : partF L a b = (x != y) := by unfold partF; rw [List.getD_eq_getElem?_getD, List.getD_eq_getElem?_getD, hx, hy]; by_cases h : x = y <;> simp [h]
              have t1 := tab.set (b := b) hlt (partF L a b)
              rw [fillQ_next, hFx] at t1
              have o1 := own_far (p := ⟨G a, b, none⟩) hop (Ne.symm hpG) (.bool (x != y))
              have b1 := hbt.setCell (p := ⟨G a, b, none⟩) hG.1 (.bool (x != y))
              have T1 := Lib.hid t1
              have O1 := Lib.hid o1
              have B1 := Lib.hid b1
              clear t1 o1 b1 tab hop hbt hx hy hFx
              go_wp2
              refine wp_region_still_tail 15 (by kernel_rfl) (by kernel_rfl) ?_
              simp only [List.take_succ_cons, List.take_zero, List.drop_succ_cons, List.drop_zero]
              repeat still_step
              refine wpStill_nil ?_
              change wpList _ _ _ _ _ (World.drew _)
              go_wp2
              go_roundw
              case rel => exact ⟨b + 1, by omega, by go_num, T1.out.of_blocks ⟨rfl, rfl, rfl, Nat.le_refl _, fun _ _ _ => rfl⟩, O1.out, B1.out.drew⟩
              case measure => simp [intOf]; omega
            · have hbn' : n = b := by omega
              subst hbn'
              have hge : ¬ ((n : Int) < n) := by omega
              go_wp2
              go_roundw
              case rel => exact ⟨a + 1, by omega, by go_num, tab.congr (fillQ_row _ _), hop, hbt⟩
              case measure => simp [intOf]; omega
        · have hal : n = a := by omega
          subst hal
          have hge : ¬ ((n : Int) < n) := by omega
          have tab2 := tab.congr (fillQ_all L)
          have y0 := carry hbt Hb0.out (by omega)
          have y1 := carry hbt Hb1.out (by omega)
          have y2 := (hbt.frozen (p := ⟨w.heap.size, 0, none⟩) (by simp; omega)).trans Hf0.out
          have y3 := (hbt.frozen (p := ⟨w.heap.size, 1, none⟩) (by simp; omega)).trans Hf1.out
          have hst := hbt.size
          have kr := KW.out.trans (hbt.mono (by omega))
          clear tab hop
          go_wp2_with fail
          refine (paOf_any _ _ _ _ _ _ _ hL12 tab2).mono ?_
          rintro e w5 ⟨A2, c2, rfl, own2, hb2⟩
          have o0 := carry hb2 y0 (by omega)
          have o1 := carry hb2 y1 (by omega)
          have o2 := (hb2.frozen (p := ⟨w.heap.size, 0, none⟩) (by simp; omega)).trans y2
          have o3 := (hb2.frozen (p := ⟨w.heap.size, 1, none⟩) (by simp; omega)).trans y3
          have hs2 := hb2.size
          have k5 := kr.trans (hb2.mono kr.size)
          clear y0 y1 y2 y3
          go_wp2
          refine bodyPost_ret (v := .agg #[.int .i64 n, .slice A2 (tabP n (partF L)).length c2]) (by simp [results, Try.results48, go_sem, o0, o1]) rfl ?_
          rw [HPP.out, ← HSS.out]
          exact ⟨A2, c2, rfl, own_lower (ownsRow_setCell_below (ownsRow_setCell_below own2 (a := ⟨w.heap.size, 0, none⟩) (by simp; omega) _) (a := ⟨w.heap.size, 1, none⟩) (by simp; omega) _) (by omega),
            (k5.setCell (p := ⟨w.heap.size, 0, none⟩) (by simp) _).setCell (p := ⟨w.heap.size, 1, none⟩) (by simp) _⟩
set_option maxHeartbeats 4000000 in
set_option maxRecDepth 100000 in
theorem specPartsParty_any (q : List Int) (A : Option Addr) (c : Nat) (w : World) (hl : q.length ≤ 1048576) (hA : CRead w w.heap.size A (icells q)) :
    Calls Try.prog 17 #[.slice A q.length c] w (GotPartyOk w (resPartsParty q).1 (resPartsParty q).2.1 (resPartsParty q).2.2) := by
  by_cases hq : 1 ≤ q.length ∧ q.length ≤ 12
  · cases hall : l1AllB q 1 12 with
    | false =>
      have hg : goodS q = false := by
        cases hg : goodS q with
        | false => rfl
        | true =>
          obtain ⟨_, g1, g2⟩ := goodS_parts hg
          have : l1AllB q 1 12 = true := l1AllB_yes fun j x hj hx => by
            have hxm := List.mem_of_getElem? hx
            refine ⟨g1 x hxm, ?_⟩
            have e2 : sumI (q.take (j + 1)) = sumI (q.take j) + x := by rw [List.take_add_one, hx, Option.toList_some, sumI_snoc]
            have e3 : sumI q = sumI (q.take (j + 1)) + sumI (q.drop (j + 1)) := by rw [← sumI_append, List.take_append_drop]
            have d1 : 0 ≤ sumI (q.drop (j + 1)) := sum_nonneg fun y hy => by have := g1 y (List.mem_of_mem_drop hy); omega
            have d2 : 0 ≤ sumI (q.take j) := sum_nonneg fun y hy => by have := g1 y (List.mem_of_mem_take hy); omega
            omega
          rw [hall] at this
          cases this
      have e : resPartsParty q = (0, [], false) := by simp [resPartsParty, hg]
      rw [e]
      have Hall := Lib.hid hall
      clear hall hg e
      have hq1 : (1 : Int) ≤ (q.length : Int) := by omega
      have hq2 : (q.length : Int) ≤ 12 := by omega
      go_enter Try.func17, Try.ntmps17
      go_wp2_with (first
        | (go_at_call 46; refine (l1In_yes _ _ _ hq1 hq2 _).mono ?_; rintro e w' ⟨rfl, rfl⟩)
        | (go_at_call 47; refine (l1All_any q A c 1 12 _ hl ((hA.below (B' := w.heap.size) (by go_grown) (Nat.le_refl _)).more (by go_size))).mono ?_; rw [Hall.out]; rintro e w' ⟨rfl, rfl⟩))
      refine bodyPost_ret (v := .tuple #[.agg #[.int .i64 0, .slice none 0 0], .bool false]) (by simp [results, Try.results17, go_sem]) rfl ?_
      exact ⟨none, 0, rfl, World.ownsRow_nil _ _ _ _, by go_grown⟩
    | true =>
      have hm : ∀ x ∈ q, 1 ≤ x ∧ x ≤ 12 := by simpa [l1AllB] using hall
      have hb12 := sumI_take_bound (q := q) (m := 12) (by omega) (fun x hx => by have := hm x hx; omega)
      have Hall := Lib.hid hall
      have Hm := Lib.hid hm
      have Hb12 := Lib.hid hb12
      clear hall hm hb12
      have hq1 : (1 : Int) ≤ (q.length : Int) := by omega
      have hq2 : (q.length : Int) ≤ 12 := by omega
      obtain ⟨s, hs⟩ : ∃ s, sumI q = s := ⟨_, rfl⟩
      obtain ⟨⟨rp, rl, rok⟩, hres⟩ : ∃ r, resPartsParty q = r := ⟨_, rfl⟩
      rw [hres]
      have Hres := Lib.hid hres
      have HsS := Lib.hid hs
      clear hres hs
      go_enter Try.func17, Try.ntmps17
      go_wp2_with (first
        | (go_at_call 46; refine (l1In_yes _ _ _ hq1 hq2 _).mono ?_; rintro e w' ⟨rfl, rfl⟩)
        | (go_at_call 47; refine (l1All_any q A c 1 12 _ hl ((hA.below (B' := w.heap.size) (by go_grown) (Nat.le_refl _)).more (by go_size))).mono ?_; rw [Hall.out]; rintro e w' ⟨rfl, rfl⟩))
      go_loop [4, 19] (fun v i => ∃ (k : Nat) (t : Int), k ≤ q.length ∧ i = .int .i64 k ∧ v = .int .i64 t ∧ t = sumI (q.take k) ∧ 0 ≤ t ∧ t ≤ 12 * k) (fun _ i => q.length - (intOf i).toNat)
      case atStart => exact ⟨0, 0, Nat.zero_le _, rfl, rfl, rfl, by omega, by omega⟩
      case round =>
        obtain ⟨k, t, hk, rfl, rfl, ht, ht0, ht1⟩ := hrel
        have Ht := Lib.hid ht
        clear ht
        by_cases hlt : k < q.length
        · obtain ⟨x, hx⟩ := getSome q k hlt
          obtain ⟨b, off, rfl, hbb, c0⟩ := hA.int hx
          have hx0 := Hm.out x (List.mem_of_getElem? hx)
          have hki : (k : Int) < (q.length : Int) := by omega
          have Hx := Lib.hid hx
          clear hx
          go_wp2
          go_round
          case rel =>
            refine ⟨k + 1, t + x, by omega, by go_num, by go_num, ?_, by omega, by omega⟩
            rw [List.take_add_one, Hx.out, Option.toList_some, sumI_snoc, ← Ht.out]
          case measure => simp [intOf]; omega
        · have hkl : k = q.length := by omega
          subst hkl
          have hge : ¬ ((q.length : Int) < (q.length : Int)) := by omega
          have hts : t = s := by rw [Ht.out, List.take_length]; exact HsS.out
          subst hts
          by_cases h12 : t ≤ 12
          · have hn12 : ¬ (12 : Int) < t := by omega
            have hg : goodS q = true := goodS_of (fun h => by rw [h] at hq1; simp at hq1) (fun x hx => (Hm.out x hx).1) (by rw [HsS.out]; exact h12)
            have e : (rp, rl, rok) = (sumI q, partsP q, true) := by rw [← Hres.out]; simp [resPartsParty, hg]
            simp only [Prod.mk.injEq] at e
            obtain ⟨e1, e2, e3⟩ := e
            have E1 := Lib.hid e1
            have E2 := Lib.hid e2
            have E3 := Lib.hid e3
            clear e1 e2 e3 hg
            go_wp2_with fail
            refine (grParts_any q A c _ (fun x hx => (Hm.out x hx).1) (by rw [HsS.out]; exact h12) ((hA.below (B' := w.heap.size) (by go_grown) (Nat.le_refl _)).more (by go_size))).mono ?_
            rintro e w2 ⟨A2, c2, rfl, own2, hb2⟩
            have s2 := hb2.size
            simp only [World.size_alloc] at s2 hb2 own2
            have o0 : w2.cell? ⟨w.heap.size, 0, none⟩ = some (.int .i64 0) := carry hb2 (by simp) (by omega)
            have o1 : w2.cell? ⟨w.heap.size, 1, none⟩ = some (.slice none 0 0) := carry hb2 (by simp) (by omega)
            have o2 : w2.frozen? ⟨w.heap.size, 0, none⟩ = false := (hb2.frozen (p := ⟨w.heap.size, 0, none⟩) (by simp)).trans (by simp)
            have o3 : w2.frozen? ⟨w.heap.size, 1, none⟩ = false := (hb2.frozen (p := ⟨w.heap.size, 1, none⟩) (by simp)).trans (by simp)
            have kw : Below w.heap.size w w2 := Below.trans (b := _) (by go_grown) (hb2.mono (by omega))
            go_wp2
            refine bodyPost_ret (v := .tuple #[.agg #[.int .i64 (sumI q), .slice A2 (partsP q).length c2], .bool true]) (by simp [results, Try.results17, go_sem, o0, o1]) rfl ?_
            rw [E1.out, E2.out, E3.out]
            exact ⟨A2, c2, rfl, own_lower (ownsRow_setCell_below (ownsRow_setCell_below own2 (a := ⟨w.heap.size, 0, none⟩) (by simp) _) (a := ⟨w.heap.size, 1, none⟩) (by simp) _) (by omega),
              (kw.setCell (p := ⟨w.heap.size, 0, none⟩) (by simp) _).setCell (p := ⟨w.heap.size, 1, none⟩) (by simp) _⟩
          · have hn12 : (12 : Int) < t := by omega
            have hg : goodS q = false := by
              cases hg : goodS q with
              | false => rfl
              | true => have := (goodS_parts hg).2.2; rw [HsS.out] at this; omega
            have e : (rp, rl, rok) = (0, [], false) := by rw [← Hres.out]; simp [resPartsParty, hg]
            simp only [Prod.mk.injEq] at e
            obtain ⟨rfl, rfl, rfl⟩ := e
            clear hg
            go_wp2
            refine bodyPost_ret (v := .tuple #[.agg #[.int .i64 0, .slice none 0 0], .bool false]) (by simp [results, Try.results17, go_sem]) rfl ?_
            exact ⟨none, 0, rfl, World.ownsRow_nil _ _ _ _, by go_grown⟩
  · have hg : goodS q = false := by
      cases hg : goodS q with
      | false => rfl
      | true =>
        obtain ⟨g0, g1, g2⟩ := goodS_parts hg
        have := sum_len g1
        have h0 : q.length ≠ 0 := fun h => g0 (List.eq_nil_of_length_eq_zero h)
        omega
    have e : resPartsParty q = (0, [], false) := by simp [resPartsParty, hg]
    rw [e]
    clear hg e
    have hq1 : (q.length : Int) < 1 ∨ 12 < (q.length : Int) := by omega
    go_enter Try.func17, Try.ntmps17
    go_wp2_with (go_at_call 46; refine (l1In_no _ _ _ hq1 _).mono ?_; rintro e w' ⟨rfl, rfl⟩)
    refine bodyPost_ret (v := .tuple #[.agg #[.int .i64 0, .slice none 0 0], .bool false]) (by simp [results, Try.results17, go_sem]) rfl ?_
    exact ⟨none, 0, rfl, World.ownsRow_nil _ _ _ _, by go_grown⟩
end Go.Proofs.Ytgccapdjhnejcaa
