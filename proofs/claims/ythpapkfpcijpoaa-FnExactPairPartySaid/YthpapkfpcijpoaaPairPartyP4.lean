/-
  Texts put together for the claim of 'PairParty' (pack 4): Lines, LinesOf, LawPairParty, Head, Facts.
-/
import Derived.Test.YthpapkfpcijpoaaPairPartyP1
import Derived.Test.YthpapkfpcijpoaaPairPartyP2
import Derived.Test.YthpapkfpcijpoaaPairPartyP3
import Derived.BigQuiet
import Derived.Deep.RegionHeld3
import Derived.Test.YthpapkfpcijpoaaRows
/-
  PAIRS AS PEOPLE: 'LinesOf', 'PairParty': the model's and the program's, by their contracts.
-/
namespace Go.Proofs.Ythpapkfpcijpoaa
open Go.RowKit

set_option maxHeartbeats 1000000 in
theorem areDisjoint_any (a b c d : Int) (w : World) : Calls Try.prog 107 #[.agg #[.int .i64 a, .int .i64 b], .agg #[.int .i64 c, .int .i64 d]] w fun e w' => e = .returned (.bool (!meetP (a, b) (c, d))) ∧ Below w.heap.size w w' := by
  have hval : ∀ X : Bool, (X = true ↔ ¬ (a = c ∨ a = d ∨ b = c ∨ b = d)) → X = !meetP (a, b) (c, d) := by
    intro X hX
    rw [Bool.eq_iff_iff, hX]
    simp [meetP]
    omega
  obtain ⟨M, hM⟩ : ∃ M, (!meetP (a, b) (c, d)) = M := ⟨_, rfl⟩
  rw [hM] at hval ⊢
  have Hval := Lib.hid hval
  clear hval hM
  go_enter Try.func107, Try.ntmps107
  go_wp2
  all_goals
    go_ret
    refine ⟨congrArg (fun x => Ending.returned (Value.bool x)) (Hval.out _ ?_), by go_grown⟩
    first | (simp; done) | (simp; omega) | (simp_all; done) | (simp_all; omega)
set_option maxHeartbeats 2000000 in
set_option maxRecDepth 100000 in
theorem linesTold_any (L : PL) (A : Option Addr) (c gs x y : Nat) (hx : x < L.length) (hy : y < L.length) (w : World) (hA : CRead w w.heap.size A (pcells L)) (cg : w.cell? ⟨gs, 0, none⟩ = some (.slice A L.length c)) :
    Calls Try.prog 106 #[.int .i64 x, .int .i64 y, .pointer (some ⟨gs, 0, none⟩)] w fun e w' => e = .returned (.bool (meetP (pairAt L x) (pairAt L y))) ∧ Below w.heap.size w w' := by
  obtain ⟨⟨a, b⟩, ha⟩ := getSome L x hx
  obtain ⟨⟨u, v⟩, hv⟩ := getSome L y hy
  obtain ⟨bb, off, rfl, hbb, c0, c1⟩ := hA.pair ha
  obtain ⟨bb', off', e, hbb', d0, d1⟩ := hA.pair hv
  simp only [Option.some.injEq, Addr.mk.injEq, and_true] at e
  obtain ⟨rfl, rfl⟩ := e
  have hg := World.block_lt_of_cell? w _ cg
  simp only at hg
  have ea : pairAt L x = (a, b) := by unfold pairAt; rw [List.getD_eq_getElem?_getD, ha]; rfl
  have ev : pairAt L y = (u, v) := by unfold pairAt; rw [List.getD_eq_getElem?_getD, hv]; rfl
  rw [ea, ev]
  have zg : ∀ z : Ext w.heap.size w, z.val.cell? ⟨gs, 0, none⟩ = some (.slice (some ⟨bb, off, none⟩) L.length c) := fun z => z.cell cg hg
  have z0 : ∀ z : Ext w.heap.size w, z.val.cell? ⟨bb, off + x * 2, none⟩ = some (.int .i64 a) := fun z => z.cell c0 hbb
  have z1 : ∀ z : Ext w.heap.size w, z.val.cell? ⟨bb, off + x * 2 + 1, none⟩ = some (.int .i64 b) := fun z => z.cell c1 hbb
  have z2 : ∀ z : Ext w.heap.size w, z.val.cell? ⟨bb, off + y * 2, none⟩ = some (.int .i64 u) := fun z => z.cell d0 hbb
  have z3 : ∀ z : Ext w.heap.size w, z.val.cell? ⟨bb, off + y * 2 + 1, none⟩ = some (.int .i64 v) := fun z => z.cell d1 hbb
  have hxi : (x : Int) < (L.length : Int) := by omega
  have hyi : (y : Int) < (L.length : Int) := by omega
  have hx0 : (0 : Int) ≤ x := by omega
  have hy0 : (0 : Int) ≤ y := by omega
  have htx : ((x : Int)).toNat = x := by omega
  have hty : ((y : Int)).toNat = y := by omega
  obtain ⟨r, hr⟩ : ∃ r, meetP (a, b) (u, v) = r := ⟨_, rfl⟩
  have call := fun X : World => areDisjoint_any a b u v X
  simp only [hr] at call ⊢
  have Call := Lib.hid call
  clear call hr ea ev ha hv hA cg c0 c1 d0 d1
  go_enter Try.func106, Try.ntmps106
  go_wp2
  refine wp_region_ext w.heap.size (by kernel_rfl) (by kernel_rfl) ?_
  repeat (go_big_quiet_step ((first
    | (go_at_call 107; exact Calls.ext_of ((Call.out _).mono fun _ _ h => ⟨h.1, h.2.mono (Ext.size _)⟩)))))
  refine wpQuiet_nil ?_
  rintro w5 ⟨⟨_, hb5⟩, rfl⟩
  go_wp2
  go_ret
  exact ⟨by simp, hb5⟩
set_option maxHeartbeats 1000000 in
set_option maxRecDepth 100000 in
theorem whereLines_any (L : PL) (A : Option Addr) (c gs gb x y : Nat) (hx : x < L.length) (hy : y < L.length) (w : World) (hA : CRead w w.heap.size A (pcells L)) (cs : w.cell? ⟨gs, 0, none⟩ = some (.slice A L.length c)) (cg : w.cell? ⟨gb, 0, none⟩ = some (.func (.func 106) #[] #[.pointer (some ⟨gs, 0, none⟩)])) :
    Calls Try.prog 94 #[.agg #[.int .i64 x, .int .i64 y], .pointer (some ⟨gb, 0, none⟩)] w fun e w' => e = .returned (.bool (!meetP (pairAt L x) (pairAt L y))) ∧ Below w.heap.size w w' := by
  have hg := World.block_lt_of_cell? w _ cg
  have hgs := World.block_lt_of_cell? w _ cs
  simp only at hg hgs
  have cg2 : (w.alloc (Obj.cells #[.int .i64 x, .int .i64 y] 71)).cell? ⟨gb, 0, none⟩ = some (.func (.func 106) #[] #[.pointer (some ⟨gs, 0, none⟩)]) := (World.cell?_alloc_lt _ _ _ hg).trans cg
  have cs2 : (w.alloc (Obj.cells #[.int .i64 x, .int .i64 y] 71)).cell? ⟨gs, 0, none⟩ = some (.slice A L.length c) := (World.cell?_alloc_lt _ _ _ hgs).trans cs
  have call := linesTold_any L A c gs x y hx hy (w.alloc (Obj.cells #[.int .i64 x, .int .i64 y] 71)) ((hA.below (B' := w.heap.size) (by go_grown) (Nat.le_refl _)).more (by go_size)) cs2
  obtain ⟨r, hr⟩ : ∃ r, meetP (pairAt L x) (pairAt L y) = r := ⟨_, rfl⟩
  rw [hr] at call ⊢
  have Call := Lib.hid call
  clear hr call cg cs cs2 hA
  go_enter Try.func94, Try.ntmps94
  go_wp2_with fail
  refine Call.out.mono ?_
  rintro e w2 ⟨rfl, hb2⟩
  simp only [World.size_alloc] at hb2
  go_wp2
  go_ret
  exact ⟨rfl, Below.trans (b := _) (by go_grown) (hb2.mono (by omega))⟩
set_option maxHeartbeats 1000000 in
set_option maxRecDepth 100000 in
theorem lines_any (L : PL) (A : Option Addr) (c : Nat) (w : World) (hl : L.length ≤ 12) (hA : CRead w w.heap.size A (pcells L)) : Calls Try.prog 85 #[.slice A L.length c] w (GotParty w L.length (linesP L)) := by
  obtain ⟨X, hX⟩ : ∃ X, (w.alloc (Obj.cells #[.slice A L.length c] 29)).alloc (Obj.cells #[.int .i64 0, .slice none 0 0] 31) = X := ⟨_, rfl⟩
  have kX : Below w.heap.size w X := by rw [← hX]; go_grown
  have zX : X.heap.size = w.heap.size + 2 := by rw [← hX]; simp
  have cX : X.cell? ⟨w.heap.size, 0, none⟩ = some (.slice A L.length c) := by rw [← hX]; simp
  have X0 : X.cell? ⟨w.heap.size + 1, 0, none⟩ = some (.int .i64 0) := by rw [← hX]; simp
  have X1 : X.cell? ⟨w.heap.size + 1, 1, none⟩ = some (.slice none 0 0) := by rw [← hX]; simp
  have Z0 : X.frozen? ⟨w.heap.size + 1, 0, none⟩ = false := by rw [← hX]; simp
  have Z1 : X.frozen? ⟨w.heap.size + 1, 1, none⟩ = false := by rw [← hX]; simp
  have call := partyWhere_any L.length hl (fun i j => meetP (pairAt L i) (pairAt L j)) 106 #[.pointer (some ⟨w.heap.size, 0, none⟩)] X (fun Y x y hY hYs hxy hyn => by
    simp only [Int.toNat_natCast]
    have kY : Below X.heap.size X Y := Below.trans (b := _) (by go_grown) (hY.mono (by omega))
    exact whereLines_any L A c w.heap.size X.heap.size x y (by omega) hyn Y ((hA.below (kX.trans (kY.mono (by omega))) (Nat.le_refl _)).more (by have := kY.size; omega)) (carry kY cX (by omega)) (carry hY (by simp) (by omega)))
  have hR : tabP L.length (fun i j => meetP (pairAt L i) (pairAt L j)) = linesP L := rfl
  rw [hR] at call
  obtain ⟨R, hR⟩ : ∃ R, linesP L = R := ⟨_, rfl⟩
  rw [hR] at call ⊢
  have HX := Lib.hid hX
  have Call := Lib.hid call
  clear call hX
  go_enter Try.func85, Try.ntmps85
  go_wp2_with fail
  rw [HX.out]
  refine Call.out.mono ?_
  rintro e w3 ⟨A3, c3, rfl, own3, hb3⟩
  have y0 : w3.cell? ⟨w.heap.size + 1, 0, none⟩ = some (.int .i64 0) := carry hb3 X0 (by omega)
  have y1 : w3.cell? ⟨w.heap.size + 1, 1, none⟩ = some (.slice none 0 0) := carry hb3 X1 (by omega)
  have y2 : w3.frozen? ⟨w.heap.size + 1, 0, none⟩ = false := (hb3.frozen (p := ⟨w.heap.size + 1, 0, none⟩) (by show w.heap.size + 1 < _; omega)).trans Z0
  have y3 : w3.frozen? ⟨w.heap.size + 1, 1, none⟩ = false := (hb3.frozen (p := ⟨w.heap.size + 1, 1, none⟩) (by show w.heap.size + 1 < _; omega)).trans Z1
  have kw : Below w.heap.size w w3 := kX.trans (hb3.mono (by omega))
  clear X0 X1 Z0 Z1
  go_wp2
  refine bodyPost_ret (v := .agg #[.int .i64 L.length, .slice A3 R.length c3]) (by simp [results, Try.results85, go_sem, y0, y1]) rfl ?_
  exact ⟨A3, c3, rfl, own_lower (ownsRow_setCell_below (ownsRow_setCell_below own3 (a := ⟨w.heap.size + 1, 0, none⟩) (by show w.heap.size + 1 < _; omega) _) (a := ⟨w.heap.size + 1, 1, none⟩) (by show w.heap.size + 1 < _; omega) _) (by omega),
    (kw.setCell (p := ⟨w.heap.size + 1, 0, none⟩) (by simp) _).setCell (p := ⟨w.heap.size + 1, 1, none⟩) (by simp) _⟩
/-- a table filled row by row up to a cell -/
def fillT (f : Nat → Nat → Bool) (i j : Nat) : Nat → Nat → Bool := fun a b => if a < i ∨ a = i ∧ b < j then f a b else false
theorem fillT_start (f : Nat → Nat → Bool) : fillT f 0 0 = fun _ _ => false := by
  funext a b
  unfold fillT
  rw [if_neg (by omega)]
theorem fillT_next (f : Nat → Nat → Bool) (i j : Nat) : upd (fillT f i j) i j (f i j) = fillT f i (j + 1) := by
  funext a b
  simp only [upd, fillT]
  by_cases h : a = i ∧ b = j
  · rw [if_pos h, if_pos (by omega), h.1, h.2]
  · rw [if_neg h]
    by_cases h2 : a < i ∨ a = i ∧ b < j
    · rw [if_pos h2, if_pos (by omega)]
    · rw [if_neg h2, if_neg (by omega)]
theorem fillT_row {f : Nat → Nat → Bool} {n i : Nat} : ∀ a b, a < n → b < n → fillT f i n a b = fillT f (i + 1) 0 a b := by
  intro a b _ hb
  unfold fillT
  by_cases h : a < i ∨ a = i ∧ b < n
  · rw [if_pos h, if_pos (by omega)]
  · rw [if_neg h, if_neg (by omega)]
theorem fillT_all {f : Nat → Nat → Bool} {n : Nat} : tabP n (fillT f n 0) = tabP n f := by
  refine tabP_congr fun i j hij hj => ?_
  unfold fillT
  rw [if_pos (by omega)]
set_option maxHeartbeats 4000000 in
set_option maxRecDepth 100000 in
theorem cfPairs_any (L : PL) (A : Option Addr) (c : Nat) (cm : Bool) (w : World) (hl : L.length ≤ 12) (hA : CRead w w.heap.size A (pcells L)) : Calls Try.prog 83 #[.slice A L.length c, .bool cm] w (GotParty w L.length (tabP L.length (lineT L cm))) := by
  have hp : isP (L.length : Int) [] = true := by unfold isP; simp; omega
  have htab := fun X : World => paTable_any (L.length : Int) [] none 0 X hp CRead.nil
  simp only [Int.toNat_natCast, List.length_nil] at htab
  obtain ⟨n, hn⟩ : ∃ n, L.length = n := ⟨_, rfl⟩
  rw [hn] at hl ⊢
  simp only [hn] at htab
  have hof := fun (A : Option Addr) (c : Nat) (G : Nat → Nat) (B : Nat) (X : World) (t : TabG X B (.slice A n c) n n G (fillT (lineT L cm) n 0)) => paOf_any n (fillT (lineT L cm) n 0) A c G B X hl t
  simp only [fillT_all] at hof
  obtain ⟨R, hR⟩ : ∃ R, tabP n (lineT L cm) = R := ⟨_, rfl⟩
  simp only [hR] at hof ⊢
  have Htab := Lib.hid htab
  have Hof := Lib.hid hof
  have Hn := Lib.hid hn
  clear hp htab hof hR hn
  go_enter Try.func83, Try.ntmps83
  go_wp2_with fail
  refine (Htab.out _).mono ?_
  rintro e w3 ⟨A3, c3, G, rfl, tab, hb3⟩
  simp only [World.size_alloc] at hb3
  have y0 : w3.cell? ⟨w.heap.size, 0, none⟩ = some (.int .i64 0) := carry hb3 (by simp) (by simp)
  have y1 : w3.cell? ⟨w.heap.size, 1, none⟩ = some (.slice none 0 0) := carry hb3 (by simp) (by simp)
  have y2 : w3.frozen? ⟨w.heap.size, 0, none⟩ = false := (hb3.frozen (p := ⟨w.heap.size, 0, none⟩) (by simp)).trans (by simp)
  have y3 : w3.frozen? ⟨w.heap.size, 1, none⟩ = false := (hb3.frozen (p := ⟨w.heap.size, 1, none⟩) (by simp)).trans (by simp)
  have k3 : Below w.heap.size w w3 := Below.trans (b := _) (by go_grown) (hb3.mono (by omega))
  have tab0 : TabG w3 (w.heap.size + 1) (.slice A3 n c3) n n G (fillT (lineT L cm) 0 0) := by
    rw [fillT_start, ← adj_nil]
    simpa using tab
  have s3 : w.heap.size < w3.heap.size := World.block_lt_of_cell? w3 _ y0
  have Tab0 := Lib.hid tab0
  clear tab tab0 hb3
  go_wp2
  go_loopw [17] (fun i wr => ∃ k : Nat, k ≤ n ∧ i = .int .i64 k ∧ TabG wr (w.heap.size + 1) (.slice A3 n c3) n n G (fillT (lineT L cm) k 0) ∧ w3.heap.size ≤ wr.heap.size ∧ Below (w.heap.size + 1) w3 wr) (fun i _ => n - (intOf i).toNat)
  case atStart => exact ⟨0, Nat.zero_le _, rfl, Tab0.out, Nat.le_refl _, Below.refl _ _⟩
  case round =>
    obtain ⟨k, hk, rfl, tab, hsr, hb⟩ := hrel
    by_cases hlt : k < n
    · have hki : (k : Int) < (n : Int) := by omega
      obtain ⟨⟨a, b⟩, hx⟩ := getSome L k (by have := Hn.out; omega)
      have hkw : Below w.heap.size w wr := k3.trans (hb.mono (by omega))
      obtain ⟨bb, off, rfl, hbb, c0, c1⟩ := (hA.below hkw (Nat.le_refl _)).pair hx
      have ek : pairAt L k = (a, b) := by unfold pairAt; rw [List.getD_eq_getElem?_getD, hx]; rfl
      obtain ⟨g3, rfl⟩ := own_form tab.own (by omega)
      obtain ⟨S, hS⟩ : ∃ S, wr.heap.size = S := ⟨_, rfl⟩
      have Tab := Lib.hid (tab.alloc (Obj.cells #[.int .i64 a, .int .i64 b] 71))
      have Hb := Lib.hid (hb.alloc (by omega) (Obj.cells #[.int .i64 a, .int .i64 b] 71))
      have b0 : (wr.alloc (Obj.cells #[.int .i64 a, .int .i64 b] 71)).cell? ⟨S, 0, none⟩ = some (.int .i64 a) := by rw [← hS]; simp
      have b1 : (wr.alloc (Obj.cells #[.int .i64 a, .int .i64 b] 71)).cell? ⟨S, 1, none⟩ = some (.int .i64 b) := by rw [← hS]; simp
      have HA := Lib.hid hA
      have Ek := Lib.hid ek
      have B0 := Lib.hid b0
      have B1 := Lib.hid b1
      have HS := Lib.hid hS
      have hSw : w3.heap.size ≤ S := by omega
      have hGS : ∀ i, i < n → G i < S := fun i hi => hS ▸ (tab.blk hi).2
      have HGS := Lib.hid hGS
      clear tab hb hx ek b0 b1 hA hkw hGS
      go_wp2
      go_loopw [24] (fun i wx => ∃ j : Nat, j ≤ n ∧ i = .int .i64 j ∧ TabG wx (w.heap.size + 1) (.slice (some ⟨g3, 0, none⟩) n c3) n n G (fillT (lineT L cm) k j) ∧ wx.cell? ⟨S, 0, none⟩ = some (.int .i64 a) ∧ wx.cell? ⟨S, 1, none⟩ = some (.int .i64 b) ∧ S < wx.heap.size ∧ Below (w.heap.size + 1) w3 wx) (fun i _ => n - (intOf i).toNat)
      case atStart => exact ⟨0, Nat.zero_le _, rfl, Tab.out, B0.out, B1.out, by have := HS.out; simp; omega, Hb.out⟩
      case round =>
        obtain ⟨j, hj, rfl, tab, b0, b1, hSl, hb⟩ := hrel
        by_cases hlt2 : j < n
        · have hji : (j : Int) < (n : Int) := by omega
          obtain ⟨⟨u, v⟩, hx⟩ := getSome L j (by have := Hn.out; omega)
          have hkw : Below w.heap.size w wr := k3.trans (hb.mono (by omega))
          obtain ⟨bb', off', e, hbb', c0, c1⟩ := (HA.out.below hkw (Nat.le_refl _)).pair hx
          simp only [Option.some.injEq, Addr.mk.injEq, and_true] at e
          obtain ⟨rfl, rfl⟩ := e
          have ej : pairAt L j = (u, v) := by unfold pairAt; rw [List.getD_eq_getElem?_getD, hx]; rfl
          have hval : ∀ X : Bool, (X = true ↔ k ≠ j ∧ ((a = u ∨ a = v ∨ b = u ∨ b = v) ↔ cm = true)) → X = lineT L cm k j := by
            intro X hX
            rw [Bool.eq_iff_iff, hX]
            unfold lineT
            rw [Ek.out, ej]
            cases cm <;> simp [meetP] <;> omega
          have hst : ∀ X : Bool, X = lineT L cm k j → TabG ((wr.setCell ⟨G k, j, none⟩ (.bool X)).alloc (Obj.cells #[.int .i64 u, .int .i64 v] 71)) (w.heap.size + 1) (.slice (some ⟨g3, 0, none⟩) n c3) n n G (fillT (lineT L cm) k (j + 1)) := by
            intro X hX
            have h := (tab.set (a := k) (b := j) hlt X).alloc (Obj.cells #[.int .i64 u, .int .i64 v] 71)
            rw [hX, fillT_next] at h
            rw [hX]
            exact h
          have hgk := tab.blk hlt
          have hgS := HGS.out k hlt
          have hbs : ∀ X : Bool, Below (w.heap.size + 1) w3 ((wr.setCell ⟨G k, j, none⟩ (.bool X)).alloc (Obj.cells #[.int .i64 u, .int .i64 v] 71)) := fun X => (hb.setCell (p := ⟨G k, j, none⟩) hgk.1 (.bool X)).alloc (by simp; omega) _
          have hb0 : ∀ X : Bool, ((wr.setCell ⟨G k, j, none⟩ (.bool X)).alloc (Obj.cells #[.int .i64 u, .int .i64 v] 71)).cell? ⟨S, 0, none⟩ = some (.int .i64 a) := fun X => (World.cell?_alloc_lt _ _ _ (by simpa using hSl)).trans ((World.cell?_setCell_other _ _ _ _ (by first | (simp; done) | (simp; omega))).trans b0)
          have hb1 : ∀ X : Bool, ((wr.setCell ⟨G k, j, none⟩ (.bool X)).alloc (Obj.cells #[.int .i64 u, .int .i64 v] 71)).cell? ⟨S, 1, none⟩ = some (.int .i64 b) := fun X => (World.cell?_alloc_lt _ _ _ (by simpa using hSl)).trans ((World.cell?_setCell_other _ _ _ _ (by first | (simp; done) | (simp; omega))).trans b1)
          have B0' : (wr.alloc (Obj.cells #[.int .i64 u, .int .i64 v] 71)).cell? ⟨S, 0, none⟩ = some (.int .i64 a) := (World.cell?_alloc_lt _ _ _ hSl).trans b0
          have B1' : (wr.alloc (Obj.cells #[.int .i64 u, .int .i64 v] 71)).cell? ⟨S, 1, none⟩ = some (.int .i64 b) := (World.cell?_alloc_lt _ _ _ hSl).trans b1
          have tab2 := tab.alloc (Obj.cells #[.int .i64 u, .int .i64 v] 71)
          have o2 := tab2.outer hlt
          have cc2 := tab2.cell hlt hlt2
          have ff2 := tab2.frozen hlt j
          have Ej := Lib.hid ej
          have Hval := Lib.hid hval
          have Hst := Lib.hid hst
          have Hbs := Lib.hid hbs
          have Hb0 := Lib.hid hb0
          have Hb1 := Lib.hid hb1
          clear tab tab2 hb hx ej hval hst hbs hb0 hb1 b0 b1 hkw
          by_cases hkj : k = j
          · subst hkj
            have e2 := Ek.out.symm.trans Ej.out
            simp only [Prod.mk.injEq] at e2
            obtain ⟨rfl, rfl⟩ := e2
            go_wp2
            refine ⟨⟨k + 1, by omega, by go_num, Hst.out _ (Hval.out _ ?_), Hb0.out _, Hb1.out _, ?_, Hbs.out _⟩, ?_⟩
            · simp
            · simp; omega
            · simp [intOf]; omega
          · have hkj' : ¬ ((k : Int) = (j : Int)) := by omega
            by_cases hau : a = u
            · subst hau
              go_wp2
              refine ⟨⟨j + 1, by omega, by go_num, Hst.out _ (Hval.out _ ?_), Hb0.out _, Hb1.out _, ?_, Hbs.out _⟩, ?_⟩
              · simp [hkj, hkj']
              · simp; omega
              · simp [intOf]; omega
            · by_cases hav : a = v
              · subst hav
                go_wp2
                refine ⟨⟨j + 1, by omega, by go_num, Hst.out _ (Hval.out _ ?_), Hb0.out _, Hb1.out _, ?_, Hbs.out _⟩, ?_⟩
                · simp [hkj, hkj']
                · simp; omega
                · simp [intOf]; omega
              · by_cases hbu : b = u
                · subst hbu
                  go_wp2
                  refine ⟨⟨j + 1, by omega, by go_num, Hst.out _ (Hval.out _ ?_), Hb0.out _, Hb1.out _, ?_, Hbs.out _⟩, ?_⟩
                  · simp [hkj, hkj']
                  · simp; omega
                  · simp [intOf]; omega
                · by_cases hbv : b = v
                  · subst hbv
                    go_wp2
                    refine ⟨⟨j + 1, by omega, by go_num, Hst.out _ (Hval.out _ ?_), Hb0.out _, Hb1.out _, ?_, Hbs.out _⟩, ?_⟩
                    · simp [hkj, hkj']
                    · simp; omega
                    · simp [intOf]; omega
                  · go_wp2
                    refine ⟨⟨j + 1, by omega, by go_num, Hst.out _ (Hval.out _ ?_), Hb0.out _, Hb1.out _, ?_, Hbs.out _⟩, ?_⟩
                    · cases cm <;> simp [hkj', hkj, beq_eq_false_iff_ne.mpr hau, beq_eq_false_iff_ne.mpr hav, beq_eq_false_iff_ne.mpr hbu, beq_eq_false_iff_ne.mpr hbv, hau, hav, hbu, hbv]
                    · simp; omega
                    · simp [intOf]; omega
        · have e : j = n := by omega
          subst e
          have hge : ¬ ((j : Int) < (j : Int)) := by omega
          have tab2 := Lib.hid (tab.congr (t' := fillT (lineT L cm) (k + 1) 0) fillT_row)
          have Hb' := Lib.hid hb
          clear tab hb b0 b1
          go_wp2
          go_roundw
          case rel => exact ⟨k + 1, by omega, by go_num, tab2.out, by omega, Hb'.out⟩
          case measure => simp [intOf]; omega
    · have hxe : n = k := by omega
      subst hxe
      have hge : ¬ ((n : Int) < (n : Int)) := by omega
      have z0 : wr.cell? ⟨w.heap.size, 0, none⟩ = some (.int .i64 0) := carry hb y0 (by omega)
      have z1 : wr.cell? ⟨w.heap.size, 1, none⟩ = some (.slice none 0 0) := carry hb y1 (by omega)
      have z2 : wr.frozen? ⟨w.heap.size, 0, none⟩ = false := (hb.frozen (p := ⟨w.heap.size, 0, none⟩) (by simp)).trans y2
      have z3 : wr.frozen? ⟨w.heap.size, 1, none⟩ = false := (hb.frozen (p := ⟨w.heap.size, 1, none⟩) (by simp)).trans y3
      have sr : w.heap.size < wr.heap.size := World.block_lt_of_cell? wr _ z0
      clear y0 y1 y2 y3
      go_wp2_with fail
      refine (Hof.out _ _ _ _ _ tab).mono ?_
      rintro e w4 ⟨A4, c4, rfl, own4, hb4⟩
      have y0 : w4.cell? ⟨w.heap.size, 0, none⟩ = some (.int .i64 0) := carry hb4 z0 sr
      have y1 : w4.cell? ⟨w.heap.size, 1, none⟩ = some (.slice none 0 0) := carry hb4 z1 sr
      have y2 : w4.frozen? ⟨w.heap.size, 0, none⟩ = false := (hb4.frozen (p := ⟨w.heap.size, 0, none⟩) sr).trans z2
      have y3 : w4.frozen? ⟨w.heap.size, 1, none⟩ = false := (hb4.frozen (p := ⟨w.heap.size, 1, none⟩) sr).trans z3
      have k4 : Below w.heap.size w w4 := (k3.trans (hb.mono (by omega))).trans (hb4.mono (by omega))
      clear z0 z1 z2 z3 tab
      go_wp2
      refine bodyPost_ret (v := .agg #[.int .i64 n, .slice A4 R.length c4]) (by simp [results, Try.results83, go_sem, y0, y1]) rfl ?_
      exact ⟨A4, c4, rfl, own_lower (ownsRow_setCell_below (ownsRow_setCell_below own4 (a := ⟨w.heap.size, 0, none⟩) sr _) (a := ⟨w.heap.size, 1, none⟩) sr _) (by omega),
        (k4.setCell (p := ⟨w.heap.size, 0, none⟩) (by simp) _).setCell (p := ⟨w.heap.size, 1, none⟩) (by simp) _⟩
end Go.Proofs.Ythpapkfpcijpoaa
/-
  'LinesOf', 'PairParty': the model's and the program's, by their contracts.
-/
namespace Go.Proofs.Ythpapkfpcijpoaa
open Go.RowKit

theorem tab_len {n : Nat} (hn : n ≤ 12) (f : Nat → Nat → Bool) : (tabP n f).length ≤ 1048576 := by
  have h1 := isP_length (filter_isP hn fun q => f q.1.toNat q.2.toNat)
  have h2 := people_sq (p := (n : Int)) (by omega) (by omega)
  unfold tabP
  omega
theorem resLinesOf_len (p : Int) (l : PL) : (resLinesOf p l).2.1.length ≤ 1048576 := by
  unfold resLinesOf
  split
  · rename_i h
    rw [Bool.and_eq_true, decide_eq_true_eq] at h
    show (linesP l).length ≤ 1048576
    unfold linesP
    exact tab_len h.2 _
  · simp
theorem resPairParty_len (n : Int) : (resPairParty n).2.1.length ≤ 1048576 := by
  unfold resPairParty
  split
  · rename_i h
    have h1 := allP_few ⟨n.toNat, by omega⟩
    simp only at h1
    show (otherP _ _).length ≤ 1048576
    rw [lines_other h1]
    exact tab_len h1 _
  · simp
set_option maxHeartbeats 1000000 in
set_option maxRecDepth 100000 in
theorem implLinesOf_any (p : Int) (l : PL) (A : Option Addr) (c : Nat) (w : World) (hl : l.length ≤ 1048576) (hA : CRead w w.heap.size A (pcells l)) :
    Calls Try.prog 45 #[.agg #[.int .i64 p, .slice A l.length c]] w (GotPartyOk w (resLinesOf p l).1 (resLinesOf p l).2.1 (resLinesOf p l).2.2) := by
  obtain ⟨W, hW⟩ : ∃ W, (w.alloc (Obj.cells #[.int .i64 p, .slice A l.length c] 31)).alloc (Obj.cells #[.int .i64 0, .slice none 0 0] 31) = W := ⟨_, rfl⟩
  have a0 : W.cell? ⟨w.heap.size, 0, none⟩ = some (.int .i64 p) := by rw [← hW]; simp
  have a1 : W.cell? ⟨w.heap.size, 1, none⟩ = some (.slice A l.length c) := by rw [← hW]; simp
  have X0 : W.cell? ⟨w.heap.size + 1, 0, none⟩ = some (.int .i64 0) := by rw [← hW]; simp
  have X1 : W.cell? ⟨w.heap.size + 1, 1, none⟩ = some (.slice none 0 0) := by rw [← hW]; simp
  have Z0 : W.frozen? ⟨w.heap.size + 1, 0, none⟩ = false := by rw [← hW]; simp
  have Z1 : W.frozen? ⟨w.heap.size + 1, 1, none⟩ = false := by rw [← hW]; simp
  have kW : Below w.heap.size w W := by rw [← hW]; go_grown
  have sW1 : w.heap.size < W.heap.size := by rw [← hW]; simp only [World.size_alloc]; omega
  have sW2 : w.heap.size + 1 < W.heap.size := by rw [← hW]; simp
  have RA := (hA.below kW (Nat.le_refl _)).more kW.size
  have HW := Lib.hid hW
  obtain ⟨⟨rp, rl, rok⟩, hres⟩ : ∃ r, resLinesOf p l = r := ⟨_, rfl⟩
  rw [hres]
  have Hres := Lib.hid hres
  clear hW hres
  cases hp : isP p l with
  | false =>
    have e : (rp, rl, rok) = (0, [], false) := by rw [← Hres.out]; unfold resLinesOf; rw [hp]; rfl
    simp only [Prod.mk.injEq] at e
    obtain ⟨rfl, rfl, rfl⟩ := e
    have Hp := Lib.hid hp
    clear hp
    go_enter Try.func45, Try.ntmps45
    go_wp2_with fail
    rw [HW.out]
    refine (isParty_any _ _ _ _ _ hl RA).mono ?_
    rw [Hp.out]
    rintro e w2 ⟨rfl, hb2⟩
    have y0 := carry hb2 X0 sW2
    have y1 := carry hb2 X1 sW2
    have y2 := (hb2.frozen (p := ⟨w.heap.size + 1, 0, none⟩) sW2).trans Z0
    have y3 := (hb2.frozen (p := ⟨w.heap.size + 1, 1, none⟩) sW2).trans Z1
    have k2 := kW.trans (hb2.mono kW.size)
    clear a0 a1 X0 X1 Z0 Z1
    go_wp2
    refine bodyPost_ret (v := .tuple #[.agg #[.int .i64 0, .slice none 0 0], .bool false]) (by simp [results, Try.results45, go_sem, y0, y1]) rfl ?_
    exact ⟨none, 0, rfl, World.ownsRow_nil _ _ _ _, (k2.setCell (p := ⟨w.heap.size + 1, 0, none⟩) (by simp) _).setCell (p := ⟨w.heap.size + 1, 1, none⟩) (by simp) _⟩
  | true =>
    have Hp := Lib.hid hp
    by_cases h12 : l.length ≤ 12
    · have e : (rp, rl, rok) = ((l.length : Int), linesP l, true) := by rw [← Hres.out]; unfold resLinesOf; rw [hp, decide_eq_true h12]; rfl
      simp only [Prod.mk.injEq] at e
      obtain ⟨rfl, rfl, rfl⟩ := e
      have h12i : ¬ ((12 : Int) < (l.length : Int)) := by omega
      obtain ⟨R, hR⟩ : ∃ R, linesP l = R := ⟨_, rfl⟩
      have call := fun (X : World) (hX : CRead X X.heap.size A (pcells l)) => lines_any l A c X h12 hX
      simp only [hR] at call ⊢
      have Call := Lib.hid call
      clear hp Hres call hR
      go_enter Try.func45, Try.ntmps45
      go_wp2_with fail
      rw [HW.out]
      refine (isParty_any _ _ _ _ _ hl RA).mono ?_
      rw [Hp.out]
      rintro e w2 ⟨rfl, hb2⟩
      have c0 := carry hb2 a0 sW1
      have c1 := carry hb2 a1 sW1
      have k2 := kW.trans (hb2.mono kW.size)
      have s2 := hb2.size
      go_wp2_with fail
      refine (Call.out _ ((hA.below k2 (Nat.le_refl _)).more k2.size)).mono ?_
      rintro e w3 ⟨A3, c3, rfl, own3, hb3⟩
      have g3 := hb2.trans (hb3.mono s2)
      have y0 := carry g3 X0 sW2
      have y1 := carry g3 X1 sW2
      have y2 := (g3.frozen (p := ⟨w.heap.size + 1, 0, none⟩) sW2).trans Z0
      have y3 := (g3.frozen (p := ⟨w.heap.size + 1, 1, none⟩) sW2).trans Z1
      have k3 := kW.trans (g3.mono kW.size)
      clear a0 a1 X0 X1 Z0 Z1 c0 c1
      go_wp2
      refine bodyPost_ret (v := .tuple #[.agg #[.int .i64 l.length, .slice A3 R.length c3], .bool true]) (by simp [results, Try.results45, go_sem, y0, y1]) rfl ?_
      exact ⟨A3, c3, rfl, own_lower (ownsRow_setCell_below (ownsRow_setCell_below own3 (a := ⟨w.heap.size + 1, 0, none⟩) (by show w.heap.size + 1 < _; omega) _) (a := ⟨w.heap.size + 1, 1, none⟩) (by show w.heap.size + 1 < _; omega) _) k2.size,
        (k3.setCell (p := ⟨w.heap.size + 1, 0, none⟩) (by simp) _).setCell (p := ⟨w.heap.size + 1, 1, none⟩) (by simp) _⟩
    · have e : (rp, rl, rok) = (0, [], false) := by rw [← Hres.out]; unfold resLinesOf; rw [hp, decide_eq_false h12]; rfl
      simp only [Prod.mk.injEq] at e
      obtain ⟨rfl, rfl, rfl⟩ := e
      have h12i : (12 : Int) < (l.length : Int) := by omega
      clear hp Hres
      go_enter Try.func45, Try.ntmps45
      go_wp2_with fail
      rw [HW.out]
      refine (isParty_any _ _ _ _ _ hl RA).mono ?_
      rw [Hp.out]
      rintro e w2 ⟨rfl, hb2⟩
      have c1 := carry hb2 a1 sW1
      have y0 := carry hb2 X0 sW2
      have y1 := carry hb2 X1 sW2
      have y2 := (hb2.frozen (p := ⟨w.heap.size + 1, 0, none⟩) sW2).trans Z0
      have y3 := (hb2.frozen (p := ⟨w.heap.size + 1, 1, none⟩) sW2).trans Z1
      have k2 := kW.trans (hb2.mono kW.size)
      clear a0 a1 X0 X1 Z0 Z1
      go_wp2
      refine bodyPost_ret (v := .tuple #[.agg #[.int .i64 0, .slice none 0 0], .bool false]) (by simp [results, Try.results45, go_sem, y0, y1]) rfl ?_
      exact ⟨none, 0, rfl, World.ownsRow_nil _ _ _ _, (k2.setCell (p := ⟨w.heap.size + 1, 0, none⟩) (by simp) _).setCell (p := ⟨w.heap.size + 1, 1, none⟩) (by simp) _⟩
set_option maxHeartbeats 1000000 in
set_option maxRecDepth 100000 in
theorem implPairParty_any (n : Int) (w : World) : Calls Try.prog 43 #[.int .i64 n] w (GotPartyOk w (resPairParty n).1 (resPairParty n).2.1 (resPairParty n).2.2) := by
  by_cases h1 : n < 2
  · have e : resPairParty n = (0, [], false) := if_neg (by omega)
    rw [e]
    clear e
    go_enter Try.func43, Try.ntmps43
    go_wp2
    refine bodyPost_ret (v := .tuple #[.agg #[.int .i64 0, .slice none 0 0], .bool false]) (by simp [results, Try.results43, go_sem]) rfl ?_
    exact ⟨none, 0, rfl, World.ownsRow_nil _ _ _ _, by go_grown⟩
  · by_cases h2 : 5 < n
    · have e : resPairParty n = (0, [], false) := if_neg (by omega)
      rw [e]
      clear e
      go_enter Try.func43, Try.ntmps43
      go_wp2
      refine bodyPost_ret (v := .tuple #[.agg #[.int .i64 0, .slice none 0 0], .bool false]) (by simp [results, Try.results43, go_sem]) rfl ?_
      exact ⟨none, 0, rfl, World.ownsRow_nil _ _ _ _, by go_grown⟩
    · obtain ⟨k, rfl⟩ : ∃ k : Nat, n = k := ⟨n.toNat, by omega⟩
      have e : resPairParty k = (((allP k).length : Int), otherP (allP k).length (linesP (allP k)), true) := by
        unfold resPairParty; rw [if_pos (by omega), Int.toNat_natCast]
      rw [e]
      clear e
      have hlen := allP_few ⟨k, by omega⟩
      simp only at hlen
      have hev := fun X : World => everyPair_any k (by omega) X
      obtain ⟨L, hL⟩ : ∃ L, allP k = L := ⟨_, rfl⟩
      simp only [hL] at hev hlen ⊢
      have hli := fun (A : Option Addr) (c : Nat) (X : World) (hX : CRead X X.heap.size A (pcells L)) => lines_any L A c X hlen hX
      have hpl := linesP_isP hlen
      have hot := fun (A : Option Addr) (c : Nat) (X : World) (hX : CRead X X.heap.size A (pcells (linesP L))) => other_any (L.length : Int) (linesP L) A c X hpl hX
      simp only [Int.toNat_natCast] at hot
      obtain ⟨M, hM⟩ : ∃ M, linesP L = M := ⟨_, rfl⟩
      simp only [hM] at hli hot ⊢
      obtain ⟨R, hR⟩ : ∃ R, otherP L.length M = R := ⟨_, rfl⟩
      simp only [hR] at hot ⊢
      obtain ⟨m, hm⟩ : ∃ m, L.length = m := ⟨_, rfl⟩
      have Hev := Lib.hid hev
      have Hli := Lib.hid hli
      have Hot := Lib.hid hot
      clear hev hli hot hpl hM hR hL hm
      go_enter Try.func43, Try.ntmps43
      go_wp2_with fail
      refine (Hev.out _).mono ?_
      rintro e w2 ⟨A2, c2, rfl, own2, hb2⟩
      have s2 := hb2.size
      go_wp2_with fail
      refine (Hli.out A2 c2 w2 (CRead.of_own own2)).mono ?_
      rintro e w3 ⟨A3, c3, rfl, own3, hb3⟩
      have g3 := hb2.trans (hb3.mono s2)
      have s3 := g3.size
      clear own2
      go_wp2_with fail
      refine (Hot.out A3 c3 w3 (CRead.of_own own3)).mono ?_
      rintro e w4 ⟨A4, c4, rfl, own4, hb4⟩
      have g4 := g3.trans (hb4.mono s3)
      simp only [World.size_alloc] at g4 s3
      have y0 : w4.cell? ⟨w.heap.size, 0, none⟩ = some (.int .i64 0) := carry g4 (by simp) (by omega)
      have y1 : w4.cell? ⟨w.heap.size, 1, none⟩ = some (.slice none 0 0) := carry g4 (by simp) (by omega)
      have y2 : w4.frozen? ⟨w.heap.size, 0, none⟩ = false := (g4.frozen (p := ⟨w.heap.size, 0, none⟩) (by simp)).trans (by simp)
      have y3 : w4.frozen? ⟨w.heap.size, 1, none⟩ = false := (g4.frozen (p := ⟨w.heap.size, 1, none⟩) (by simp)).trans (by simp)
      have k4 : Below w.heap.size w w4 := Below.trans (b := _) (by go_grown) (g4.mono (by omega))
      clear own3 hb2 hb3 hb4 g3
      go_wp2
      refine bodyPost_ret (v := .tuple #[.agg #[.int .i64 L.length, .slice A4 R.length c4], .bool true]) (by simp [results, Try.results43, go_sem, y0, y1]) rfl ?_
      exact ⟨A4, c4, rfl, own_lower (ownsRow_setCell_below (ownsRow_setCell_below own4 (a := ⟨w.heap.size, 0, none⟩) (by show w.heap.size < _; omega) _) (a := ⟨w.heap.size, 1, none⟩) (by show w.heap.size < _; omega) _) (by omega),
        (k4.setCell (p := ⟨w.heap.size, 0, none⟩) (by simp) _).setCell (p := ⟨w.heap.size, 1, none⟩) (by simp) _⟩
set_option maxHeartbeats 1000000 in
set_option maxRecDepth 100000 in
theorem specLinesOf_any (p : Int) (l : PL) (A : Option Addr) (c : Nat) (w : World) (hl : l.length ≤ 1048576) (hA : CRead w w.heap.size A (pcells l)) :
    Calls Try.prog 44 #[.agg #[.int .i64 p, .slice A l.length c]] w (GotPartyOk w (resLinesOf p l).1 (resLinesOf p l).2.1 (resLinesOf p l).2.2) := by
  obtain ⟨W, hW⟩ : ∃ W, (w.alloc (Obj.cells #[.int .i64 p, .slice A l.length c] 31)).alloc (Obj.cells #[.int .i64 0, .slice none 0 0] 31) = W := ⟨_, rfl⟩
  have a0 : W.cell? ⟨w.heap.size, 0, none⟩ = some (.int .i64 p) := by rw [← hW]; simp
  have a1 : W.cell? ⟨w.heap.size, 1, none⟩ = some (.slice A l.length c) := by rw [← hW]; simp
  have X0 : W.cell? ⟨w.heap.size + 1, 0, none⟩ = some (.int .i64 0) := by rw [← hW]; simp
  have X1 : W.cell? ⟨w.heap.size + 1, 1, none⟩ = some (.slice none 0 0) := by rw [← hW]; simp
  have Z0 : W.frozen? ⟨w.heap.size + 1, 0, none⟩ = false := by rw [← hW]; simp
  have Z1 : W.frozen? ⟨w.heap.size + 1, 1, none⟩ = false := by rw [← hW]; simp
  have kW : Below w.heap.size w W := by rw [← hW]; go_grown
  have sW1 : w.heap.size < W.heap.size := by rw [← hW]; simp only [World.size_alloc]; omega
  have sW2 : w.heap.size + 1 < W.heap.size := by rw [← hW]; simp
  have RA := (hA.below kW (Nat.le_refl _)).more kW.size
  have HW := Lib.hid hW
  obtain ⟨⟨rp, rl, rok⟩, hres⟩ : ∃ r, resLinesOf p l = r := ⟨_, rfl⟩
  rw [hres]
  have Hres := Lib.hid hres
  clear hW hres
  cases hp : isP p l with
  | false =>
    have e : (rp, rl, rok) = (0, [], false) := by rw [← Hres.out]; unfold resLinesOf; rw [hp]; rfl
    simp only [Prod.mk.injEq] at e
    obtain ⟨rfl, rfl, rfl⟩ := e
    have Hp := Lib.hid hp
    clear hp
    go_enter Try.func44, Try.ntmps44
    go_wp2_with fail
    rw [HW.out]
    refine (paGood_any _ _ _ _ _ hl RA).mono ?_
    rw [Hp.out]
    rintro e w2 ⟨rfl, hb2⟩
    have y0 := carry hb2 X0 sW2
    have y1 := carry hb2 X1 sW2
    have y2 := (hb2.frozen (p := ⟨w.heap.size + 1, 0, none⟩) sW2).trans Z0
    have y3 := (hb2.frozen (p := ⟨w.heap.size + 1, 1, none⟩) sW2).trans Z1
    have k2 := kW.trans (hb2.mono kW.size)
    clear a0 a1 X0 X1 Z0 Z1
    go_wp2
    refine bodyPost_ret (v := .tuple #[.agg #[.int .i64 0, .slice none 0 0], .bool false]) (by simp [results, Try.results44, go_sem, y0, y1]) rfl ?_
    exact ⟨none, 0, rfl, World.ownsRow_nil _ _ _ _, (k2.setCell (p := ⟨w.heap.size + 1, 0, none⟩) (by simp) _).setCell (p := ⟨w.heap.size + 1, 1, none⟩) (by simp) _⟩
  | true =>
    have Hp := Lib.hid hp
    by_cases h12 : l.length ≤ 12
    · have e : (rp, rl, rok) = ((l.length : Int), linesP l, true) := by rw [← Hres.out]; unfold resLinesOf; rw [hp, decide_eq_true h12]; rfl
      simp only [Prod.mk.injEq] at e
      obtain ⟨rfl, rfl, rfl⟩ := e
      have h12i : ¬ ((12 : Int) < (l.length : Int)) := by omega
      have call := fun (X : World) (hX : CRead X X.heap.size A (pcells l)) => cfPairs_any l A c true X h12 hX
      simp only [lines_common] at call
      obtain ⟨R, hR⟩ : ∃ R, linesP l = R := ⟨_, rfl⟩
      simp only [hR] at call ⊢
      have Call := Lib.hid call
      clear hp Hres call hR
      go_enter Try.func44, Try.ntmps44
      go_wp2_with fail
      rw [HW.out]
      refine (paGood_any _ _ _ _ _ hl RA).mono ?_
      rw [Hp.out]
      rintro e w2 ⟨rfl, hb2⟩
      have c0 := carry hb2 a0 sW1
      have c1 := carry hb2 a1 sW1
      have k2 := kW.trans (hb2.mono kW.size)
      have s2 := hb2.size
      go_wp2_with fail
      refine (Call.out _ ((hA.below k2 (Nat.le_refl _)).more k2.size)).mono ?_
      rintro e w3 ⟨A3, c3, rfl, own3, hb3⟩
      have g3 := hb2.trans (hb3.mono s2)
      have y0 := carry g3 X0 sW2
      have y1 := carry g3 X1 sW2
      have y2 := (g3.frozen (p := ⟨w.heap.size + 1, 0, none⟩) sW2).trans Z0
      have y3 := (g3.frozen (p := ⟨w.heap.size + 1, 1, none⟩) sW2).trans Z1
      have k3 := kW.trans (g3.mono kW.size)
      clear a0 a1 X0 X1 Z0 Z1 c0 c1
      go_wp2
      refine bodyPost_ret (v := .tuple #[.agg #[.int .i64 l.length, .slice A3 R.length c3], .bool true]) (by simp [results, Try.results44, go_sem, y0, y1]) rfl ?_
      exact ⟨A3, c3, rfl, own_lower (ownsRow_setCell_below (ownsRow_setCell_below own3 (a := ⟨w.heap.size + 1, 0, none⟩) (by show w.heap.size + 1 < _; omega) _) (a := ⟨w.heap.size + 1, 1, none⟩) (by show w.heap.size + 1 < _; omega) _) k2.size,
        (k3.setCell (p := ⟨w.heap.size + 1, 0, none⟩) (by simp) _).setCell (p := ⟨w.heap.size + 1, 1, none⟩) (by simp) _⟩
    · have e : (rp, rl, rok) = (0, [], false) := by rw [← Hres.out]; unfold resLinesOf; rw [hp, decide_eq_false h12]; rfl
      simp only [Prod.mk.injEq] at e
      obtain ⟨rfl, rfl, rfl⟩ := e
      have h12i : (12 : Int) < (l.length : Int) := by omega
      clear hp Hres
      go_enter Try.func44, Try.ntmps44
      go_wp2_with fail
      rw [HW.out]
      refine (paGood_any _ _ _ _ _ hl RA).mono ?_
      rw [Hp.out]
      rintro e w2 ⟨rfl, hb2⟩
      have c1 := carry hb2 a1 sW1
      have y0 := carry hb2 X0 sW2
      have y1 := carry hb2 X1 sW2
      have y2 := (hb2.frozen (p := ⟨w.heap.size + 1, 0, none⟩) sW2).trans Z0
      have y3 := (hb2.frozen (p := ⟨w.heap.size + 1, 1, none⟩) sW2).trans Z1
      have k2 := kW.trans (hb2.mono kW.size)
      clear a0 a1 X0 X1 Z0 Z1
      go_wp2
      refine bodyPost_ret (v := .tuple #[.agg #[.int .i64 0, .slice none 0 0], .bool false]) (by simp [results, Try.results44, go_sem, y0, y1]) rfl ?_
      exact ⟨none, 0, rfl, World.ownsRow_nil _ _ _ _, (k2.setCell (p := ⟨w.heap.size + 1, 0, none⟩) (by simp) _).setCell (p := ⟨w.heap.size + 1, 1, none⟩) (by simp) _⟩
set_option maxHeartbeats 1000000 in
set_option maxRecDepth 100000 in
theorem specPairParty_any (n : Int) (w : World) : Calls Try.prog 42 #[.int .i64 n] w (GotPartyOk w (resPairParty n).1 (resPairParty n).2.1 (resPairParty n).2.2) := by
  by_cases h1 : 2 ≤ n ∧ n ≤ 5
  · obtain ⟨k, rfl⟩ : ∃ k : Nat, n = k := ⟨n.toNat, by omega⟩
    have hlen := allP_few ⟨k, by omega⟩
    simp only at hlen
    have e : resPairParty k = (((allP k).length : Int), tabP (allP k).length (lineT (allP k) false), true) := by
      unfold resPairParty; rw [if_pos (by omega), Int.toNat_natCast, lines_other hlen]
    rw [e]
    clear e
    have hp : isP (k : Int) [] = true := by unfold isP; simp; omega
    have hot := fun (X : World) => paOther_any (k : Int) [] none 0 X hp CRead.nil
    simp only [Int.toNat_natCast, otherP_nil, List.length_nil] at hot
    have hf := Try.run_pairsE
    obtain ⟨L, hL⟩ : ∃ L, allP k = L := ⟨_, rfl⟩
    simp only [hL] at hot hlen ⊢
    have hcf := fun (A : Option Addr) (c : Nat) (X : World) (hX : CRead X X.heap.size A (pcells L)) => cfPairs_any L A c false X hlen hX
    obtain ⟨R, hR⟩ : ∃ R, tabP L.length (lineT L false) = R := ⟨_, rfl⟩
    simp only [hR] at hcf ⊢
    have Hot := Lib.hid hot
    have Hcf := Lib.hid hcf
    clear hot hcf hp hL hR
    go_enter Try.func42, Try.ntmps42
    go_wp2_with fail
    refine (l1In_yes _ 2 5 (by omega) (by omega) _).mono ?_
    rintro e w' ⟨rfl, rfl⟩
    go_wp2_with fail
    refine (Hot.out _).mono ?_
    rintro e w2 ⟨A2, c2, rfl, own2, hb2⟩
    have s2 := hb2.size
    go_wp2_with fail
    refine (Hcf.out A2 c2 w2 (CRead.of_own own2)).mono ?_
    rintro e w4 ⟨A4, c4, rfl, own4, hb4⟩
    have g4 := hb2.trans (hb4.mono s2)
    simp only [World.size_alloc] at g4 s2
    have y0 : w4.cell? ⟨w.heap.size, 0, none⟩ = some (.int .i64 0) := carry g4 (by simp) (by omega)
    have y1 : w4.cell? ⟨w.heap.size, 1, none⟩ = some (.slice none 0 0) := carry g4 (by simp) (by omega)
    have y2 : w4.frozen? ⟨w.heap.size, 0, none⟩ = false := (g4.frozen (p := ⟨w.heap.size, 0, none⟩) (by simp)).trans (by simp)
    have y3 : w4.frozen? ⟨w.heap.size, 1, none⟩ = false := (g4.frozen (p := ⟨w.heap.size, 1, none⟩) (by simp)).trans (by simp)
    have k4 : Below w.heap.size w w4 := Below.trans (b := _) (by go_grown) (g4.mono (by omega))
    clear own2 hb2 hb4
    go_wp2
    refine bodyPost_ret (v := .tuple #[.agg #[.int .i64 L.length, .slice A4 R.length c4], .bool true]) (by simp [results, Try.results42, go_sem, y0, y1]) rfl ?_
    exact ⟨A4, c4, rfl, own_lower (ownsRow_setCell_below (ownsRow_setCell_below own4 (a := ⟨w.heap.size, 0, none⟩) (by show w.heap.size < _; omega) _) (a := ⟨w.heap.size, 1, none⟩) (by show w.heap.size < _; omega) _) (by omega),
      (k4.setCell (p := ⟨w.heap.size, 0, none⟩) (by simp) _).setCell (p := ⟨w.heap.size, 1, none⟩) (by simp) _⟩
  · have e : resPairParty n = (0, [], false) := if_neg h1
    rw [e]
    clear e
    go_enter Try.func42, Try.ntmps42
    go_wp2_with fail
    refine (l1In_no _ 2 5 (by omega) _).mono ?_
    rintro e w' ⟨rfl, rfl⟩
    go_wp2
    refine bodyPost_ret (v := .tuple #[.agg #[.int .i64 0, .slice none 0 0], .bool false]) (by simp [results, Try.results42, go_sem]) rfl ?_
    exact ⟨none, 0, rfl, World.ownsRow_nil _ _ _ _, by go_grown⟩
end Go.Proofs.Ythpapkfpcijpoaa
/-
  'laws.FnExactPairParty' returns true, whatever its arguments: out of the contracts of the model's function and of the program's.
-/
namespace Go.Proofs.Ythpapkfpcijpoaa
open Go.RowKit

set_option maxHeartbeats 4000000 in
set_option maxRecDepth 100000 in
theorem lawPairParty_any (i0 : Int) (W : World)  :
    Calls Try.prog 11 #[.int .i64 i0] W fun e w' => e = .returned (.bool true) ∧ Below W.heap.size W w' := by
  have hone : (0 : Int) ≤ 1 ∧ (1 : Int) ≤ 16777216 := by omega
  obtain ⟨⟨rq, rm, rok⟩, hres⟩ : ∃ r, resPairParty i0 = r := ⟨_, rfl⟩
  have hrn : rm.length ≤ 1048576 := by have h := resPairParty_len i0; rw [hres] at h; exact h
  have hrl : rm.length ≤ maxLen := by unfold maxLen; omega
  have Hres := Lib.hid hres
  clear hres
  go_enter Try.func11, Try.ntmps11
  go_wp2_with fail
  refine (specPairParty_any i0 _ ).mono ?_
  rw [Hres.out]
  rintro e w1 ⟨T1, d1, rfl, n1, hb1⟩
  have g1 : Below W.heap.size W w1 := hb1
  have s1 := hb1.size
  have k1 : Below W.heap.size W w1 := g1
  have r1 : Lies (.slice T1 rm.length d1) (W.heap.size) w1.heap.size := own_lies n1
  go_wp2_with fail
  refine (implPairParty_any i0 _ ).mono ?_
  rw [Hres.out]
  rintro e w3 ⟨T3, d3, rfl, n3, hb3⟩
  simp only [World.size_alloc] at n3
  simp only [World.size_alloc] at hb3
  have g3 : Below w1.heap.size w1 w3 := Below.trans (b := _) (by go_grown) (hb3.mono (by omega))
  have s3 := hb3.size
  simp only [World.size_alloc] at s3
  have f3_0 : w3.cell? ⟨w1.heap.size, 0, none⟩ = some (.int .i64 rq) := carry hb3 (by simp) (by omega)
  have f3_1 : w3.cell? ⟨w1.heap.size, 1, none⟩ = some (.slice T1 rm.length d1) := carry hb3 (by simp) (by omega)
  have o3_0 := own_below n1 g3 (Nat.le_refl _)
  have k3 := k1.trans (g3.mono k1.size)
  clear n1
  have r3 : Lies (.slice T3 rm.length d3) (w1.heap.size + 1) w3.heap.size := own_lies n3
  have q4_0 : (w3.alloc (Obj.cells #[.int .i64 rq, .slice T3 rm.length d3] 31)).cell? ⟨w1.heap.size, 0, none⟩ = some (.int .i64 rq) := (World.cell?_alloc_lt _ _ _ (show w1.heap.size < w3.heap.size by omega)).trans f3_0
  have q4_1 : (w3.alloc (Obj.cells #[.int .i64 rq, .slice T3 rm.length d3] 31)).cell? ⟨w1.heap.size, 1, none⟩ = some (.slice T1 rm.length d1) := (World.cell?_alloc_lt _ _ _ (show w1.heap.size < w3.heap.size by omega)).trans f3_1
  go_wp2_with fail
  refine (eqParty_any rq rq rm rm _ _ _ _ _ hrl hrl ((((CRead.of_own n3).below (B' := w3.heap.size) (by go_grown) (Nat.le_refl _)).more (by go_size))) ((((CRead.of_own o3_0).below (B' := w3.heap.size) (by go_grown) (Nat.le_refl _)).more (by go_size)))).mono ?_
  rw [decide_eq_true ⟨rfl, rfl⟩]
  rintro e w5 ⟨rfl, hb5⟩
  simp only [World.size_alloc] at hb5
  have g5 : Below w3.heap.size w3 w5 := Below.trans (b := _) (by go_grown) (hb5.mono (by omega))
  have s5 := hb5.size
  simp only [World.size_alloc] at s5
  have f5_0 := carry g5 f3_0 (by omega)
  have f5_1 := carry g5 f3_1 (by omega)
  have f5_2 : w5.cell? ⟨w3.heap.size, 0, none⟩ = some (.int .i64 rq) := carry hb5 (by simp) (by omega)
  have f5_3 : w5.cell? ⟨w3.heap.size, 1, none⟩ = some (.slice T3 rm.length d3) := carry hb5 (by simp) (by omega)
  have o5_0 := own_below o3_0 g5 (Nat.le_refl _)
  have o5_1 := own_below n3 g5 (Nat.le_refl _)
  have k5 := k3.trans (g5.mono k3.size)
  clear f3_0 f3_1 o3_0 n3 q4_0 q4_1
  go_wp2_with fail
  refine (markParty_any rq rm _ _ _ 1 _ _ rfl hrn hone o5_1).mono ?_
  rintro e w6 ⟨rfl, n6, hg6⟩
  have s6 := hg6.size
  have f6_0 := carryG hg6 r3 f5_0 (by omega)
  have f6_1 := carryG hg6 r3 f5_1 (by omega)
  have f6_2 := carryG hg6 r3 f5_2 (by omega)
  have f6_3 := carryG hg6 r3 f5_3 (by omega)
  have o6_0 := keptG hg6 r3 o5_0 r1 (by omega)
  have k6 := belowG k5 hg6 r3 k5.size (by omega)
  clear f5_0 f5_1 f5_2 f5_3 o5_0 o5_1
  have hmr : ¬ (1 + 2 * (rm.length : Int) < 0) := by omega
  go_wp2_with fail
  refine (heldParty_any _ _ _ _ 1 _ hrn hone (CRead.of_own n6)).mono ?_
  rintro e w7 ⟨rfl, hb7⟩
  have g7 : Below w6.heap.size w6 w7 := hb7
  have s7 := hb7.size
  have f7_0 := carry g7 f6_0 (by omega)
  have f7_1 := carry g7 f6_1 (by omega)
  have f7_2 := carry g7 f6_2 (by omega)
  have f7_3 := carry g7 f6_3 (by omega)
  have o7_0 := own_below o6_0 g7 (Nat.le_refl _)
  have o7_1 := own_below n6 g7 (Nat.le_refl _)
  have k7 := k6.trans (g7.mono k6.size)
  clear f6_0 f6_1 f6_2 f6_3 o6_0 n6
  go_wp2_with fail
  refine (implPairParty_any i0 _ ).mono ?_
  rw [Hres.out]
  rintro e w8 ⟨T8, d8, rfl, n8, hb8⟩
  have g8 : Below w7.heap.size w7 w8 := hb8
  have s8 := hb8.size
  have f8_0 := carry g8 f7_0 (by omega)
  have f8_1 := carry g8 f7_1 (by omega)
  have f8_2 := carry g8 f7_2 (by omega)
  have f8_3 := carry g8 f7_3 (by omega)
  have o8_0 := own_below o7_0 g8 (Nat.le_refl _)
  have o8_1 := own_below o7_1 g8 (Nat.le_refl _)
  have k8 := k7.trans (g8.mono k7.size)
  clear f7_0 f7_1 f7_2 f7_3 o7_0 o7_1
  have r8 : Lies (.slice T8 rm.length d8) (w7.heap.size) w8.heap.size := own_lies n8
  have q9_0 : (w8.alloc (Obj.cells #[.int .i64 rq, .slice T8 rm.length d8] 31)).cell? ⟨w1.heap.size, 0, none⟩ = some (.int .i64 rq) := (World.cell?_alloc_lt _ _ _ (show w1.heap.size < w8.heap.size by omega)).trans f8_0
  have q9_1 : (w8.alloc (Obj.cells #[.int .i64 rq, .slice T8 rm.length d8] 31)).cell? ⟨w1.heap.size, 1, none⟩ = some (.slice T1 rm.length d1) := (World.cell?_alloc_lt _ _ _ (show w1.heap.size < w8.heap.size by omega)).trans f8_1
  have q9_2 : (w8.alloc (Obj.cells #[.int .i64 rq, .slice T8 rm.length d8] 31)).cell? ⟨w3.heap.size, 0, none⟩ = some (.int .i64 rq) := (World.cell?_alloc_lt _ _ _ (show w3.heap.size < w8.heap.size by omega)).trans f8_2
  have q9_3 : (w8.alloc (Obj.cells #[.int .i64 rq, .slice T8 rm.length d8] 31)).cell? ⟨w3.heap.size, 1, none⟩ = some (.slice T3 rm.length d3) := (World.cell?_alloc_lt _ _ _ (show w3.heap.size < w8.heap.size by omega)).trans f8_3
  go_wp2_with fail
  refine (eqParty_any rq rq rm rm _ _ _ _ _ hrl hrl ((((CRead.of_own n8).below (B' := w8.heap.size) (by go_grown) (Nat.le_refl _)).more (by go_size))) ((((CRead.of_own o8_0).below (B' := w8.heap.size) (by go_grown) (Nat.le_refl _)).more (by go_size)))).mono ?_
  rw [decide_eq_true ⟨rfl, rfl⟩]
  rintro e w10 ⟨rfl, hb10⟩
  simp only [World.size_alloc] at hb10
  have g10 : Below w8.heap.size w8 w10 := Below.trans (b := _) (by go_grown) (hb10.mono (by omega))
  have s10 := hb10.size
  simp only [World.size_alloc] at s10
  have f10_0 := carry g10 f8_0 (by omega)
  have f10_1 := carry g10 f8_1 (by omega)
  have f10_2 := carry g10 f8_2 (by omega)
  have f10_3 := carry g10 f8_3 (by omega)
  have f10_4 : w10.cell? ⟨w8.heap.size, 0, none⟩ = some (.int .i64 rq) := carry hb10 (by simp) (by omega)
  have f10_5 : w10.cell? ⟨w8.heap.size, 1, none⟩ = some (.slice T8 rm.length d8) := carry hb10 (by simp) (by omega)
  have o10_0 := own_below o8_0 g10 (Nat.le_refl _)
  have o10_1 := own_below o8_1 g10 (Nat.le_refl _)
  have o10_2 := own_below n8 g10 (Nat.le_refl _)
  have k10 := k8.trans (g10.mono k8.size)
  clear f8_0 f8_1 f8_2 f8_3 o8_0 o8_1 n8 q9_0 q9_1 q9_2 q9_3
  go_wp2_with fail
  refine (heldParty_any _ _ _ _ 1 _ hrn hone (CRead.of_own o10_1)).mono ?_
  rintro e w11 ⟨rfl, hb11⟩
  have g11 : Below w10.heap.size w10 w11 := hb11
  have s11 := hb11.size
  have f11_0 := carry g11 f10_0 (by omega)
  have f11_1 := carry g11 f10_1 (by omega)
  have f11_2 := carry g11 f10_2 (by omega)
  have f11_3 := carry g11 f10_3 (by omega)
  have f11_4 := carry g11 f10_4 (by omega)
  have f11_5 := carry g11 f10_5 (by omega)
  have o11_0 := own_below o10_0 g11 (Nat.le_refl _)
  have o11_1 := own_below o10_1 g11 (Nat.le_refl _)
  have o11_2 := own_below o10_2 g11 (Nat.le_refl _)
  have k11 := k10.trans (g11.mono k10.size)
  clear f10_0 f10_1 f10_2 f10_3 f10_4 f10_5 o10_0 o10_1 o10_2
  go_wp2
  go_ret
  exact ⟨rfl, k11⟩
end Go.Proofs.Ythpapkfpcijpoaa
/-
  THE PROGRAM's HEAD, LOOKED AT ONCE: which make it is, and that a call may enter it. (The head's text is long: the kernel must not read it twice.)
-/
namespace Go.Proofs.Ythpapkfpcijpoaa

theorem make_of {P : Program} {rest : List (List Char)} (h : behindMainWord (wordsSigns P.initOrder.toList) = "cut".toList :: rest) : P.make = some .cut := by
  unfold Program.make
  rw [h]
  rfl
theorem strip_cut (rest : List (List Char)) : stripLifts liftWords ("cut".toList :: rest) = ([], "cut".toList :: rest) := rfl
theorem lifts_of {P : Program} {rest : List (List Char)} (h : behindMainWord (wordsSigns P.initOrder.toList) = "cut".toList :: rest) : P.headLifts = [] := by
  unfold Program.headLifts
  rw [h, strip_cut]
  rfl
theorem final_of {P : Program} {rest : List (List Char)} (h : behindMainWord (wordsSigns P.initOrder.toList) = "cut".toList :: rest) : P.liftsFinal = false := by
  unfold Program.liftsFinal
  rw [lifts_of h, h]
  rfl
theorem enter_of {P : Program} {rest : List (List Char)} (h : behindMainWord (wordsSigns P.initOrder.toList) = "cut".toList :: rest) (h1 : P.laysLater = false) (h2 : P.bearsReflect = false) (h3 : P.doorFits [] = true) : P.mayEnter = true := by
  unfold Program.mayEnter
  rw [h]
  show (_ || _ || _) = true
  rw [strip_cut, h1, h2, h3]
  rfl
end Go.Proofs.Ythpapkfpcijpoaa
/-
  THE PROGRAM's CLOSED FACTS, EACH ONCE; and how a row's facts are put together out of them.
-/
namespace Go.Proofs.Ythpapkfpcijpoaa
open Go.ChangeShapes Go.WideShapes Go.ChangeAt Go.RowKit

def headSigns : List Char := ([104, 97, 114, 110, 101, 115, 115, 32, 52, 101, 57, 49, 97, 50, 49, 55, 98, 99, 56, 49, 48, 49, 57, 55, 99, 98, 54, 48, 98, 51, 50, 53, 53, 55, 99, 100, 51, 57, 53, 50, 48, 54, 98, 49, 54, 102, 57, 51, 99, 101, 50, 56, 56, 101, 49, 97, 50, 100, 101, 49, 101, 98, 56, 97, 100, 53, 49, 54, 102, 56, 99, 101, 32, 99, 117, 116, 32, 97, 116, 32, 108, 111, 111, 112, 46, 101, 120, 97, 109, 112, 108, 101, 47, 103, 48, 49, 50, 53, 55, 47, 108, 97, 119, 115, 46, 70, 110, 69, 120, 97, 99, 116, 67, 111, 109, 109, 111, 110, 84, 97, 98, 108, 101, 32, 108, 111, 111, 112, 46, 101, 120, 97, 109, 112, 108, 101, 47, 103, 48, 49, 50, 53, 55, 47, 108, 97, 119, 115, 46, 70, 110, 69, 120, 97, 99, 116, 73, 115, 70, 114, 105, 101, 110, 100, 108, 121, 32, 108, 111, 111, 112, 46, 101, 120, 97, 109, 112, 108, 101, 47, 103, 48, 49, 50, 53, 55, 47, 108, 97, 119, 115, 46, 70, 110, 69, 120, 97, 99, 116, 87, 105, 110, 100, 109, 105, 108, 108, 80, 97, 114, 116, 121, 32, 108, 111, 111, 112, 46, 101, 120, 97, 109, 112, 108, 101, 47, 103, 48, 49, 50, 53, 55, 47, 108, 97, 119, 115, 46, 70, 110, 69, 120, 97, 99, 116, 73, 115, 87, 105, 110, 100, 109, 105, 108, 108, 32, 108, 111, 111, 112, 46, 101, 120, 97, 109, 112, 108, 101, 47, 103, 48, 49, 50, 53, 55, 47, 108, 97, 119, 115, 46, 70, 110, 69, 120, 97, 99, 116, 80, 111, 108, 105, 116, 105, 99, 105, 97, 110, 79, 102, 32, 108, 111, 111, 112, 46, 101, 120, 97, 109, 112, 108, 101, 47, 103, 48, 49, 50, 53, 55, 47, 108, 97, 119, 115, 46, 70, 110, 69, 120, 97, 99, 116, 69, 113, 117, 97, 108, 78, 117, 109, 98, 101, 114, 32, 108, 111, 111, 112, 46, 101, 120, 97, 109, 112, 108, 101, 47, 103, 48, 49, 50, 53, 55, 47, 108, 97, 119, 115, 46, 70, 110, 69, 120, 97, 99, 116, 83, 116, 114, 111, 110, 103, 78, 117, 109, 98, 101, 114, 115, 32, 108, 111, 111, 112, 46, 101, 120, 97, 109, 112, 108, 101, 47, 103, 48, 49, 50, 53, 55, 47, 108, 97, 119, 115, 46, 70, 110, 69, 120, 97, 99, 116, 67, 105, 114, 99, 108, 101, 80, 97, 114, 116, 121, 32, 108, 111, 111, 112, 46, 101, 120, 97, 109, 112, 108, 101, 47, 103, 48, 49, 50, 53, 55, 47, 108, 97, 119, 115, 46, 70, 110, 69, 120, 97, 99, 116, 80, 97, 105, 114, 80, 97, 114, 116, 121, 32, 108, 111, 111, 112, 46, 101, 120, 97, 109, 112, 108, 101, 47, 103, 48, 49, 50, 53, 55, 47, 108, 97, 119, 115, 46, 70, 110, 69, 120, 97, 99, 116, 76, 105, 110, 101, 115, 79, 102, 32, 108, 111, 111, 112, 46, 101, 120, 97, 109, 112, 108, 101, 47, 103, 48, 49, 50, 53, 55, 47, 108, 97, 119, 115, 46, 70, 110, 69, 120, 97, 99, 116, 77, 111, 115, 116, 80, 101, 111, 112, 108, 101] : List Nat).map Char.ofNat
set_option maxRecDepth 100000 in
theorem Try.initOrder_is : Try.prog.initOrder = String.ofList headSigns := by kernel_rfl
theorem Try.initOrder_signs : Try.prog.initOrder.toList = headSigns := by rw [Try.initOrder_is]; exact String.toList_ofList
set_option maxRecDepth 100000 in
theorem head_words : (behindMainWord (wordsSigns headSigns)).take 1 = ["cut".toList] := by kernel_rfl
theorem Try.words : ∃ rest, behindMainWord (wordsSigns Try.prog.initOrder.toList) = "cut".toList :: rest := by
  rw [Try.initOrder_signs]
  have h := List.take_append_drop 1 (behindMainWord (wordsSigns headSigns))
  rw [head_words] at h
  exact ⟨_, h.symm⟩
theorem Try.make : Try.prog.make = some .cut := by obtain ⟨_, h⟩ := Try.words; exact make_of h
theorem Try.liftsFinal : Try.prog.liftsFinal = false := by obtain ⟨_, h⟩ := Try.words; exact final_of h
theorem Try.laysLater : Try.prog.laysLater = false := by kernel_rfl
theorem Try.bearsReflect : Try.prog.bearsReflect = false := by kernel_rfl
theorem Try.doorFits : Try.prog.doorFits [] = true := by kernel_rfl
theorem Try.mayEnter : Try.prog.mayEnter = true := by obtain ⟨_, h⟩ := Try.words; exact enter_of h Try.laysLater Try.bearsReflect Try.doorFits
theorem Try.mapsRowed : mapsRowed Try.prog = true := by kernel_rfl
theorem Try.stops : (Try.prog.stops == []) = true := by kernel_rfl
theorem Try.stopKnobs : (Try.prog.stopKnobs == []) = true := by kernel_rfl
theorem Try.plainKeys : Try.prog.plainKeys = true := by kernel_rfl
theorem Try.stopsHeard : Try.prog.stopsHeard = true := by kernel_rfl

/-- What the types of one law give: closed facts on its parameters and its result. -/
def typeFacts (P : Program) (fn : Func) (s : ChangeSpec) (c : OpenClaim) : Bool :=
  fn.params.all (P.readableRec ·) && namedTie P c.named s.vars && (c.stops == []) && (c.knobs == []) &&
  (c.maps == (fn.params.toList ++ s.plain.varTypes P).any (P.mapsRec ·)) && (c.ifaces == (fn.params.toList ++ s.plain.varTypes P).any (P.ifacesRec ·)) && (c.mapsOut == P.mapsAmong fn.resultTypes.toList) &&
  (c.loops == (fn.params.toList ++ s.plain.varTypes P).any (P.loopsFrom ·)) && (c.wideKeys == (fn.params.toList ++ s.plain.varTypes P ++ fn.resultTypes.toList).any (P.wideKeysFrom ·)) &&
  s.vars.all (P.varReadable ·) && fn.resultTypes.all (fun t => P.readableRec t && decide (t < P.types.size)) && (c.ifacesOut == fn.resultTypes.toList.any (P.ifacesRec ·)) && (c.loopsOut == fn.resultTypes.toList.any (P.loopsFrom ·)) && c.shortTexts.isNone &&
  (c.kinds == (if c.domain.isEmpty then [] else fn.params.toList.map fun t => match P.underlying t with | some (.int k) => some k | _ => none)) && (c.pinned == c.pinnedBy) &&
  (c.veiled == (fn.params.toList ++ s.plain.varTypes P ++ fn.resultTypes.toList).any (P.veiledRec ·)) && c.veiledFits P fn.params.toList (fn.params.toList ++ s.plain.varTypes P ++ fn.resultTypes.toList)
theorem joined_all {P : Program} {f : FuncId} {fn : Func} {s : ChangeSpec} {c : OpenClaim} (k1 : c.wf (OpenSpec.ofChange s) = true) (kt : typeFacts P fn s c = true)
    (k10 : (c.inPlace == P.inPlace f) = true) (k11 : (c.unfollowed == P.unfollowed f) = true) (k12 : (c.recurses == P.recurses f) = true) (k13 : (c.named == P.varsNamed f) = true)
    (e2 : laidOutB P = true) (e3 : mapsRowed P = true) (e7 : (P.stops == []) = true) (e9 : (P.stopKnobs == []) = true) (e22 : (c.plainKeys == P.plainKeys) = true) (e23 : P.stopsHeard = true) (e24 : P.mayEnter = true)
    (e24b : (c.lifted == P.liftsFinal) = true) (e24c : (P.make == some c.make) = true) : joinedFacts P f fn s c = true := by
  unfold typeFacts at kt
  unfold joinedFacts
  simp only [Bool.and_eq_true] at kt ⊢
  obtain ⟨⟨⟨⟨⟨⟨⟨⟨⟨⟨⟨⟨⟨⟨⟨⟨⟨t1, t2⟩, t3⟩, t4⟩, t5⟩, t6⟩, t7⟩, t8⟩, t9⟩, t10⟩, t11⟩, t12⟩, t13⟩, t14⟩, t15⟩, t16⟩, t17⟩, t18⟩ := kt
  exact ⟨⟨⟨⟨⟨⟨⟨⟨⟨⟨⟨⟨⟨⟨⟨⟨⟨⟨⟨⟨⟨⟨⟨⟨⟨⟨⟨⟨⟨⟨⟨k1, e2⟩, e3⟩, t1⟩, t2⟩, t3⟩, e7⟩, t4⟩, e9⟩, k10⟩, k11⟩, k12⟩, k13⟩, t5⟩, t6⟩, t7⟩, t8⟩, t9⟩, t10⟩, t11⟩, t12⟩, t13⟩, e22⟩, t14⟩, e23⟩, e24⟩, e24b⟩, e24c⟩, t15⟩, t16⟩, t17⟩, t18⟩
theorem joined_of {f : FuncId} {fn : Func} {s : ChangeSpec} {c : OpenClaim} (k1 : c.wf (OpenSpec.ofChange s) = true) (kt : typeFacts Try.prog fn s c = true)
    (k10 : (c.inPlace == Try.prog.inPlace f) = true) (k11 : (c.unfollowed == Try.prog.unfollowed f) = true) (k12 : (c.recurses == Try.prog.recurses f) = true) (k13 : (c.named == Try.prog.varsNamed f) = true)
    (k22 : c.plainKeys = true) (k24b : c.lifted = false) (k24c : c.make = .cut) : joinedFacts Try.prog f fn s c = true :=
  joined_all k1 kt k10 k11 k12 k13 Try.laidOut Try.mapsRowed Try.stops Try.stopKnobs (by rw [k22, Try.plainKeys]; rfl) Try.stopsHeard Try.mayEnter (by rw [k24b, Try.liftsFinal]; rfl) (by rw [k24c, Try.make]; rfl)
end Go.Proofs.Ythpapkfpcijpoaa
