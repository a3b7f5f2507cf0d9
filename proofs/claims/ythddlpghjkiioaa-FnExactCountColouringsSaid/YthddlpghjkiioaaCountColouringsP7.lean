/-
  Texts put together for the claims of 'CountColourings' (pack 7): GopI, WayS, WayI, WayJ, LawCountColourings, Head.
-/
import Derived.Test.YthddlpghjkiioaaCountColouringsP6
import Derived.Deep.AppendLies
import Derived.Stop.RegionWithIn
import Derived.Deep.RegionHeld3
import Derived.Test.YthddlpghjkiioaaRows
/-
  THE GROUPS OF A PARTY: the program's 'GroupsOfParty', by its contract.
-/
namespace Go.Proofs.Ythddlpghjkiioaa
open Go.RowKit

theorem rowsL_ofI {w : World} {B n : Nat} {v : Value} {R : Nat → Option Addr} {C N : Nat → Nat} {F : Nat → List Int} {LL : List (List Int)} (h : RowsG w B v n R C N F) (hn : LL.length = n) (hF : ∀ i, i < n → LL.getD i [] = F i) : RowsL w B v LL R C := by
  have hN : ∀ i, i < n → (LL.getD i []).length = N i := fun i hi => by rw [hF i hi]; exact (h.row i hi).1
  unfold RowsL
  rw [hn]
  refine ⟨?_, fun i hi => ?_, fun i j hi hj hij => ?_⟩
  · rw [List.map_congr_left (g := fun i => Value.slice (R i) (N i) (C i)) fun i hi => by rw [hN i (List.mem_range.1 hi)]]
    exact h.own
  · refine ⟨rfl, ?_⟩
    show w.ownsRow B 3 1 (.slice (R i) (LL.getD i []).length (C i)) (LL.getD i []).length (icells (LL.getD i []))
    rw [hN i hi, hF i hi]
    exact (h.row i hi).2
  · rw [hN i hi, hN j hj]; exact h.apart i j hi hj hij
theorem getD_setI {LL : List (List Int)} {k : Nat} {x : List Int} (hk : k < LL.length) (i : Nat) : (LL.set k x).getD i [] = upN (fun i => LL.getD i []) k x i := by
  simp only [List.getD_eq_getElem?_getD, upN]
  by_cases e : i = k
  · subst e; rw [if_pos rfl, List.getElem?_set_self hk]; rfl
  · rw [if_neg e, List.getElem?_set_ne (fun h => e h.symm)]
theorem rowsL_growI {w w2 : World} {B g c b d k : Nat} {R : Nat → Option Addr} {C : Nat → Nat} {LL : List (List Int)} (h : RowsL w B (.slice (some ⟨g, 0, none⟩) LL.length c) LL R C) (hk : k < LL.length) {x : Int}
    (hg : w.grownBy w2 (Value.slice (R k) (LL.getD k []).length (C k)).ownBlock) (ho : w2.ownsRow B 3 1 (.slice (some ⟨b, 0, none⟩) ((LL.getD k []).length + 1) d) ((LL.getD k []).length + 1) (icells (LL.getD k []) ++ [.int .i64 x]))
    (hat : (Value.slice (R k) (LL.getD k []).length (C k)).ownBlock = some b ∨ b = w.heap.size) :
    RowsL (w2.setCell ⟨g, k, none⟩ (.slice (some ⟨b, 0, none⟩) ((LL.getD k []).length + 1) d)) B (.slice (some ⟨g, 0, none⟩) LL.length c) (LL.set k (LL.getD k [] ++ [x])) (upN R k (some ⟨b, 0, none⟩)) (upN C k d) := by
  have h2 := RowsG.grow h hk hg ho hat
  exact rowsL_ofI h2 (by simp) fun i _ => getD_setI hk i
set_option maxHeartbeats 4000000 in
set_option maxRecDepth 100000 in
theorem implGroupsOfParty_any (p : Int) (l : PL) (A : Option Addr) (c : Nat) (w : World) (hl : l.length ≤ 1048576) (hA : CRead w w.heap.size A (pcells l)) :
    Calls Try.prog 31 #[.agg #[.int .i64 p, .slice A l.length c]] w (GotRowsOk w (resGroupsOfParty p l).1 (resGroupsOfParty p l).2) := by
  have RA : CRead (w.alloc (Obj.cells #[.int .i64 p, .slice A l.length c] 25)) (w.alloc (Obj.cells #[.int .i64 p, .slice A l.length c] 25)).heap.size A (pcells l) := (hA.below (B' := w.heap.size) (by go_grown) (Nat.le_refl _)).more (by go_size)
  cases hf : isFew p l with
  | false =>
    have e : resGroupsOfParty p l = ([], false) := by simp [resGroupsOfParty, hf]
    rw [e]
    have Hf := Lib.hid hf
    clear hf e
    go_enter Try.func31, Try.ntmps31
    go_wp2_with fail
    refine (isColoured_any _ _ _ _ _ hl RA).mono ?_
    rw [Hf.out]
    rintro e w2 ⟨rfl, hb2⟩
    simp only [World.size_alloc] at hb2
    have k2 : Below w.heap.size w w2 := Below.trans (b := _) (by go_grown) (hb2.mono (by omega))
    go_wp2
    go_ret2
    exact ⟨none, 0, _, _, rfl, RowsL.none _ _, k2⟩
  | true =>
    have e : resGroupsOfParty p l = (groupsC (fewestC (adj (otherP p.toNat l)) p.toNat).1, true) := by simp [resGroupsOfParty, hf]
    have hp : isP p l = true := by unfold isFew at hf; simp at hf; exact hf.1
    have hn := isP_range hp
    obtain ⟨n, rfl⟩ : ∃ n : Nat, p = n := ⟨p.toNat, by omega⟩
    rw [e]
    simp only [Int.toNat_natCast]
    have hof : (otherP n l).length ≤ 66 := otherP_few (by omega) l
    have hgood := (fewest_good (adj (otherP n l)) n).1
    have hm2 := (fewest_good (adj (otherP n l)) n).2
    have hql := fewestC_length (adj (otherP n l)) n
    have hfew := fun (A3 : Option Addr) (c3 : Nat) (w3 : World) (h3 : CRead w3 w3.heap.size A3 (pcells (otherP n l))) => firstColouring_any (n := n) (pl := otherP n l) (A0 := A3) (c0 := c3) (by omega) (other_isP hp) (by omega) w3 h3
    obtain ⟨q, hq⟩ : ∃ q, (fewestC (adj (otherP n l)) n).1 = q := ⟨_, rfl⟩
    simp only [hq, hm2] at hfew hgood hql ⊢
    have hul := usedC_le hgood q.length (Nat.le_refl _)
    rw [List.take_length] at hul
    have hglt := fun a ha => goodC_lt (a := a) hgood ha
    have hgr : groupsC q = rowsC q (usedC q) n := by unfold groupsC rowsC; rw [hql]
    obtain ⟨m, hm⟩ : ∃ m, usedC q = m := ⟨_, rfl⟩
    simp only [hm] at hfew hul hglt hgr
    simp only [hql] at hfew
    rw [hgr]
    have Hf := Lib.hid hf
    have Hp := Lib.hid hp
    have Hfew := Lib.hid hfew
    have Hglt := Lib.hid hglt
    obtain ⟨i0, hi, hz0, hz1, hz2⟩ := info_parts Try.infoInt
    obtain ⟨i2, hrk, hx0, hx1, hx2⟩ := info_parts Try.infoRowI
    clear hf hp e hq hm2 hfew hgood hglt hgr hm
    go_enter Try.func31, Try.ntmps31
    go_wp2_with fail
    refine (isColoured_any _ _ _ _ _ hl RA).mono ?_
    rw [Hf.out]
    rintro e w2 ⟨rfl, hb2⟩
    simp only [World.size_alloc] at hb2
    have a0 : w2.cell? ⟨w.heap.size, 0, none⟩ = some (.int .i64 n) := carry hb2 (by simp) (by omega)
    have a1 : w2.cell? ⟨w.heap.size, 1, none⟩ = some (.slice A l.length c) := carry hb2 (by simp) (by omega)
    have k2 : Below w.heap.size w w2 := Below.trans (b := _) (by go_grown) (hb2.mono (by omega))
    clear hb2
    go_wp2_with fail
    refine (other_any n l A c w2 Hp.out ((hA.below k2 (Nat.le_refl _)).more k2.size)).mono ?_
    rintro e w3 ⟨A3, c3, rfl, own3, hb3⟩
    rw [Int.toNat_natCast] at own3
    simp only [Int.toNat_natCast]
    have k3 := k2.trans (hb3.mono k2.size)
    have call := Hfew.out A3 c3 w3 (CRead.of_own own3)
    have Call := Lib.hid call
    have K3 := Lib.hid k3
    clear hb3 k2 a0 a1 call own3 k3 Hfew
    go_wp2_with fail
    refine Call.out.mono ?_
    rintro e w4 ⟨A4, c4, rfl, own4, hb4⟩
    have k4 := K3.out.trans (hb4.mono K3.out.size)
    have rd4 := CRead.of_own own4
    have K4 := Lib.hid k4
    have Rd4 := Lib.hid rd4
    have s4 := k4.size
    clear own4 hb4 Call k4 rd4
    go_wp2_with (at_make; refine wpList_make_full _ rfl _ _ 46 rfl w4.heap.size 22 i2 _ 1 Try.underlying46 hrk hx0 hx1 _ _ _ _ m rfl rfl (by omega) (by omega) (by rw [hx2]; omega) (by unfold maxLen; omega) (Nat.le_refl _) ?_; intro w5 hown5 hgr5)
    have hb5 : Below w4.heap.size w4 w5 := (Below.refl _ _).grown hgr5 (Nat.le_refl _) (by simp)
    rw [show Value.cells (.slice none 0 0) = #[.slice none 0 0] from rfl, made_rows] at hown5
    have G5 : RowsG w5 w4.heap.size (.slice (some ⟨w4.heap.size, 0, none⟩) m m) m (fun _ => none) (fun _ => 0) (fun _ => 0) (fun _ => []) :=
      ⟨hown5, fun i _ => ⟨rfl, World.ownsRow_nil _ _ _ _⟩, fun i j _ _ _ => .inl rfl⟩
    have L5 := rowsL_ofI (LL := rowsC q m 0) G5 (rowsC_len q m 0) (fun i hi => by rw [rowsC_at q 0 hi]; rfl)
    have HL5 := Lib.hid L5
    have HB5 := Lib.hid hb5
    clear hown5 hgr5 G5 hb5 L5
    go_wp2_with fail
    go_loopw [22] (fun i wr => ∃ (a : Nat) (R : Nat → Option Addr) (C : Nat → Nat), a ≤ n ∧ i = .int .i64 a ∧ RowsL wr w4.heap.size (.slice (some ⟨w4.heap.size, 0, none⟩) m m) (rowsC q m a) R C ∧ Below w4.heap.size w4 wr) (fun i _ => n - (intOf i).toNat)
    case atStart => exact ⟨0, _, _, Nat.zero_le _, rfl, HL5.out, HB5.out⟩
    case round =>
      clear HL5 HB5
      obtain ⟨a, R, C, ha, rfl, hG, hb⟩ := hrel
      have hsz := hb.size
      by_cases hlt : a < n
      · have hki : (a : Int) < (n : Int) := by omega
        obtain ⟨x, hx⟩ := getSome q a (by omega)
        have hxD : q.getD a 0 = x := by rw [List.getD_eq_getElem?_getD, hx]; rfl
        obtain ⟨bq, offq, rfl, hbq, u0⟩ := (Rd4.out.below hb (Nat.le_refl _)).int hx
        have hxr := Hglt.out a (by omega)
        rw [hxD] at hxr
        obtain ⟨k, rfl⟩ : ∃ k : Nat, x = k := ⟨x.toNat, by omega⟩
        have hkm : k < m := by omega
        have hkmI : (k : Int) < (m : Int) := by omega
        have hlenR := rowsC_len q m a
        have hnext := rowsC_next (a := a) hkm hxD
        have hle := grpC_len q a k
        have hG' : RowsL wr w4.heap.size (.slice (some ⟨w4.heap.size, 0, none⟩) (rowsC q m a).length m) (rowsC q m a) R C := by rw [hlenR]; exact hG
        have hrow := hG'.row k (by omega)
        have hcell := hG'.own.cellAt k (by omega)
        have hfrz := hG'.own.frozenAt k
        rw [List.getElem?_map, hlenR, List.getElem?_range hkm, Option.map_some] at hcell
        rw [rowsC_at q a hkm] at hrow hcell hnext
        obtain ⟨Rk, hRk⟩ : ∃ Rk, R k = Rk := ⟨_, rfl⟩
        obtain ⟨Ck, hCk⟩ : ∃ Ck, C k = Ck := ⟨_, rfl⟩
        obtain ⟨Lk, hLk⟩ : ∃ Lk, grpC q a k = Lk := ⟨_, rfl⟩
        rw [hRk, hCk, hLk] at hrow hcell
        rw [hLk] at hnext hle
        have hown := hrow.2
        have hne := own_apart hG'.own hown (by decide)
        have HG := Lib.hid hG'
        have Hb := Lib.hid hb
        have HRk := Lib.hid hRk
        have HCk := Lib.hid hCk
        have HLk := Lib.hid ((rowsC_at q a hkm).trans hLk)
        have Hnext := Lib.hid hnext
        have Hne := Lib.hid hne
        have c4w : w4.heap.size < wr.heap.size := World.block_lt_of_cell? wr _ hcell
        have hcA : ∀ o : Obj, (wr.alloc o).cell? ⟨w4.heap.size, k, none⟩ = some (.slice Rk Lk.length Ck) := fun o => (World.cell?_alloc_lt _ _ _ c4w).trans hcell
        have hfA : ∀ o : Obj, (wr.alloc o).frozen? ⟨w4.heap.size, k, none⟩ = false := fun o => (World.frozen?_of_block (a := ⟨w4.heap.size, k, none⟩) (Below.heap_alloc wr o w4.heap.size c4w)).trans hfrz
        clear hG hG' hb hRk hCk hLk hnext hne hrow hx hxD
        have t1 := World.ownsRow.alloc hown (Obj.cells #[.int .i64 a] 3)
        have t2 : Lk.length + 1 ≤ maxLen := by unfold maxLen; omega
        have t3 : (Lk.length + 1) * 8 ≤ 140737488355328 := by omega
        have t4 : w4.heap.size ≤ (wr.alloc (Obj.cells #[.int .i64 a] 3)).heap.size := by simp; omega
        have t5 : (wr.alloc (Obj.cells #[.int .i64 a] 3)).heap.size = wr.heap.size + 1 := by simp
        have t6 := fun o Q K rest a' hgd s x ho hs hx2 h => wpList_append_lies (P := Try.prog) (wr.alloc (Obj.cells #[.int .i64 a] 3)) (ops := K) (rest := rest) (o := o) (a := a') (Q := Q) hgd s x 22 ho w4.heap.size 3 i0 _ 1 8 Try.underlying22 hi hz0 hz1 hz2 rfl (by decide) (.slice Rk Lk.length Ck) Lk.length (icells Lk) hs t1 ⟨wr.heap.size, 0, none⟩ 1 1 [.int .i64 a] hx2 rfl (one_cell (by simp)) (one_one rfl) (by decide) t2 t3 t4 (wr.heap.size + 1) t5 h
        have hn8 : (Value.slice Rk Lk.length Ck).ownBlock ≠ some w4.heap.size := fun e => by
          rcases Hne.out with h | h
          · simp [Value.ownBlock] at h
          · exact h e.symm
        have c4a : w4.heap.size < (wr.alloc (Obj.cells #[.int .i64 a] 3)).heap.size := by simp; omega
        clear t1 t2 t3 t4 t5
        go_wp2_with (at_builtin; refine t6 _ _ _ _ _ rfl _ _ rfl rfl rfl ?_; intro g8 c8 w8 own8 gr8 hat8 hlt8; have p2 := (World.cell?_of_block (a := ⟨w4.heap.size, k, none⟩) (gr8.block w4.heap.size c4a (fun e => hn8 e.symm))).trans (hcA _); have p3 := (World.frozen?_of_block (a := ⟨w4.heap.size, k, none⟩) (gr8.block w4.heap.size c4a (fun e => hn8 e.symm))).trans (hfA _))
        have ch8 := rowsL_growI (k := k) (x := (a : Int)) (b := g8) (d := c8) (HG.out.below ((Below.refl _ _).alloc (Nat.le_refl _) _)) (by rw [hlenR]; exact hkm) (by rw [HRk.out, HLk.out, HCk.out]; exact gr8) (by rw [HLk.out]; exact own8) (by rw [HRk.out, HLk.out, HCk.out]; rcases hat8 with h | h; exact .inl h; exact .inr (by simp; exact h))
        rw [HLk.out, ← Hnext.out, hlenR] at ch8
        have hb8 : Below w4.heap.size w4 (w8.setCell ⟨w4.heap.size, k, none⟩ (.slice (some ⟨g8, 0, none⟩) (Lk.length + 1) c8)) := ((Hb.out.alloc hsz _).grown gr8 (by simp; omega) (fun b hb => (hown.lt b hb).1)).setCell (p := ⟨w4.heap.size, k, none⟩) (Nat.le_refl _) _
        have Ch8 := Lib.hid ch8
        have Hb8 := Lib.hid hb8
        clear ch8 hb8 own8 gr8 hat8 p2 p3
        go_roundw
        case rel => exact ⟨a + 1, _, _, by omega, by go_num, Ch8.out, Hb8.out⟩
        case measure => simp [intOf]; omega
      · have hkl : n = a := by omega
        subst hkl
        have hge : ¬ ((n : Int) < n) := by omega
        have hlenR := rowsC_len q m n
        have HG := Lib.hid hG
        have Hb := Lib.hid (K4.out.trans (hb.mono s4))
        have HG2 := Lib.hid (hG.lower s4)
        clear hG hb
        go_wp2
        go_ret2
        exact ⟨some ⟨w4.heap.size, 0, none⟩, m, R, C, by rw [hlenR]; rfl, by rw [hlenR]; exact HG2.out, Hb.out⟩
end Go.Proofs.Ythddlpghjkiioaa
/-
  HOW MANY COLOURINGS A PARTY HAS: the model's recursion ('grWays'), by its contract.
-/
namespace Go.Proofs.Ythddlpghjkiioaa
open Go.RowKit

/-- a cell stored and put back -/
theorem set_back {w1 w2 : World} {g k : Nat} {cs : Array Value} {t : TypeId} {v old : Value} (h : w1.heap[g]? = some (.cells cs t)) (hk : cs[k]? = some old) (h2 : w2.heap[g]? = (w1.setCell ⟨g, k, none⟩ v).heap[g]?) :
    (w2.setCell ⟨g, k, none⟩ old).heap[g]? = w1.heap[g]? := by
  rw [heap_setCell_same w1 g k cs t v h] at h2
  rw [heap_setCell_same w2 g k _ t old h2, h]
  congr 2
  apply Array.ext_getElem?
  intro i
  by_cases hi : i = k
  · subst hi
    have hlt := (Array.getElem?_eq_some_iff.1 hk).1
    rw [Array.getElem?_setIfInBounds_self_of_lt (by simpa using hlt), hk]
  · rw [Array.getElem?_setIfInBounds_ne (Ne.symm hi), Array.getElem?_setIfInBounds_ne (Ne.symm hi)]
theorem one_built (w : World) (x : Value) (e : TypeId) : (w.alloc (.cells #[x] e)).ownsRow w.heap.size e 1 (.slice (some ⟨w.heap.size, 0, none⟩) 1 1) 1 [x] :=
  World.ownsRow_lit w #[x] 1 (Nat.le_refl _) (by decide) rfl
theorem rowsL_more {w1 w2 : World} {B : Nat} {LL : List (List Int)} {R : Nat → Option Addr} {C : Nat → Nat} {g1 c1 c2 g2 : Nat} {a : Int} (L1 : RowsL w1 B (.slice (some ⟨g1, 0, none⟩) LL.length c1) LL R C) (hB : B ≤ w1.heap.size)
    (gr2 : ((w1.alloc (Obj.cells #[.int .i64 a] 3)).alloc (Obj.cells #[.slice (some ⟨w1.heap.size, 0, none⟩) 1 1] 22)).grownBy w2 (some g1))
    (own2 : w2.ownsRow B 22 1 (.slice (some ⟨g2, 0, none⟩) (LL.length + 1) c2) (LL.length + 1) (((List.range LL.length).map fun i => Value.slice (R i) (LL.getD i []).length (C i)) ++ [.slice (some ⟨w1.heap.size, 0, none⟩) 1 1])) :
    RowsL w2 B (.slice (some ⟨g2, 0, none⟩) (LL.length + 1) c2) (LL ++ [[a]]) (upN R LL.length (some ⟨w1.heap.size, 0, none⟩)) (upN C LL.length 1) := by
  have k1 : Below w1.heap.size w1 ((w1.alloc (Obj.cells #[.int .i64 a] 3)).alloc (Obj.cells #[.slice (some ⟨w1.heap.size, 0, none⟩) 1 1] 22)) := by go_grown
  have ob := one_built w1 (.int .i64 a) 3
  exact RowsL.push (l := [a]) (A := some ⟨w1.heap.size, 0, none⟩) (c := 1) (L1.below k1) ((own_lower ob hB).alloc _) (L1.fresh (own_lies ob) (Nat.le_refl _)) gr2 own2
set_option maxHeartbeats 8000000 in
set_option maxRecDepth 100000 in
theorem grWays_any {n : Nat} (hn : n ≤ 12) {t : Nat → Nat → Bool} {cols : Nat} (hcols : cols ≤ 12) {At : Option Addr} {ct : Nat} {G : Nat → Nat} {Bt : Nat} {wt : World} (tab : TabG wt Bt (.slice At n ct) n n G t) :
    ∀ (k : Nat) (q : List Int) (A : Option Addr) (c : Nat) (R : Nat → Option Addr) (C : Nat → Nat) (B : Nat) (w : World), q.length + k = n → k ≤ 8 → GoodC q → usedC q ≤ cols → Below wt.heap.size wt w → wt.heap.size ≤ B → B ≤ w.heap.size → RowsL w B (.slice A (usedC q) c) (rowsC q (usedC q) q.length) R C → (usedC q = 0 → A = none ∧ c = 0) →
    Calls Try.prog 58 #[.slice At n ct, .slice A (usedC q) c, .int .i64 q.length, .int .i64 cols] w fun e w' => e = .returned (.int .i64 ((wayC t cols k q : Nat) : Int)) ∧ Below w.heap.size w w' := by
  intro k
  induction k with
  | zero =>
    intro q A c R C B w hk _ _ _ _ _ _ _ _
    have hqn : q.length = n := by omega
    rw [show wayC t cols 0 q = 1 from rfl, hqn]
    go_enter Try.func58, Try.ntmps58
    go_wp2
    go_ret
    exact ⟨rfl, Below.refl _ _⟩
  | succ k ih =>
    intro q A c R C B w hk hk8 hgood hu hwt hB hBw hrows hnil
    obtain ⟨a, ha⟩ : ∃ a, q.length = a := ⟨_, rfl⟩
    obtain ⟨u, hud⟩ : ∃ u, usedC q = u := ⟨_, rfl⟩
    have hne : ((a : Int) == (n : Int)) = false := by simp; omega
    obtain ⟨f, hf⟩ : ∃ f : Nat → Nat, (fun c : Nat => if hasTo t (ofTold q) q.length q.length (c : Int) then 0 else wayC t cols k (q ++ [(c : Int)])) = f := ⟨_, rfl⟩
    have hway : wayC t cols (k + 1) q = sumN f u + (if u < cols then (cols - u) * wayC t cols k (q ++ [(u : Int)]) else 0) := by
      rw [← hf, ← hud]; rfl
    have h12 : cols ^ k ≤ 429981696 := Nat.le_trans (Nat.pow_le_pow_left hcols k) (Nat.le_trans (Nat.pow_le_pow_right (by omega) (show k ≤ 8 by omega)) (by decide))
    have hfb : ∀ x, x < u → f x ≤ 429981696 := fun x hx => by
      rw [← hf]
      show (if _ then 0 else _) ≤ _
      split
      · omega
      · exact Nat.le_trans (wayC_le t cols k _ (by rw [used_old (by omega)]; omega)) h12
    have hsum : ∀ x, x ≤ u → sumN f x ≤ x * 429981696 := fun x hx => sumN_le fun c hc => hfb c (by omega)
    have hu12 : u ≤ 12 := by omega
    have huc : u ≤ cols := by omega
    have hqn : ∀ x, x < u → usedC (q ++ [(x : Int)]) = u := fun x hx => by rw [used_old (by omega), hud]
    have hfx : ∀ x, x < u → f x = if hasTo t (ofTold q) a a (x : Int) then 0 else wayC t cols k (q ++ [(x : Int)]) := fun x _ => by rw [← hf, ← ha]
    have hap0 : ∀ x, apartJ t (grpC q a x) a (grpC q a x).length = !hasTo t (ofTold q) a a (x : Int) := fun x => by rw [← ha]; exact apartJ_all t q x
    have hpos : ∀ x, x < u → 0 < (grpC q a x).length := fun x hx => by rw [← ha]; exact grpC_pos hgood (by omega)
    have hset : ∀ x, x < u → rowsC (q ++ [(x : Int)]) u (a + 1) = (rowsC q u a).set x (grpC q a x ++ [(a : Int)]) := fun x hx => by
      have h := rowsC_old (q := q) hx
      rwa [List.length_append, List.length_singleton, ha] at h
    have hgx : ∀ x, x ≤ u → GoodC (q ++ [(x : Int)]) := fun x hx => goodC_snoc hgood (by omega)
    rw [ha, hud] at hrows
    rw [hway, ha, hud]
    rw [hud] at hnil
    obtain ⟨ans, hans⟩ : ∃ ans, sumN f u + (if u < cols then (cols - u) * wayC t cols k (q ++ [(u : Int)]) else 0) = ans := ⟨_, rfl⟩
    rw [hans]
    have Hans := Lib.hid hans
    have Hnil := Lib.hid hnil
    have hnew : u < cols → usedC (q ++ [(u : Int)]) = u + 1 ∧ rowsC (q ++ [(u : Int)]) (u + 1) (a + 1) = rowsC q u a ++ [[(a : Int)]] := fun _ => by
      have h1 := used_new q
      have h2 := rowsC_new hgood
      rw [hud, List.length_append, List.length_singleton, ha] at h2
      rw [hud] at h1
      exact ⟨h1, h2⟩
    have Hnew := Lib.hid hnew
    have hlenR := rowsC_len q u a
    have hrows' : RowsL w B (.slice A (rowsC q u a).length c) (rowsC q u a) R C := by rw [hlenR]; exact hrows
    obtain ⟨gt, rfl⟩ := own_form tab.own (by omega)
    have han : a < n := by omega
    have haI : (a : Int) < (n : Int) := by omega
    obtain ⟨i0, hi, hz0, hz1, hz2⟩ := info_parts Try.infoInt
    obtain ⟨i2, hrk, hx0, hx1, hx2⟩ := info_parts Try.infoRowI
    have HR := Lib.hid hrows'
    have Hfx := Lib.hid hfx
    have Hap0 := Lib.hid hap0
    have Hpos := Lib.hid hpos
    have Hset := Lib.hid hset
    have Hgx := Lib.hid hgx
    have Hqn := Lib.hid hqn
    have Hsum := Lib.hid hsum
    have Hfb := Lib.hid hfb
    have Hgood := Lib.hid hgood
    have Ha := Lib.hid ha
    have Hud := Lib.hid hud
    have Hwt := Lib.hid hwt
    clear hans hnil hnew hrows hrows' hf hfx hap0 hpos hset hgx hqn hsum hfb hway hgood ha hud hu hwt
    go_enter Try.func58, Try.ntmps58
    go_wp2
    go_loopw [9, 21] (fun s i wr => ∃ x : Nat, x ≤ u ∧ i = .int .i64 x ∧ s = .int .i64 ((sumN f x : Nat) : Int) ∧ Below w.heap.size w wr) (fun _ i _ => u - (intOf i).toNat)
    case atStart => exact ⟨0, Nat.zero_le _, rfl, rfl, Below.refl _ _⟩
    case round =>
      obtain ⟨x, hx, rfl, rfl, hb⟩ := hrel
      have hsz := hb.size
      by_cases hlt : x < u
      · have hxi : (x : Int) < (u : Int) := by omega
        obtain ⟨g, rfl⟩ := own_form HR.out.own (by omega)
        have hG := HR.out.below hb
        have hrow := hG.row x (by omega)
        have hcell := hG.own.cellAt x (by omega)
        have hfrz := hG.own.frozenAt x
        rw [List.getElem?_map, hlenR, List.getElem?_range hlt, Option.map_some] at hcell
        rw [rowsC_at q a hlt] at hrow hcell
        obtain ⟨Rx, hRx⟩ : ∃ Rx, R x = Rx := ⟨_, rfl⟩
        obtain ⟨Cx, hCx⟩ : ∃ Cx, C x = Cx := ⟨_, rfl⟩
        have hmem := fun y (hy : y ∈ grpC q a x) => grpC_mem hy
        have hle := grpC_len q a x
        have hp := Hpos.out x hlt
        have hap := Hap0.out x
        have hst := Hset.out x hlt
        obtain ⟨Lx, hLx⟩ : ∃ Lx, grpC q a x = Lx := ⟨_, rfl⟩
        rw [hLx] at hmem hle hp hap hst
        rw [hRx, hCx, hLx] at hrow hcell
        have hown := hrow.2
        have hgl := (own_lt hG.own).2
        obtain ⟨wo, hwo⟩ : ∃ wo, wo = wr := ⟨_, rfl⟩
        subst hwo
        have tabW := tab.below (Hwt.out.trans (hb.mono Hwt.out.size)) (Nat.le_refl _)
        have d0 := tabW.outer han
        have rdx := CRead.of_own hown
        have HG := Lib.hid hG
        have Hb := Lib.hid hb
        have Hown := Lib.hid hown
        have Hrdx := Lib.hid rdx
        have Hmem := Lib.hid hmem
        have Hap := Lib.hid hap
        have Hst := Lib.hid hst
        have HRx := Lib.hid hRx
        have HCx := Lib.hid hCx
        have HLx := Lib.hid hLx
        have Tab := Lib.hid tabW
        clear hG hb hrow hown rdx hmem hap hst hRx hCx hLx tabW
        go_wp2_with fail
        go_loopw [12, 28] (fun ap i wr => ∃ j : Nat, j ≤ Lx.length ∧ i = .int .i64 j ∧ ap = .bool (apartJ t Lx a j) ∧ wr = wo) (fun _ i _ => Lx.length - (intOf i).toNat)
        case atStart => exact ⟨0, Nat.zero_le _, rfl, rfl, rfl⟩
        case round =>
          obtain ⟨j, hj, rfl, rfl, rfl⟩ := hrel
          by_cases hjl : j < Lx.length
          · have hji : (j : Int) < (Lx.length : Int) := by omega
            obtain ⟨y, hy⟩ := getSome Lx j hjl
            have hsucc := apartJ_succ (t := t) (a := a) hy
            obtain ⟨y0, ya, ye⟩ := Hmem.out y (List.mem_of_getElem? hy)
            obtain ⟨b, hbb⟩ : ∃ b : Nat, y.toNat = b := ⟨_, rfl⟩
            rw [hbb] at hsucc ya ye
            obtain ⟨bq, offq, rfl, hbq, u0⟩ := Hrdx.out.int hy
            subst ye
            have d1 := Tab.out.cell han (show b < n by omega)
            have hbI : (b : Int) < (n : Int) := by omega
            have Hsucc := Lib.hid hsucc
            clear hsucc hy hbb y0
            cases hpj : apartJ t Lx a j with
            | false =>
              rw [hpj, Bool.false_and] at Hsucc
              clear hpj
              go_wp2
              go_roundw
              case rel => exact ⟨j + 1, by omega, by go_num, by rw [Hsucc.out], trivial⟩
              case measure => simp [intOf]; omega
            | true =>
              rw [hpj, Bool.true_and] at Hsucc
              clear hpj
              cases htb : t a b with
              | false =>
                rw [htb] at d1 Hsucc
                clear htb
                go_wp2
                go_roundw
                case rel => exact ⟨j + 1, by omega, by go_num, by rw [Hsucc.out]; rfl, trivial⟩
                case measure => simp [intOf]; omega
              | true =>
                rw [htb] at d1 Hsucc
                clear htb
                go_wp2
                go_roundw
                case rel => exact ⟨j + 1, by omega, by go_num, by rw [Hsucc.out]; rfl, trivial⟩
                case measure => simp [intOf]; omega
          · have hje : j = Lx.length := by omega
            subst hje
            have hge : ¬ ((Lx.length : Int) < (Lx.length : Int)) := by omega
            have hfx := Hfx.out x hlt
            rw [Hap.out]
            have hs1 : sumN f (x + 1) = sumN f x + f x := rfl
            cases hh : hasTo t (ofTold q) a a (x : Int) with
            | true =>
              rw [hh, if_pos rfl] at hfx
              have Hs1 := Lib.hid (show sumN f (x + 1) = sumN f x by rw [hs1, hfx, Nat.add_zero])
              simp only [Bool.not_true]
              clear hh hfx hs1
              go_wp2
              go_roundw
              case rel => exact ⟨x + 1, by omega, by go_num, by rw [Hs1.out], Hb.out⟩
              case measure => simp [intOf]; omega
            | false =>
              rw [hh, if_neg (by simp)] at hfx
              rw [hfx] at hs1
              simp only [Bool.not_false]
              have hwl : wayC t cols k (q ++ [(x : Int)]) ≤ 429981696 := by rw [← hfx]; exact Hfb.out x hlt
              have hsb := Hsum.out x (by omega)
              have hsb2 : x * 429981696 ≤ 12 * 429981696 := Nat.mul_le_mul_right _ (by omega)
              obtain ⟨wy, hwy⟩ : ∃ wy, wayC t cols k (q ++ [(x : Int)]) = wy := ⟨_, rfl⟩
              rw [hwy] at hs1 hwl
              obtain ⟨sx, hsx⟩ : ∃ sx, sumN f x = sx := ⟨_, rfl⟩
              rw [hsx] at hs1 hsb ⊢
              have Hs1 := Lib.hid hs1
              have Hwy := Lib.hid hwy
              clear hh hfx hs1 hwy hsx
              go_wp2_with fail
              refine (l1Own_any Lx Rx Cx wr (by omega) hp Hrdx.out).mono ?_
              rintro e w5 ⟨A5, c5, rfl, own5, hb5⟩
              have h5 := hb5.size
              have c5c := carry hb5 hcell hgl
              have f5 := (hb5.frozen (p := ⟨g, x, none⟩) hgl).trans hfrz
              have lie5 := own_lies own5
              have Own5 := Lib.hid own5
              have Hb5 := Lib.hid hb5
              have cA : ∀ o : Obj, (w5.alloc o).cell? ⟨g, x, none⟩ = some (.slice Rx Lx.length Cx) := fun o => (World.cell?_alloc_lt _ _ _ (by show g < w5.heap.size; omega)).trans c5c
              have fA : ∀ o : Obj, (w5.alloc o).frozen? ⟨g, x, none⟩ = false := fun o => (World.frozen?_of_block (a := ⟨g, x, none⟩) (Below.heap_alloc w5 o g (by show g < w5.heap.size; omega))).trans f5
              have tA := fun o Q K rest a' hgd s x' ho hs hx2 h => wpList_append_lies (P := Try.prog) (w5.alloc (Obj.cells #[.int .i64 a] 3)) (ops := K) (rest := rest) (o := o) (a := a') (Q := Q) hgd s x' 22 ho wr.heap.size 3 i0 _ 1 8 Try.underlying22 hi hz0 hz1 hz2 rfl (by decide) (.slice A5 Lx.length c5) Lx.length (icells Lx) hs (Own5.out.alloc _) ⟨w5.heap.size, 0, none⟩ 1 1 [.int .i64 a] hx2 rfl (one_cell (by simp)) (one_one rfl) (by decide) (by unfold maxLen; omega) (by omega) (by simp; omega) (w5.heap.size + 1) (by simp) h
              clear own5 hb5 c5c f5
              go_wp2_with (at_builtin; refine tA _ _ _ _ _ rfl _ _ rfl rfl rfl ?_; intro g6 c6 w6 own6 gr6 hat6 hlt6; have p2 := (World.cell?_of_block (a := ⟨g, x, none⟩) (gr6.block g (by simp; omega) (fun e => by have := (lie5 g e.symm).1; omega))).trans (cA _); have p3 := (World.frozen?_of_block (a := ⟨g, x, none⟩) (gr6.block g (by simp; omega) (fun e => by have := (lie5 g e.symm).1; omega))).trans (fA _))
              have k6 : Below wr.heap.size wr w6 := (Hb5.out.alloc h5 _).grown gr6 (by simp; omega) (fun m hm => (lie5 m hm).1)
              have own6w : w6.ownsRow wr.heap.size 3 1 (.slice (some ⟨g6, 0, none⟩) (Lx ++ [(a : Int)]).length c6) (Lx ++ [(a : Int)]).length (icells (Lx ++ [(a : Int)])) := by
                rw [icells_append, List.length_append]; exact own6
              have hl1 : (Lx ++ [(a : Int)]).length = Lx.length + 1 := by simp
              have G6 := HG.out.below k6
              have hfr := HG.out.fresh (own_lies own6w) (Nat.le_refl _)
              have G7 := RowsG.put G6 (k := x) (by omega) (own_lower own6w (Nat.le_trans hBw hsz)) (fun i hi _ => hfr i hi)
              rw [hl1] at G7
              have L7 := rowsL_ofI (LL := rowsC (q ++ [(x : Int)]) u (a + 1)) G7 (by rw [rowsC_len, hlenR]) (fun i hi => by
                rw [Hst.out, getD_setI (by omega)])
              rw [hlenR] at L7
              have hgB : B ≤ g := (own_lt HG.out.own).1
              have kwt : Below wt.heap.size wt (w6.setCell ⟨g, x, none⟩ (.slice (some ⟨g6, 0, none⟩) (Lx.length + 1) c6)) := ((Hwt.out.trans (Hb.out.mono Hwt.out.size)).trans (k6.mono (Nat.le_trans Hwt.out.size hsz))).setCell (p := ⟨g, x, none⟩) (by show wt.heap.size ≤ g; omega) _
              have hl2 : (q ++ [(x : Int)]).length = a + 1 := by rw [List.length_append, Ha.out]; rfl
              have ihc := ih (q ++ [(x : Int)]) (some ⟨g, 0, none⟩) c (upN R x (some ⟨g6, 0, none⟩)) (upN C x c6) B (w6.setCell ⟨g, x, none⟩ (.slice (some ⟨g6, 0, none⟩) (Lx.length + 1) c6)) (by rw [hl2]; have := Ha.out; omega) (by omega) (Hgx.out x (by omega)) (by rw [Hqn.out x hlt]; omega) kwt hB (by simp; have := k6.size; omega) (by rw [Hqn.out x hlt, hl2]; exact L7) (fun h => by rw [Hqn.out x hlt] at h; omega)
              rw [Hqn.out x hlt, hl2, Hwy.out, show ((a + 1 : Nat) : Int) = (a : Int) + 1 by omega] at ihc
              have s6 := k6.size
              obtain ⟨W7, hW7⟩ : ∃ W7, w6.setCell ⟨g, x, none⟩ (.slice (some ⟨g6, 0, none⟩) (Lx.length + 1) c6) = W7 := ⟨_, rfl⟩
              have z7 : W7.heap.size = w6.heap.size := by rw [← hW7]; simp
              have cell7 : W7.cell? ⟨g, x, none⟩ = some (.slice (some ⟨g6, 0, none⟩) (Lx.length + 1) c6) := by rw [← hW7]; exact World.cell?_setCell_same' _ _ _ (by rw [p2]; rfl)
              have frz7 : W7.frozen? ⟨g, x, none⟩ = false := by rw [← hW7]; simpa using p3
              rw [hW7] at ihc ⊢
              have Ihc := Lib.hid ihc
              have HW7 := Lib.hid hW7
              have K6 := Lib.hid k6
              have P2 := Lib.hid p2
              clear ihc hW7 k6 own6w own6 gr6 hat6 G6 G7 L7 hfr p2 p3 kwt cA fA
              refine Ihc.out.mono ?_
              rintro e w8 ⟨rfl, hb8⟩
              have cell8 := carry hb8 cell7 (by omega)
              have frz8 := (hb8.frozen (p := ⟨g, x, none⟩) (by show g < W7.heap.size; omega)).trans frz7
              have Hb8 := Lib.hid hb8
              clear hb8 cell7 frz7 Ihc
              have back : (w8.setCell ⟨g, x, none⟩ (.slice Rx Lx.length Cx)).heap[g]? = wr.heap[g]? := by
                obtain ⟨_, h⟩ := (HG.out.below K6.out).own
                rcases h with ⟨hv, _⟩ | ⟨g', cap, cur, hv, _, hg6, _⟩
                · cases hv
                · simp only [Value.slice.injEq, Option.some.injEq, Addr.mk.injEq, and_true] at hv
                  obtain ⟨rfl, _⟩ := hv
                  have h1 := set_back (w1 := w6) (w2 := w8) (v := .slice (some ⟨g6, 0, none⟩) (Lx.length + 1) c6) hg6 (old := .slice Rx Lx.length Cx) (k := x) (by rw [← cell_of_row _ _ _ _ _ _ hg6]; exact P2.out) (by rw [HW7.out]; exact Hb8.out.block g (by omega))
                  exact h1.trans (K6.out.block g hgl)
              have k9 : Below wr.heap.size wr (w8.setCell ⟨g, x, none⟩ (.slice Rx Lx.length Cx)) := by
                have k7 : Below 0 wr W7 := by rw [← HW7.out]; exact (K6.out.mono (Nat.zero_le _)).setCell (p := ⟨g, x, none⟩) (Nat.zero_le _) _
                have k8 := (k7.trans (Hb8.out.mono (Nat.zero_le _))).setCell (p := ⟨g, x, none⟩) (Nat.zero_le _) (.slice Rx Lx.length Cx)
                refine ⟨k8.os, k8.tape, k8.output, k8.size, fun j hj => ?_⟩
                by_cases hjg : j = g
                · rw [hjg]; exact back
                · rw [Below.heap_setCell _ _ _ _ (by show j ≠ g; exact hjg), Hb8.out.block j (by omega), ← HW7.out, Below.heap_setCell _ _ _ _ (by show j ≠ g; exact hjg), K6.out.block j hj]
              have Back := Lib.hid (Hb.out.trans (k9.mono hsz))
              clear back k9
              go_wp2
              go_roundw
              case rel => exact ⟨x + 1, by omega, by go_num, by rw [Hs1.out]; push_cast; rfl, Back.out⟩
              case measure => simp [intOf]; omega
      · have hxe : x = u := by omega
        subst hxe
        have hge : ¬ ((x : Int) < (x : Int)) := by omega
        have hsb := Hsum.out x (by omega)
        have hsb2 : x * 429981696 ≤ 12 * 429981696 := Nat.mul_le_mul_right _ (by omega)
        have Hb := Lib.hid hb
        clear hb
        by_cases hlc : x < cols
        · rcases Nat.eq_zero_or_pos x with hx00 | hxp
          · subst hx00
            clear hsb hsb2
            have hsb : sumN f 0 ≤ 0 := Nat.le_refl _
            have hlcI : (0 : Int) < (cols : Int) := by omega
            have hwl : wayC t cols k (q ++ [((0 : Nat) : Int)]) ≤ 429981696 := Nat.le_trans (wayC_le t cols k _ (by rw [(Hnew.out hlc).1]; omega)) h12
            have hans := Hans.out
            rw [if_pos hlc] at hans
            obtain ⟨wy, hwy⟩ : ∃ wy, wayC t cols k (q ++ [((0 : Nat) : Int)]) = wy := ⟨_, rfl⟩
            rw [hwy] at hans hwl
            obtain ⟨sx, hsx⟩ : ∃ sx, sumN f 0 = sx := ⟨_, rfl⟩
            rw [hsx] at hsb hans ⊢
            obtain ⟨dd, hdd⟩ : ∃ dd, cols - 0 = dd := ⟨_, rfl⟩
            rw [hdd] at hans
            have hdd2 : (cols : Int) - (0 : Int) = (dd : Int) := by omega
            have hprod : dd * wy ≤ 12 * 429981696 := Nat.mul_le_mul (by omega) hwl
            obtain ⟨pp, hpp⟩ : ∃ pp, dd * wy = pp := ⟨_, rfl⟩
            rw [hpp] at hans hprod
            have hppI : (dd : Int) * (wy : Int) = (pp : Int) := by rw [← hpp]; push_cast; rfl
            have Hwy := Lib.hid hwy
            have Hfin := Lib.hid (show ((sx : Int) + (pp : Int)) = ((ans : Nat) : Int) by rw [← hans]; push_cast; rfl)
            have HG := Lib.hid (HR.out.below Hb.out)
            have o1 : (wr.alloc (.cells #[] 22)).ownsRow wr.heap.size 22 1 (.slice (some ⟨wr.heap.size, 0, none⟩) 0 0) 0 [] := World.ownsRow_made wr #[] 0 (Nat.le_refl _) (Nat.zero_le _) rfl
            have kX : Below wr.heap.size wr (wr.alloc (.cells #[] 22)) := by go_grown
            have hppJ : (cols : Int) * (wy : Int) = (pp : Int) := by rw [show (cols : Int) = (dd : Int) by omega]; exact hppI
            clear hans hwy hsx hpp hdd
            obtain ⟨rfl, rfl⟩ := Hnil.out rfl
            have hLL : rowsC q 0 a = [] := List.eq_nil_of_length_eq_zero (by omega)
            have hCS : ((List.range (rowsC q 0 a).length).map fun i => Value.slice (R i) ((rowsC q 0 a).getD i []).length (C i)) = [] := by rw [hLL]; rfl
            have HCS := Lib.hid hCS
            have zc : (((wr.alloc (.cells #[] 22)).alloc (Obj.cells #[.int .i64 a] 3)).alloc (Obj.cells #[.slice (some ⟨wr.heap.size + 1, 0, none⟩) 1 1] 22)).cell? ⟨wr.heap.size + 1 + 1, 0, none⟩ = some (.slice (some ⟨wr.heap.size + 1, 0, none⟩) 1 1) := by
              have h := heap_alloc_new ((wr.alloc (.cells #[] 22)).alloc (Obj.cells #[.int .i64 a] 3)) (Obj.cells #[.slice (some ⟨wr.heap.size + 1, 0, none⟩) 1 1] 22)
              rw [World.size_alloc, World.size_alloc] at h
              rw [cell_of_row _ _ _ _ _ _ h]
              rfl
            have zs : (((wr.alloc (.cells #[] 22)).alloc (Obj.cells #[.int .i64 a] 3)).alloc (Obj.cells #[.slice (some ⟨wr.heap.size + 1, 0, none⟩) 1 1] 22)).heap.size = wr.heap.size + 1 + 1 + 1 := by rw [World.size_alloc, World.size_alloc, World.size_alloc]
            have t2 := fun o Q K rest a' hgd s x' ho hs hxx h => wpList_append_lies (P := Try.prog) (((wr.alloc (.cells #[] 22)).alloc (Obj.cells #[.int .i64 a] 3)).alloc (Obj.cells #[.slice (some ⟨wr.heap.size + 1, 0, none⟩) 1 1] 22)) (ops := K) (rest := rest) (o := o) (a := a') (Q := Q) hgd s x' 46 ho wr.heap.size 22 i2 _ 1 24 Try.underlying46 hrk hx0 hx1 hx2 rfl (by decide) (.slice (some ⟨wr.heap.size, 0, none⟩) 0 0) 0 [] hs ((o1.alloc _).alloc _) ⟨wr.heap.size + 1 + 1, 0, none⟩ 1 1 [.slice (some ⟨wr.heap.size + 1, 0, none⟩) 1 1] hxx rfl (one_cell zc) (one_one rfl) (by decide) (by unfold maxLen; omega) (by omega) (by rw [zs]; omega) (wr.heap.size + 1 + 1 + 1) zs h
            go_wp2_with (first
              | (at_builtin; refine wpList_append_own_none rfl _ _ 46 rfl wr.heap.size 22 i2 1 Try.underlying46 hrk (.slice (some ⟨wr.heap.size, 0, none⟩) 0 0) 0 [] rfl o1 rfl ?_)
              | (at_builtin; refine t2 _ _ _ _ _ rfl _ _ rfl rfl rfl ?_; intro g3 c3 w3 own3 gr3 hat3 hlt3)
              | fail)
            obtain ⟨w1, hw1⟩ : ∃ w1, wr.alloc (.cells #[] 22) = w1 := ⟨_, rfl⟩
            have hz1 : w1.heap.size = wr.heap.size + 1 := by rw [← hw1]; simp
            rw [hw1, ← hz1] at gr3
            rw [← hz1] at own3
            rw [hw1] at kX o1
            have hz0 : (wr.alloc (.cells #[] 22)).heap.size = w1.heap.size := by rw [hw1]
            have L1 : RowsL w1 B (.slice (some ⟨wr.heap.size, 0, none⟩) (rowsC q 0 a).length 0) (rowsC q 0 a) R C := ⟨by rw [HCS.out, hlenR]; exact own_lower o1 (Nat.le_trans hBw hsz), fun i hi => ⟨rfl, own_below (HG.out.row i hi).2 kX (Nat.le_refl _)⟩, HG.out.apart⟩
            have L2 := rowsL_more (a := (a : Int)) L1 (Nat.le_trans hBw (Nat.le_trans hsz kX.size)) gr3 (by rw [HCS.out, hlenR]; exact own_lower own3 (Nat.le_trans hBw hsz))
            have kW3 : Below wr.heap.size wr w3 := (((kX.alloc kX.size _).alloc (by have := kX.size; simp; omega) _).grown gr3 (by have := kX.size; simp; omega) (fun m hm => by have hm' := Option.some.inj (show some wr.heap.size = some m from hm); omega))
            have h3s := kW3.size
            have hnw := Hnew.out hlc
            have hl2 : (q ++ [((0 : Nat) : Int)]).length = a + 1 := by rw [List.length_append, Ha.out]; rfl
            have ihc := ih (q ++ [((0 : Nat) : Int)]) (some ⟨g3, 0, none⟩) c3 _ _ B w3 (by rw [hl2]; have := Ha.out; omega) (by omega) (Hgx.out 0 (Nat.le_refl _)) (by rw [hnw.1]; omega) ((Hwt.out.trans (Hb.out.mono Hwt.out.size)).trans (kW3.mono (Nat.le_trans Hwt.out.size hsz))) hB (by omega) (by rw [hnw.1, hl2, hnw.2]; rw [hlenR] at L2; exact L2) (fun h => by rw [hnw.1] at h; omega)
            rw [hnw.1, hl2, Hwy.out, show ((a + 1 : Nat) : Int) = (a : Int) + 1 by omega] at ihc
            have Ihc := Lib.hid ihc
            have KW3 := Lib.hid kW3
            clear ihc kW3 L2 L1 gr3 own3 t2 hat3
            refine Ihc.out.mono ?_
            rintro e w8 ⟨rfl, hb8⟩
            have KF := Lib.hid (Hb.out.trans ((KW3.out.trans (hb8.mono h3s)).mono hsz))
            clear hb8 Ihc
            go_wp2
            go_ret
            exact ⟨by rw [Hfin.out]; rfl, KF.out⟩
          · skip
            have hlcI : (x : Int) < (cols : Int) := by omega
            have hwl : wayC t cols k (q ++ [(x : Int)]) ≤ 429981696 := Nat.le_trans (wayC_le t cols k _ (by rw [(Hnew.out hlc).1]; omega)) h12
            have hans := Hans.out
            rw [if_pos hlc] at hans
            obtain ⟨wy, hwy⟩ : ∃ wy, wayC t cols k (q ++ [(x : Int)]) = wy := ⟨_, rfl⟩
            rw [hwy] at hans hwl
            obtain ⟨sx, hsx⟩ : ∃ sx, sumN f x = sx := ⟨_, rfl⟩
            rw [hsx] at hsb hans ⊢
            obtain ⟨dd, hdd⟩ : ∃ dd, cols - x = dd := ⟨_, rfl⟩
            rw [hdd] at hans
            have hdd2 : (cols : Int) - (x : Int) = (dd : Int) := by omega
            have hprod : dd * wy ≤ 12 * 429981696 := Nat.mul_le_mul (by omega) hwl
            obtain ⟨pp, hpp⟩ : ∃ pp, dd * wy = pp := ⟨_, rfl⟩
            rw [hpp] at hans hprod
            have hppI : (dd : Int) * (wy : Int) = (pp : Int) := by rw [← hpp]; push_cast; rfl
            have Hwy := Lib.hid hwy
            have Hfin := Lib.hid (show ((sx : Int) + (pp : Int)) = ((ans : Nat) : Int) by rw [← hans]; push_cast; rfl)
            have HG := Lib.hid (HR.out.below Hb.out)
            have o1 : (wr.alloc (.cells #[] 22)).ownsRow wr.heap.size 22 1 (.slice (some ⟨wr.heap.size, 0, none⟩) 0 0) 0 [] := World.ownsRow_made wr #[] 0 (Nat.le_refl _) (Nat.zero_le _) rfl
            have kX : Below wr.heap.size wr (wr.alloc (.cells #[] 22)) := by go_grown
            clear hans hwy hsx hpp hdd
            have hxp : 0 < x := hxp
            obtain ⟨g, rfl⟩ := own_form HR.out.own (by omega)
            have hcells := fun j (hj : j < x) => HG.out.own.cellAt j (by omega)
            obtain ⟨CS, hCS⟩ : ∃ CS, ((List.range (rowsC q x a).length).map fun i => Value.slice (R i) ((rowsC q x a).getD i []).length (C i)) = CS := ⟨_, rfl⟩
            rw [hCS] at hcells
            have hcl : CS.length = x := by rw [← hCS]; simp [hlenR]
            have hone : ∀ v ∈ CS, v.oneCell' = true := fun v hv => by
              rw [← hCS] at hv
              obtain ⟨i, _, rfl⟩ := List.mem_map.1 hv
              rfl
            have hgl := (own_lt HG.out.own).2
            have hnews : ∀ j v, CS[j]? = some v → (wr.alloc (.cells #[] 22)).cell? ((⟨g, 0, none⟩ : Addr).add j) = some v := fun j v hj => by
              have hjx : j < x := by rw [← hcl]; exact (List.getElem?_eq_some_iff.1 hj).1
              rw [Go.WideShapes.add_plain, Nat.zero_add]
              refine (World.cell?_alloc_lt _ _ _ (by show g < wr.heap.size; exact hgl)).trans ?_
              rw [hcells j hjx, hj]
            have HCS := Lib.hid hCS
            have t1 := fun o Q K rest a' hgd s x' ho hs hxx h => wpList_append_lies (P := Try.prog) (wr.alloc (.cells #[] 22)) (ops := K) (rest := rest) (o := o) (a := a') (Q := Q) hgd s x' 46 ho wr.heap.size 22 i2 _ 1 24 Try.underlying46 hrk hx0 hx1 hx2 rfl (by decide) (.slice (some ⟨wr.heap.size, 0, none⟩) 0 0) 0 [] hs o1 ⟨g, 0, none⟩ x c CS hxx (by rw [hcl, Nat.mul_one]) hnews hone hxp (by unfold maxLen; omega) (by omega) (by simp) (wr.heap.size + 1) (by simp) h
            have t2 := fun (w1 : World) (g1 c1 : Nat) (own1 : w1.ownsRow wr.heap.size 22 1 (.slice (some ⟨g1, 0, none⟩) x c1) x CS) (hs1 : wr.heap.size ≤ w1.heap.size) o Q K rest a' hgd s x' ho hs hxx h => wpList_append_lies (P := Try.prog) ((w1.alloc (Obj.cells #[.int .i64 a] 3)).alloc (Obj.cells #[.slice (some ⟨w1.heap.size, 0, none⟩) 1 1] 22)) (ops := K) (rest := rest) (o := o) (a := a') (Q := Q) hgd s x' 46 ho wr.heap.size 22 i2 _ 1 24 Try.underlying46 hrk hx0 hx1 hx2 rfl (by decide) (.slice (some ⟨g1, 0, none⟩) x c1) x CS hs ((own1.alloc _).alloc _) ⟨w1.heap.size + 1, 0, none⟩ 1 1 [.slice (some ⟨w1.heap.size, 0, none⟩) 1 1] hxx rfl (one_cell (by simp)) (one_one rfl) (by decide) (by unfold maxLen; omega) (by omega) (by simp; omega) (w1.heap.size + 1 + 1) (by simp) h
            go_wp2_with (first
              | (at_builtin; refine t1 _ _ _ _ _ rfl _ _ rfl rfl rfl ?_; intro g1 c1 w1 own1 gr1 hat1 hlt1; rw [Nat.zero_add, List.nil_append] at own1; rw [Nat.zero_add]; have k1 : Below wr.heap.size wr w1 := kX.grown gr1 (by simp) (fun m hm => by have hm' := Option.some.inj (show some wr.heap.size = some m from hm); omega))
              | (at_builtin; refine t2 w1 g1 c1 own1 k1.size _ _ _ _ _ rfl _ _ rfl rfl rfl ?_; intro g3 c3 w3 own3 gr3 hat3 hlt3)
              | fail)
            have hg1 := (own_lt own1).1
            have L1 : RowsL w1 B (.slice (some ⟨g1, 0, none⟩) (rowsC q x a).length c1) (rowsC q x a) R C := ⟨by rw [HCS.out, hlenR]; exact own_lower own1 (Nat.le_trans hBw hsz), fun i hi => ⟨rfl, own_below (HG.out.row i hi).2 k1 (Nat.le_refl _)⟩, HG.out.apart⟩
            have L2 := rowsL_more (a := (a : Int)) L1 (Nat.le_trans hBw (Nat.le_trans hsz k1.size)) gr3 (by rw [HCS.out, hlenR]; exact own_lower own3 (Nat.le_trans hBw hsz))
            have kW3 : Below wr.heap.size wr w3 := (((k1.alloc k1.size _).alloc (by have := k1.size; simp; omega) _).grown gr3 (by have := k1.size; simp; omega) (fun m hm => by have hm' := Option.some.inj (show some g1 = some m from hm); omega))
            have h3s := kW3.size
            have hnw := Hnew.out hlc
            have hl2 : (q ++ [(x : Int)]).length = a + 1 := by rw [List.length_append, Ha.out]; rfl
            have ihc := ih (q ++ [(x : Int)]) (some ⟨g3, 0, none⟩) c3 _ _ B w3 (by rw [hl2]; have := Ha.out; omega) (by omega) (Hgx.out x (Nat.le_refl _)) (by rw [hnw.1]; omega) ((Hwt.out.trans (Hb.out.mono Hwt.out.size)).trans (kW3.mono (Nat.le_trans Hwt.out.size hsz))) hB (by omega) (by rw [hnw.1, hl2, hnw.2]; rw [hlenR] at L2; exact L2) (fun h => by rw [hnw.1] at h; omega)
            rw [hnw.1, hl2, Hwy.out, show ((a + 1 : Nat) : Int) = (a : Int) + 1 by omega] at ihc
            have Ihc := Lib.hid ihc
            have KW3 := Lib.hid kW3
            clear ihc kW3 L2 L1 gr3 own3 gr1 own1 t1 t2 hnews hone hcells hat1 hat3
            refine Ihc.out.mono ?_
            rintro e w8 ⟨rfl, hb8⟩
            have KF := Lib.hid (Hb.out.trans ((KW3.out.trans (hb8.mono h3s)).mono hsz))
            clear hb8 Ihc
            go_wp2
            go_ret
            exact ⟨by rw [Hfin.out]; rfl, KF.out⟩
        · have hlcI : ¬ (x : Int) < (cols : Int) := by omega
          have hans := Hans.out
          rw [if_neg hlc, Nat.add_zero] at hans
          rw [hans]
          go_wp2
          go_ret
          exact ⟨rfl, Hb.out⟩
end Go.Proofs.Ythddlpghjkiioaa
/-
  HOW MANY COLOURINGS A PARTY HAS: 'CountColourings' of both sides, by their contracts.
-/
namespace Go.Proofs.Ythddlpghjkiioaa
open Go.RowKit Go.Shelf
attribute [local go_sem] Oper.semAt_some

def fewW (p : Int) (l : PL) (m : Int) : Bool := isFew p l && (decide (0 ≤ m) && decide (m ≤ 12))
def resCountColourings (p : Int) (l : PL) (m : Int) : Int × Bool := if fewW p l m then (((wayC (adj l) m.toNat p.toNat [] : Nat) : Int), true) else (0, false)
theorem oper_inW {l n : Nat} {P : Program} {o : Oper} {a : Act} {w : World} {K : Act → World → Prop} {Q : Exit → Act → World → Prop} (hdef : ∀ c, o.op ≠ .defer c) (h : o.wp P a w K Q) : o.wpIn (Fence.wide.inRound l) n P a w K Q := by
  refine ⟨fun _ _ => trivial, ?_⟩
  rw [show (Fence.wide.inRound l).round = some l from rfl, Oper.semAt_some l _ _ hdef]
  unfold Oper.wp at h
  generalize (execOp a.eval o).run P w = r at *
  cases r with
  | ok x w' =>
    cases x <;> simp only [Oper.upon, Oper.uponIn] at h ⊢
    all_goals first
      | exact h
      | exact ⟨fun h0 => by simp [Fence.wide] at h0, (callsIn_wide.2 h).inRound l⟩
      | exact ⟨fun h0 => by simp [Fence.wide] at h0, fun c cs _ => let ⟨v, w', r, s⟩ := h c cs; ⟨v, w', r, stepsIn_wide.2 s⟩⟩
      | exact h.elim
  | halt x w' => cases x <;> simp only [Oper.upon, Oper.uponIn] at h ⊢ <;> exact h
theorem tellAll_le {cols : Nat} (hc : cols ≤ 12) : ∀ {L : List (List Int)}, (∀ r ∈ L, usedC r ≤ 8) → -((L.length : Int) * 429981696) ≤ tellAll cols L ∧ tellAll cols L ≤ (L.length : Int) * 429981696 := by
  intro L
  induction L with
  | nil => intro _; simp [tellAll]
  | cons r L ih =>
    intro h
    have h1 := ih fun x hx => h x (List.mem_cons_of_mem _ hx)
    have h2 := tellI_le cols hc (usedC r) (h r List.mem_cons_self)
    have e : (((r :: L).length : Nat) : Int) * 429981696 = (L.length : Int) * 429981696 + 429981696 := by
      rw [List.length_cons]; push_cast; omega
    rw [e]
    show _ ≤ tellI cols (usedC r) + tellAll cols L ∧ tellI cols (usedC r) + tellAll cols L ≤ _
    omega
theorem growC_small {t : Nat → Nat → Bool} {most n : Nat} (hn : n ≤ 8) {r : List Int} (h : r ∈ growC t most n []) : usedC r ≤ 8 := by
  have h1 := growC_good n [] r h goodC_nil
  have h2 := growC_len t most n [] r h
  have h3 := usedC_le h1 r.length (Nat.le_refl _)
  rw [List.take_length] at h3
  simp only [List.length_nil, Nat.zero_add] at h2
  omega
theorem isFew_parts {p : Int} {l : PL} (h : isFew p l = true) : isP p l = true ∧ p ≤ 8 := by
  unfold isFew at h
  simpa using h
set_option maxHeartbeats 2000000 in
set_option maxRecDepth 100000 in
theorem specCountColourings_any (p : Int) (l : PL) (A : Option Addr) (c : Nat) (m : Int) (w : World) (hl : l.length ≤ 1048576) (hA : CRead w w.heap.size A (pcells l)) :
    Calls Try.prog 26 #[.agg #[.int .i64 p, .slice A l.length c], .int .i64 m] w fun e w' => e = .returned (.tuple #[.int .i64 (resCountColourings p l m).1, .bool (resCountColourings p l m).2]) ∧ Below w.heap.size w w' := by
  have RA : CRead (w.alloc (Obj.cells #[.int .i64 p, .slice A l.length c] 25)) (w.alloc (Obj.cells #[.int .i64 p, .slice A l.length c] 25)).heap.size A (pcells l) := (hA.below (B' := w.heap.size) (by go_grown) (Nat.le_refl _)).more (by go_size)
  cases hf : isFew p l with
  | false =>
    have e : resCountColourings p l m = (0, false) := by simp [resCountColourings, fewW, hf]
    rw [e]
    have Hf := Lib.hid hf
    clear hf e
    go_enter Try.func26, Try.ntmps26
    go_wp2_with fail
    refine (grFew_any _ _ _ _ _ hl RA).mono ?_
    rw [Hf.out]
    rintro e w2 ⟨rfl, hb2⟩
    simp only [World.size_alloc] at hb2
    have k2 : Below w.heap.size w w2 := Below.trans (b := _) (by go_grown) (hb2.mono (by omega))
    go_wp2
    go_ret2
    exact ⟨rfl, k2⟩
  | true =>
    have hp := (isFew_parts hf).1
    have hp8 := (isFew_parts hf).2
    have hn := isP_range hp
    obtain ⟨n, rfl⟩ : ∃ n : Nat, p = n := ⟨p.toNat, by omega⟩
    have Hf := Lib.hid hf
    have Hp := Lib.hid hp
    by_cases hm : 0 ≤ m ∧ m ≤ 12
    · obtain ⟨cols, rfl⟩ : ∃ k : Nat, m = k := ⟨m.toNat, by omega⟩
      have e : resCountColourings n l cols = (((wayC (adj l) cols n [] : Nat) : Int), true) := by
        unfold resCountColourings fewW
        rw [hf, decide_eq_true (by omega), decide_eq_true (by omega)]
        simp
      rw [e]
      clear hf hp e
      go_enter Try.func26, Try.ntmps26
      go_wp2_with fail
      refine (grFew_any _ _ _ _ _ hl RA).mono ?_
      rw [Hf.out]
      rintro e w2 ⟨rfl, hb2⟩
      simp only [World.size_alloc] at hb2
      have a0 : w2.cell? ⟨w.heap.size, 0, none⟩ = some (.int .i64 n) := carry hb2 (by simp) (by omega)
      have a1 : w2.cell? ⟨w.heap.size, 1, none⟩ = some (.slice A l.length c) := carry hb2 (by simp) (by omega)
      have k2 : Below w.heap.size w w2 := Below.trans (b := _) (by go_grown) (hb2.mono (by omega))
      clear hb2
      go_wp2_with fail
      refine (l1In_yes _ _ _ (by omega) (by omega) _).mono ?_
      rintro e w' ⟨rfl, rfl⟩
      go_wp2_with fail
      refine (paTable_any _ _ _ _ _ Hp.out ((hA.below k2 (Nat.le_refl _)).more k2.size)).mono ?_
      rw [Int.toNat_natCast]
      rintro e w3 ⟨A3, c3, G, rfl, tab, hb3⟩
      have k3 := k2.trans (hb3.mono k2.size)
      have g := grWays_any (n := n) (by omega) (cols := cols) (by omega) tab n [] none 0 (fun _ => none) (fun _ => 0) w3.heap.size w3 (by simp) (by omega) goodC_nil (by simp [usedC_nil]) (Below.refl _ _) (Nat.le_refl _) (Nat.le_refl _) (RowsL.none _ _) (fun _ => ⟨rfl, rfl⟩)
      rw [usedC_nil] at g
      have Gg := Lib.hid g
      have K3 := Lib.hid k3
      clear g a0 a1 tab hb3 k2 k3
      go_wp2_with fail
      refine Gg.out.mono ?_
      rintro e w4 ⟨rfl, hb4⟩
      have K4 := Lib.hid (K3.out.trans (hb4.mono K3.out.size))
      clear hb4
      go_wp2
      go_ret2
      exact ⟨rfl, K4.out⟩
    · have e : resCountColourings n l m = (0, false) := by
        unfold resCountColourings fewW
        rw [show (decide (0 ≤ m) && decide (m ≤ 12)) = false by rw [← Bool.decide_and]; exact decide_eq_false hm]
        simp
      rw [e]
      clear hf hp e
      go_enter Try.func26, Try.ntmps26
      go_wp2_with fail
      refine (grFew_any _ _ _ _ _ hl RA).mono ?_
      rw [Hf.out]
      rintro e w2 ⟨rfl, hb2⟩
      simp only [World.size_alloc] at hb2
      have k2 : Below w.heap.size w w2 := Below.trans (b := _) (by go_grown) (hb2.mono (by omega))
      clear hb2
      go_wp2_with fail
      refine (l1In_no _ _ _ (by omega) _).mono ?_
      rintro e w' ⟨rfl, rfl⟩
      go_wp2
      go_ret2
      exact ⟨rfl, k2⟩
end Go.Proofs.Ythddlpghjkiioaa
/-
  HOW MANY COLOURINGS A PARTY HAS: the program's 'CountColourings', by its contract.
-/
namespace Go.Proofs.Ythddlpghjkiioaa
open Go.RowKit Go.Shelf
attribute [local go_sem] Oper.semAt_some

set_option maxHeartbeats 8000000 in
set_option maxRecDepth 100000 in
theorem countYes_any (n : Nat) (l : PL) (A : Option Addr) (c : Nat) (cols : Nat) (w : World) (hf : isFew n l = true) (hcols : cols ≤ 12) (hl : l.length ≤ 1048576) (hA : CRead w w.heap.size A (pcells l)) :
    Calls Try.prog 27 #[.agg #[.int .i64 n, .slice A l.length c], .int .i64 cols] w fun e w' => e = .returned (.tuple #[.int .i64 ((wayC (adj l) cols n [] : Nat) : Int), .bool true]) ∧ Below w.heap.size w w' := by
  have hp := (isFew_parts hf).1
  have hn8 : n ≤ 8 := by have := (isFew_parts hf).2; omega
  obtain ⟨W, hW⟩ : ∃ W, (w.alloc (Obj.cells #[.int .i64 n, .slice A l.length c] 25)).alloc (Obj.cells #[.int .i64 cols] 3) = W := ⟨_, rfl⟩
  have kW : Below w.heap.size w W := by rw [← hW]; go_grown
  have zW : W.heap.size = w.heap.size + 2 := by rw [← hW]; simp
  have bP : W.heap[w.heap.size]? = some (Obj.cells #[.int .i64 n, .slice A l.length c] 25) := by
    rw [← hW]; exact (Below.heap_alloc _ _ _ (by simp)).trans (heap_alloc_new w _)
  have bC : W.heap[w.heap.size + 1]? = some (Obj.cells #[.int .i64 cols] 3) := by
    rw [← hW]; have h := heap_alloc_new (w.alloc (Obj.cells #[.int .i64 n, .slice A l.length c] 25)) (Obj.cells #[.int .i64 cols] 3); rwa [World.size_alloc] at h
  have rA := (hA.below kW (Nat.le_refl _)).more kW.size
  have hg := isColoured_any n l A c W hl rA
  rw [hf] at hg
  have got := fun (X : World) (hX : Below w.heap.size w X) => allColourings_got (most := cols) (A0 := A) (c0 := c) hl hp (by omega) hcols (B0 := w.heap.size) X hX.size (hA.below hX (Nat.le_refl _))
  have hsmall : ∀ r ∈ growC (adj l) cols n [], usedC r ≤ 8 := fun r hr => growC_small hn8 hr
  have hcount := growC_count (adj l) hcols n []
  have htell := tell_ways (adj l) cols n [] (fun x hx => by cases hx) (by simp [usedC_nil])
  rw [usedC_nil, show tellI (cols : Int) 0 = 1 from rfl, Int.one_mul] at htell
  have h12 : 12 ^ n ≤ 429981696 := Nat.le_trans (Nat.pow_le_pow_right (by omega) hn8) (by decide)
  obtain ⟨GR, hGR⟩ : ∃ GR, growC (adj l) cols n [] = GR := ⟨_, rfl⟩
  simp only [hGR] at got hsmall hcount htell
  rw [← htell]
  refine (callsIn_wide (n := 5)).1 ?_
  refine callsIn_of_wp_marks Try.func27 rfl trivial ?_
  simp only [Try.ntmps27, List.size_toArray, List.length_cons, List.length_nil, Nat.reduceAdd, Nat.reduceSub, Array.replicate_succ, Array.replicate_zero, List.push_toArray, List.append_toArray, List.nil_append, List.cons_append]
  refine wpIn_wide.2 ?_
  have Hg := Lib.hid hg
  have Got := Lib.hid got
  have Hsmall := Lib.hid hsmall
  have HW := Lib.hid hW
  have KW := Lib.hid kW
  have BP := Lib.hid bP
  have BC := Lib.hid bC
  have hlenG : GR.length ≤ 429981696 := Nat.le_trans hcount h12
  clear hg got hsmall hW kW bP bC hcount htell hGR hf hp hA rA h12
  have hc0 : ¬ (cols : Int) < 0 := by omega
  have hc1 : ¬ (12 : Int) < (cols : Int) := by omega
  have hc0B : decide ((cols : Int) < 0) = false := decide_eq_false hc0
  have hc1B : decide ((12 : Int) < (cols : Int)) = false := decide_eq_false hc1
  go_wp2_with fail
  rw [HW.out]
  refine Hg.out.mono ?_
  rintro e w2 ⟨rfl, hb2⟩
  have s2 := hb2.size
  have p2 := (hb2.block _ (show w.heap.size < W.heap.size by omega)).trans BP.out
  have q2 := (hb2.block _ (show w.heap.size + 1 < W.heap.size by omega)).trans BC.out
  have x0 : w2.cell? ⟨w.heap.size, 0, none⟩ = some (.int .i64 n) := by rw [cell_of_row _ _ _ _ _ _ p2]; rfl
  have x1 : w2.cell? ⟨w.heap.size, 1, none⟩ = some (.slice A l.length c) := by rw [cell_of_row _ _ _ _ _ _ p2]; rfl
  have x2 : w2.cell? ⟨w.heap.size + 1, 0, none⟩ = some (.int .i64 cols) := by rw [cell_of_row _ _ _ _ _ _ q2]; rfl
  have k2 := KW.out.trans (hb2.mono KW.out.size)
  have K2 := Lib.hid k2
  have b2 : w.heap.size + 2 ≤ w2.heap.size := by omega
  have y0 : ∀ o, (w2.alloc o).cell? ⟨w.heap.size, 0, none⟩ = some (.int .i64 n) := fun o => (World.cell?_alloc_lt _ _ _ (by show w.heap.size < w2.heap.size; omega)).trans x0
  have y1 : ∀ o, (w2.alloc o).cell? ⟨w.heap.size, 1, none⟩ = some (.slice A l.length c) := fun o => (World.cell?_alloc_lt _ _ _ (by show w.heap.size < w2.heap.size; omega)).trans x1
  have y2 : ∀ o, (w2.alloc o).cell? ⟨w.heap.size + 1, 0, none⟩ = some (.int .i64 cols) := fun o => (World.cell?_alloc_lt _ _ _ (by show w.heap.size + 1 < w2.heap.size; omega)).trans x2
  clear hb2 p2 q2 k2 s2
  go_wp2_with fail
  obtain ⟨X0, hX0⟩ : ∃ X0, w2.alloc (Obj.cells #[.int .i64 0] 3) = X0 := ⟨_, rfl⟩
  have kX : Below w2.heap.size w2 X0 := by rw [← hX0]; go_grown
  have sX : X0.heap.size = w2.heap.size + 1 := by rw [← hX0]; simp
  have bN : X0.heap[w2.heap.size]? = some (Obj.cells #[.int .i64 0] 3) := by rw [← hX0]; exact World.alloc_heap_new w2 _
  rw [hX0]
  have KX := Lib.hid kX
  have BN := Lib.hid bN
  clear hX0 kX bN y0 y1 y2
  refine (Got.out X0 (K2.out.trans (KX.out.mono (by omega)))).mono ?_
  rintro e w1 ⟨lb, rfl, g1, z1, hseq⟩
  have s1 := g1.size
  have k1 : Below w2.heap.size w2 w1 := KX.out.trans (g1.mono (by omega))
  have bN1 := (g1.block _ (show w2.heap.size < X0.heap.size by omega)).trans BN.out
  have x2b := carry k1 x2 (by show w.heap.size + 1 < w2.heap.size; omega)
  have Seq1 := Lib.hid hseq
  have BN1 := Lib.hid bN1
  have K1 := Lib.hid k1
  have X2b0 := x2
  have X2c := Lib.hid X2b0
  clear hseq bN1 k1 x0 x1 x2 x2b g1 Got X2b0
  go_wp2_with fail
  have mk1 : Marks [] w1 := Marks.nil _
  refine wp_rangeFunc_asg2 rfl (enters_of Try.func80 (by kernel_rfl) rfl) Seq1.out (fun j hj => by omega) (fun T x args A C h hs => h.stays hs) (fun T x args W h => h.two)
    (fun S pre Y => (∀ j, S j → w1.heap.size ≤ j) ∧ w1.heap.size ≤ Y.heap.size ∧ Below w2.heap.size w2 Y ∧ Y.heap[w2.heap.size]? = some (Obj.cells #[.int .i64 (tellAll cols pre)] 3))
    (fun _ _ _ => False) ?held (fun _ _ _ _ h _ => h.elim) ⟨fun _ h => h.elim, Nat.le_refl _, K1.out, BN1.out⟩ (fun v v' => { tmps := #[.agg #[.int .i64 n, .slice A l.length c], .int .i64 cols, .pointer (some ⟨w.heap.size, 0, none⟩), .pointer (some ⟨w.heap.size + 1, 0, none⟩), .int .i64 0, .bool false, .pointer (some ⟨w2.heap.size, 0, none⟩), undef, v', .agg #[.int .i64 n, .slice A l.length c], .bool true, .bool false, .bool false, .int .i64 cols, .bool false, .bool false, .bool false, .int .i64 cols, .bool false, .bool false, .agg #[.int .i64 n, .slice A l.length c], .int .i64 cols, .func (.func 80) #[] lb, v, v', undef, undef, undef, undef, undef, undef], defers := [] }) ?assign ?body ?done (fun _ _ _ _ _ h _ => h.elim)
  case held =>
    rintro T T' pre A C ⟨a1, a2, a3, a4⟩ hap hT'
    have hn : ¬ T w2.heap.size := fun h => by have := a1 _ h; omega
    exact ⟨fun j hj => (hT' j hj).elim (a1 j) (by omega), Nat.le_trans a2 hap.below.size, a3.trans (hap.below_of (by omega) fun j hj => by have := a1 j hj; omega), (hap.same _ (by omega) hn).trans a4⟩
  case assign =>
    intro l v v' Y K hK
    gi_wp2
    exact hK
  case body =>
    rintro l0 S' S pre x v v' Y ⟨a1, a2, a3, a4⟩ hrd hTS hz hS' hpx
    obtain ⟨Ax, cx, hv, told, hTb, hx100⟩ := hrd
    obtain ⟨rfl, rfl⟩ : v = .slice Ax x.length cx ∧ v' = .int .i64 (usedC x : Nat) := by simpa using hv
    have hxG : x ∈ GR := hpx.subset (by simp)
    have hu8 := Hsmall.out x hxG
    have hpl : (pre ++ [x]).length ≤ GR.length := hpx.length_le
    have hb1 := tellAll_le hcols (L := pre) (fun r hr => Hsmall.out r (hpx.subset (by simp [hr])))
    have hb2 := tellI_le cols hcols (usedC x) hu8
    have hnext : tellAll cols (pre ++ [x]) = tellAll cols pre + tellI cols (usedC x) := by rw [tellAll_append]; show _ + (_ + 0) = _; omega
    rw [List.length_append, List.length_singleton] at hpl
    have hpI : (pre.length : Int) * 429981696 ≤ 429981696 * 429981696 := Int.mul_le_mul_of_nonneg_right (by omega) (by omega)
    obtain ⟨uu, huu⟩ : ∃ uu, usedC x = uu := ⟨_, rfl⟩
    obtain ⟨T, hT⟩ : ∃ T, tellAll cols pre = T := ⟨_, rfl⟩
    obtain ⟨tt, htt⟩ : ∃ tt, tellI cols (usedC x) = tt := ⟨_, rfl⟩
    have htt2 : tellI cols uu = tt := by rw [← huu]; exact htt
    rw [huu] at hu8 ⊢
    rw [hT] at a4 hb1 hnext
    rw [htt] at hb2 hnext
    have hwr : IntKind.i64.wrap (T + tt) = T + tt := by rw [IntKind.wrap_i64]; omega
    have cN := cell_in a4
    have fN := frozen_of_row _ _ 0 _ _ a4
    have cC := carry (a3.trans (Below.refl _ _)) (carry ((Below.refl w2.heap.size w2)) (X2c.out : w2.cell? ⟨w.heap.size + 1, 0, none⟩ = some (.int .i64 cols)) (by show w.heap.size + 1 < w2.heap.size; omega)) (by show w.heap.size + 1 < w2.heap.size; omega)
    have hn : ¬ (S w2.heap.size ∨ (w2.heap.size < w.heap.size ∨ X0.heap.size ≤ w2.heap.size ∧ w2.heap.size < w1.heap.size)) := fun h => by
      rcases h with h | h
      · have := a1 _ h; omega
      · omega
    have kD : Below Y.heap.size Y Y.drew := (Below.refl _ _).drew
    have fin : Stays (fun j => S j ∨ (j < w.heap.size ∨ X0.heap.size ≤ j ∧ j < w1.heap.size)) Y (Y.drew.setCell ⟨w2.heap.size, 0, none⟩ (.int .i64 (T + tt))) ∧ (∀ j, S j → w1.heap.size ≤ j) ∧ w1.heap.size ≤ (Y.drew.setCell ⟨w2.heap.size, 0, none⟩ (.int .i64 (T + tt))).heap.size ∧ Below w2.heap.size w2 (Y.drew.setCell ⟨w2.heap.size, 0, none⟩ (.int .i64 (T + tt))) ∧ (Y.drew.setCell ⟨w2.heap.size, 0, none⟩ (.int .i64 (T + tt))).heap[w2.heap.size]? = some (Obj.cells #[.int .i64 (tellAll cols (pre ++ [x]))] 3) := by
      refine ⟨(Stays.of_below kD).trans (Stays.setCell (p := ⟨w2.heap.size, 0, none⟩) hn _ _), a1, by simpa using a2, (a3.trans (kD.mono (by omega))).setCell (p := ⟨w2.heap.size, 0, none⟩) (Nat.le_refl _) _, ?_⟩
      rw [hnext]
      exact box_set (w := Y.drew) a4
    have Fin := Lib.hid fin
    have Fin2 := Lib.hid (show Stays (fun j => S j ∨ (j < w.heap.size ∨ X0.heap.size ≤ j ∧ j < w1.heap.size)) Y (Y.drew.setCell ⟨w2.heap.size, 0, none⟩ (.int .i64 (IntKind.i64.wrap (T + tt)))) ∧ (∀ j, S j → w1.heap.size ≤ j) ∧ w1.heap.size ≤ (Y.drew.setCell ⟨w2.heap.size, 0, none⟩ (.int .i64 (IntKind.i64.wrap (T + tt)))).heap.size ∧ Below w2.heap.size w2 (Y.drew.setCell ⟨w2.heap.size, 0, none⟩ (.int .i64 (IntKind.i64.wrap (T + tt)))) ∧ (Y.drew.setCell ⟨w2.heap.size, 0, none⟩ (.int .i64 (IntKind.i64.wrap (T + tt)))).heap[w2.heap.size]? = some (Obj.cells #[.int .i64 (tellAll cols (pre ++ [x]))] 3) by rw [hwr]; exact fin)
    clear fin told hTb hv a1 a2 a3 a4 hnext hT htt huu hpx hwr hn kD
    gi_wp2_with fail
    refine wpIn_region_any (by kernel_rfl) ?_
    change wpAnyIn _ _ _ _ _ _ _ _ _ (World.drew _)
    refine wpAnyIn_ready (show Region.ready _ _ _ = [0, 1, 2] from by kernel_rfl) (by simp) ?_
    refine AllReadyIn.cons rfl (fun K hK => ?_) ?_
    · skip
      go_simp
      refine hK _ _ ?_
      clear hK K
      refine wpAnyIn_ready (show Region.ready _ _ _ = [1, 2] from by kernel_rfl) (by simp) ?_
      refine AllReadyIn.cons rfl (fun K hK => ?_) ?_
      · skip
        go_simp
        refine hK _ _ ?_
        clear hK K
        refine wpAnyIn_ready (show Region.ready _ _ _ = [2] from by kernel_rfl) (by simp) ?_
        refine AllReadyIn.cons rfl (fun K hK => ?_) ?_
        · skip
          go_simp
          refine hK _ _ ?_
          clear hK K
          refine wpAnyIn_ready (show Region.ready _ _ _ = [3] from by kernel_rfl) (by simp) ?_
          refine AllReadyIn.cons rfl (fun K hK => ?_) ?_
          · skip
            go_simp
            gi_wp2_with fail
            refine ⟨trivial, (((callsIn_wide (n := 2)).2 (waysToTell_any cols uu Y.drew hcols hu8)).inRound l0).mono ?_⟩
            rintro e wc ⟨rfl, rfl⟩
            refine (show K _ _ from ?_)
            refine hK _ _ ?_
            clear hK K
            refine wpAnyIn_ready (show Region.ready _ _ _ = [4] from by kernel_rfl) (by simp) ?_
            refine AllReadyIn.cons rfl (fun K hK => ?_) ?_
            · skip
              go_simp
              refine hK _ _ ?_
              clear hK K
              refine wpAnyIn_ready (show Region.ready _ _ _ = [5] from by kernel_rfl) (by simp) ?_
              refine AllReadyIn.cons rfl (fun K hK => ?_) ?_
              · skip
                go_simp
                refine hK _ _ ?_
                clear hK K
                refine wpAnyIn_done (by kernel_rfl) ?_ _
                first | exact Fin.out | exact Fin2.out
              exact AllReadyIn.nil
            exact AllReadyIn.nil
          exact AllReadyIn.nil
        exact AllReadyIn.nil
      refine AllReadyIn.cons rfl (fun K hK => ?_) ?_
      · skip
        go_simp
        refine hK _ _ ?_
        clear hK K
        refine wpAnyIn_ready (show Region.ready _ _ _ = [1] from by kernel_rfl) (by simp) ?_
        refine AllReadyIn.cons rfl (fun K hK => ?_) ?_
        · skip
          go_simp
          refine hK _ _ ?_
          clear hK K
          refine wpAnyIn_ready (show Region.ready _ _ _ = [3] from by kernel_rfl) (by simp) ?_
          refine AllReadyIn.cons rfl (fun K hK => ?_) ?_
          · skip
            go_simp
            gi_wp2_with fail
            refine ⟨trivial, (((callsIn_wide (n := 2)).2 (waysToTell_any cols uu Y.drew hcols hu8)).inRound l0).mono ?_⟩
            rintro e wc ⟨rfl, rfl⟩
            refine (show K _ _ from ?_)
            refine hK _ _ ?_
            clear hK K
            refine wpAnyIn_ready (show Region.ready _ _ _ = [4] from by kernel_rfl) (by simp) ?_
            refine AllReadyIn.cons rfl (fun K hK => ?_) ?_
            · skip
              go_simp
              refine hK _ _ ?_
              clear hK K
              refine wpAnyIn_ready (show Region.ready _ _ _ = [5] from by kernel_rfl) (by simp) ?_
              refine AllReadyIn.cons rfl (fun K hK => ?_) ?_
              · skip
                go_simp
                refine hK _ _ ?_
                clear hK K
                refine wpAnyIn_done (by kernel_rfl) ?_ _
                first | exact Fin.out | exact Fin2.out
              exact AllReadyIn.nil
            exact AllReadyIn.nil
          exact AllReadyIn.nil
        exact AllReadyIn.nil
      exact AllReadyIn.nil
    refine AllReadyIn.cons rfl (fun K hK => ?_) ?_
    · skip
      go_simp
      refine hK _ _ ?_
      clear hK K
      refine wpAnyIn_ready (show Region.ready _ _ _ = [0, 2] from by kernel_rfl) (by simp) ?_
      refine AllReadyIn.cons rfl (fun K hK => ?_) ?_
      · skip
        go_simp
        refine hK _ _ ?_
        clear hK K
        refine wpAnyIn_ready (show Region.ready _ _ _ = [2] from by kernel_rfl) (by simp) ?_
        refine AllReadyIn.cons rfl (fun K hK => ?_) ?_
        · skip
          go_simp
          refine hK _ _ ?_
          clear hK K
          refine wpAnyIn_ready (show Region.ready _ _ _ = [3] from by kernel_rfl) (by simp) ?_
          refine AllReadyIn.cons rfl (fun K hK => ?_) ?_
          · skip
            go_simp
            gi_wp2_with fail
            refine ⟨trivial, (((callsIn_wide (n := 2)).2 (waysToTell_any cols uu Y.drew hcols hu8)).inRound l0).mono ?_⟩
            rintro e wc ⟨rfl, rfl⟩
            refine (show K _ _ from ?_)
            refine hK _ _ ?_
            clear hK K
            refine wpAnyIn_ready (show Region.ready _ _ _ = [4] from by kernel_rfl) (by simp) ?_
            refine AllReadyIn.cons rfl (fun K hK => ?_) ?_
            · skip
              go_simp
              refine hK _ _ ?_
              clear hK K
              refine wpAnyIn_ready (show Region.ready _ _ _ = [5] from by kernel_rfl) (by simp) ?_
              refine AllReadyIn.cons rfl (fun K hK => ?_) ?_
              · skip
                go_simp
                refine hK _ _ ?_
                clear hK K
                refine wpAnyIn_done (by kernel_rfl) ?_ _
                first | exact Fin.out | exact Fin2.out
              exact AllReadyIn.nil
            exact AllReadyIn.nil
          exact AllReadyIn.nil
        exact AllReadyIn.nil
      refine AllReadyIn.cons rfl (fun K hK => ?_) ?_
      · skip
        go_simp
        refine hK _ _ ?_
        clear hK K
        refine wpAnyIn_ready (show Region.ready _ _ _ = [0, 3] from by kernel_rfl) (by simp) ?_
        refine AllReadyIn.cons rfl (fun K hK => ?_) ?_
        · skip
          go_simp
          refine hK _ _ ?_
          clear hK K
          refine wpAnyIn_ready (show Region.ready _ _ _ = [3] from by kernel_rfl) (by simp) ?_
          refine AllReadyIn.cons rfl (fun K hK => ?_) ?_
          · skip
            go_simp
            gi_wp2_with fail
            refine ⟨trivial, (((callsIn_wide (n := 2)).2 (waysToTell_any cols uu Y.drew hcols hu8)).inRound l0).mono ?_⟩
            rintro e wc ⟨rfl, rfl⟩
            refine (show K _ _ from ?_)
            refine hK _ _ ?_
            clear hK K
            refine wpAnyIn_ready (show Region.ready _ _ _ = [4] from by kernel_rfl) (by simp) ?_
            refine AllReadyIn.cons rfl (fun K hK => ?_) ?_
            · skip
              go_simp
              refine hK _ _ ?_
              clear hK K
              refine wpAnyIn_ready (show Region.ready _ _ _ = [5] from by kernel_rfl) (by simp) ?_
              refine AllReadyIn.cons rfl (fun K hK => ?_) ?_
              · skip
                go_simp
                refine hK _ _ ?_
                clear hK K
                refine wpAnyIn_done (by kernel_rfl) ?_ _
                first | exact Fin.out | exact Fin2.out
              exact AllReadyIn.nil
            exact AllReadyIn.nil
          exact AllReadyIn.nil
        refine AllReadyIn.cons rfl (fun K hK => ?_) ?_
        · skip
          go_simp
          gi_wp2_with fail
          refine ⟨trivial, (((callsIn_wide (n := 2)).2 (waysToTell_any cols uu Y.drew hcols hu8)).inRound l0).mono ?_⟩
          rintro e wc ⟨rfl, rfl⟩
          refine (show K _ _ from ?_)
          refine hK _ _ ?_
          clear hK K
          refine wpAnyIn_ready (show Region.ready _ _ _ = [0] from by kernel_rfl) (by simp) ?_
          refine AllReadyIn.cons rfl (fun K hK => ?_) ?_
          · skip
            go_simp
            refine hK _ _ ?_
            clear hK K
            refine wpAnyIn_ready (show Region.ready _ _ _ = [4] from by kernel_rfl) (by simp) ?_
            refine AllReadyIn.cons rfl (fun K hK => ?_) ?_
            · skip
              go_simp
              refine hK _ _ ?_
              clear hK K
              refine wpAnyIn_ready (show Region.ready _ _ _ = [5] from by kernel_rfl) (by simp) ?_
              refine AllReadyIn.cons rfl (fun K hK => ?_) ?_
              · skip
                go_simp
                refine hK _ _ ?_
                clear hK K
                refine wpAnyIn_done (by kernel_rfl) ?_ _
                first | exact Fin.out | exact Fin2.out
              exact AllReadyIn.nil
            exact AllReadyIn.nil
          exact AllReadyIn.nil
        exact AllReadyIn.nil
      exact AllReadyIn.nil
    refine AllReadyIn.cons rfl (fun K hK => ?_) ?_
    · skip
      go_simp
      refine hK _ _ ?_
      clear hK K
      refine wpAnyIn_ready (show Region.ready _ _ _ = [0, 1] from by kernel_rfl) (by simp) ?_
      refine AllReadyIn.cons rfl (fun K hK => ?_) ?_
      · skip
        go_simp
        refine hK _ _ ?_
        clear hK K
        refine wpAnyIn_ready (show Region.ready _ _ _ = [1] from by kernel_rfl) (by simp) ?_
        refine AllReadyIn.cons rfl (fun K hK => ?_) ?_
        · skip
          go_simp
          refine hK _ _ ?_
          clear hK K
          refine wpAnyIn_ready (show Region.ready _ _ _ = [3] from by kernel_rfl) (by simp) ?_
          refine AllReadyIn.cons rfl (fun K hK => ?_) ?_
          · skip
            go_simp
            gi_wp2_with fail
            refine ⟨trivial, (((callsIn_wide (n := 2)).2 (waysToTell_any cols uu Y.drew hcols hu8)).inRound l0).mono ?_⟩
            rintro e wc ⟨rfl, rfl⟩
            refine (show K _ _ from ?_)
            refine hK _ _ ?_
            clear hK K
            refine wpAnyIn_ready (show Region.ready _ _ _ = [4] from by kernel_rfl) (by simp) ?_
            refine AllReadyIn.cons rfl (fun K hK => ?_) ?_
            · skip
              go_simp
              refine hK _ _ ?_
              clear hK K
              refine wpAnyIn_ready (show Region.ready _ _ _ = [5] from by kernel_rfl) (by simp) ?_
              refine AllReadyIn.cons rfl (fun K hK => ?_) ?_
              · skip
                go_simp
                refine hK _ _ ?_
                clear hK K
                refine wpAnyIn_done (by kernel_rfl) ?_ _
                first | exact Fin.out | exact Fin2.out
              exact AllReadyIn.nil
            exact AllReadyIn.nil
          exact AllReadyIn.nil
        exact AllReadyIn.nil
      refine AllReadyIn.cons rfl (fun K hK => ?_) ?_
      · skip
        go_simp
        refine hK _ _ ?_
        clear hK K
        refine wpAnyIn_ready (show Region.ready _ _ _ = [0, 3] from by kernel_rfl) (by simp) ?_
        refine AllReadyIn.cons rfl (fun K hK => ?_) ?_
        · skip
          go_simp
          refine hK _ _ ?_
          clear hK K
          refine wpAnyIn_ready (show Region.ready _ _ _ = [3] from by kernel_rfl) (by simp) ?_
          refine AllReadyIn.cons rfl (fun K hK => ?_) ?_
          · skip
            go_simp
            gi_wp2_with fail
            refine ⟨trivial, (((callsIn_wide (n := 2)).2 (waysToTell_any cols uu Y.drew hcols hu8)).inRound l0).mono ?_⟩
            rintro e wc ⟨rfl, rfl⟩
            refine (show K _ _ from ?_)
            refine hK _ _ ?_
            clear hK K
            refine wpAnyIn_ready (show Region.ready _ _ _ = [4] from by kernel_rfl) (by simp) ?_
            refine AllReadyIn.cons rfl (fun K hK => ?_) ?_
            · skip
              go_simp
              refine hK _ _ ?_
              clear hK K
              refine wpAnyIn_ready (show Region.ready _ _ _ = [5] from by kernel_rfl) (by simp) ?_
              refine AllReadyIn.cons rfl (fun K hK => ?_) ?_
              · skip
                go_simp
                refine hK _ _ ?_
                clear hK K
                refine wpAnyIn_done (by kernel_rfl) ?_ _
                first | exact Fin.out | exact Fin2.out
              exact AllReadyIn.nil
            exact AllReadyIn.nil
          exact AllReadyIn.nil
        refine AllReadyIn.cons rfl (fun K hK => ?_) ?_
        · skip
          go_simp
          gi_wp2_with fail
          refine ⟨trivial, (((callsIn_wide (n := 2)).2 (waysToTell_any cols uu Y.drew hcols hu8)).inRound l0).mono ?_⟩
          rintro e wc ⟨rfl, rfl⟩
          refine (show K _ _ from ?_)
          refine hK _ _ ?_
          clear hK K
          refine wpAnyIn_ready (show Region.ready _ _ _ = [0] from by kernel_rfl) (by simp) ?_
          refine AllReadyIn.cons rfl (fun K hK => ?_) ?_
          · skip
            go_simp
            refine hK _ _ ?_
            clear hK K
            refine wpAnyIn_ready (show Region.ready _ _ _ = [4] from by kernel_rfl) (by simp) ?_
            refine AllReadyIn.cons rfl (fun K hK => ?_) ?_
            · skip
              go_simp
              refine hK _ _ ?_
              clear hK K
              refine wpAnyIn_ready (show Region.ready _ _ _ = [5] from by kernel_rfl) (by simp) ?_
              refine AllReadyIn.cons rfl (fun K hK => ?_) ?_
              · skip
                go_simp
                refine hK _ _ ?_
                clear hK K
                refine wpAnyIn_done (by kernel_rfl) ?_ _
                first | exact Fin.out | exact Fin2.out
              exact AllReadyIn.nil
            exact AllReadyIn.nil
          exact AllReadyIn.nil
        exact AllReadyIn.nil
      exact AllReadyIn.nil
    exact AllReadyIn.nil
  case done =>
    rintro S Y ⟨a1, a2, a3, a4⟩ hD
    have cN := cell_in a4
    have mk2 := (Marks.nil Y).cons hD (fun j hj => by obtain ⟨d, hd, _⟩ := hj; cases hd)
    have hge : ∀ j, isMark [{ target := .collected w1.heap.size, args := #[] }] j → w2.heap.size ≤ j := fun j ⟨d, hd, ht⟩ => by
      rcases List.mem_cons.1 hd with rfl | hd
      · simp only [Target.collected.injEq] at ht; omega
      · cases hd
    have KY := Lib.hid (K2.out.trans (a3.mono (by omega)))
    have Mk2 := Lib.hid mk2
    have hYs := a3.size
    clear a3 a4 hD mk2
    go_wp2
    refine leaves_marks _ _ Mk2.out fun W' ha => ⟨.tuple #[.int .i64 (tellAll cols GR), .bool true], ?_, ?_⟩
    · simp [results, Try.results27, go_sem]
    · exact ⟨rfl, KY.out.trans (ha.below_of (by omega) fun j hj => by have := hge _ hj; omega)⟩
set_option maxHeartbeats 2000000 in
set_option maxRecDepth 100000 in
theorem implCountColourings_any (p : Int) (l : PL) (A : Option Addr) (c : Nat) (m : Int) (w : World) (hl : l.length ≤ 1048576) (hA : CRead w w.heap.size A (pcells l)) :
    Calls Try.prog 27 #[.agg #[.int .i64 p, .slice A l.length c], .int .i64 m] w fun e w' => e = .returned (.tuple #[.int .i64 (resCountColourings p l m).1, .bool (resCountColourings p l m).2]) ∧ Below w.heap.size w w' := by
  cases hf : fewW p l m with
  | true =>
    have hff : isFew p l = true := by unfold fewW at hf; simp at hf; exact hf.1
    have hm : 0 ≤ m ∧ m ≤ 12 := by unfold fewW at hf; simp at hf; exact hf.2
    have hn := isP_range (isFew_parts hff).1
    obtain ⟨n, rfl⟩ : ∃ n : Nat, p = n := ⟨p.toNat, by omega⟩
    obtain ⟨cols, rfl⟩ : ∃ k : Nat, m = k := ⟨m.toNat, by omega⟩
    have e : resCountColourings n l cols = (((wayC (adj l) cols n [] : Nat) : Int), true) := by simp [resCountColourings, hf]
    rw [e]
    exact countYes_any n l A c cols w hff (by omega) hl hA
  | false =>
    have e : resCountColourings p l m = (0, false) := by simp [resCountColourings, hf]
    rw [e]
    have kW : Below w.heap.size w ((w.alloc (Obj.cells #[.int .i64 p, .slice A l.length c] 25)).alloc (Obj.cells #[.int .i64 m] 3)) := by go_grown
    have hg := isColoured_any p l A c ((w.alloc (Obj.cells #[.int .i64 p, .slice A l.length c] 25)).alloc (Obj.cells #[.int .i64 m] 3)) hl ((hA.below kW (Nat.le_refl _)).more kW.size)
    have bC := heap_alloc_new (w.alloc (Obj.cells #[.int .i64 p, .slice A l.length c] 25)) (Obj.cells #[.int .i64 m] 3)
    rw [World.size_alloc] at bC
    have zW : ((w.alloc (Obj.cells #[.int .i64 p, .slice A l.length c] 25)).alloc (Obj.cells #[.int .i64 m] 3)).heap.size = w.heap.size + 1 + 1 := by simp
    cases hff : isFew p l with
    | false =>
      rw [hff] at hg
      have Hg := Lib.hid hg
      have KW := Lib.hid kW
      clear hg kW hff bC zW e
      go_enter Try.func27, Try.ntmps27
      go_wp2_with fail
      refine Hg.out.mono ?_
      rintro e w2 ⟨rfl, hb2⟩
      have K2 := Lib.hid (KW.out.trans (hb2.mono KW.out.size))
      clear hb2
      go_wp2
      go_ret2
      exact ⟨rfl, K2.out⟩
    | true =>
      rw [hff] at hg
      have hm : m < 0 ∨ 12 < m := by
        refine Classical.byContradiction fun hn => ?_
        unfold fewW at hf
        rw [hff, decide_eq_true (show 0 ≤ m by omega), decide_eq_true (show m ≤ 12 by omega)] at hf
        cases hf
      have Hg := Lib.hid hg
      have KW := Lib.hid kW
      have BC := Lib.hid bC
      have ZW := Lib.hid zW
      clear hg kW hff bC e hf zW
      by_cases hm0 : m < 0
      · go_enter Try.func27, Try.ntmps27
        go_wp2_with fail
        refine Hg.out.mono ?_
        rintro e w2 ⟨rfl, hb2⟩
        have x2 : w2.cell? ⟨w.heap.size + 1, 0, none⟩ = some (.int .i64 m) := cell_in ((hb2.block _ (by rw [ZW.out]; omega)).trans BC.out)
        have K2 := Lib.hid (KW.out.trans (hb2.mono KW.out.size))
        clear hb2
        go_wp2
        go_ret2
        exact ⟨rfl, K2.out⟩
      · have hm1 : 12 < m := by omega
        go_enter Try.func27, Try.ntmps27
        go_wp2_with fail
        refine Hg.out.mono ?_
        rintro e w2 ⟨rfl, hb2⟩
        have x2 : w2.cell? ⟨w.heap.size + 1, 0, none⟩ = some (.int .i64 m) := cell_in ((hb2.block _ (by rw [ZW.out]; omega)).trans BC.out)
        have K2 := Lib.hid (KW.out.trans (hb2.mono KW.out.size))
        clear hb2
        go_wp2
        go_ret2
        exact ⟨rfl, K2.out⟩
end Go.Proofs.Ythddlpghjkiioaa
/-
  'laws.FnExactCountColourings' returns true, whatever its arguments: out of the contracts of the model's function and of the program's.
-/
namespace Go.Proofs.Ythddlpghjkiioaa
open Go.RowKit

set_option maxHeartbeats 4000000 in
set_option maxRecDepth 100000 in
theorem lawCountColourings_any (p0 : Int) (l0 : PL) (A0 : Option Addr) (c0 : Nat) (i1 : Int) (W : World) (hl0 : l0.length ≤ maxLen) (hA0 : CRead W W.heap.size A0 (pcells l0)) :
    Calls Try.prog 6 #[.agg #[.int .i64 p0, .slice A0 l0.length c0], .int .i64 i1] W fun e w' => e = .returned (.bool true) ∧ Below W.heap.size W w' := by
  have hone : (0 : Int) ≤ 1 ∧ (1 : Int) ≤ 16777216 := by omega
  by_cases hz0 : szI (1048576) l0.length < 0
  · go_enter Try.func6, Try.ntmps6
    go_wp2_with fail
    refine (szParty_any _ _ _ _ _ hl0 (by omega) (by omega) _).mono ?_
    rintro e w1 ⟨rfl, hb1⟩
    simp only [World.size_alloc] at hb1
    have g1 : Below W.heap.size W w1 := Below.trans (b := _) (by go_grown) (hb1.mono (by omega))
    have s1 := hb1.size
    simp only [World.size_alloc] at s1
    have f1_0 : w1.cell? ⟨W.heap.size, 0, none⟩ = some (.int .i64 p0) := carry hb1 (by simp) (by omega)
    have f1_1 : w1.cell? ⟨W.heap.size, 1, none⟩ = some (.slice A0 l0.length c0) := carry hb1 (by simp) (by omega)
    have k1 : Below W.heap.size W w1 := g1
    go_wp2
    go_ret
    exact ⟨rfl, k1⟩
  have hn0 : l0.length ≤ 1048576 := by have h1 := szI_len _ _ hz0; have h2 := szI_hi (1048576) l0.length (by omega); omega
  have hz0' : 0 ≤ szI (1048576) l0.length := by omega
  have hz0'' : szI (1048576) l0.length ≤ 1048576 := by have h2 := szI_hi (1048576) l0.length (by omega); omega
  obtain ⟨⟨rb, rok⟩, hres⟩ : ∃ r, resCountColourings p0 l0 i1 = r := ⟨_, rfl⟩
  have Hres := Lib.hid hres
  clear hres
  go_enter Try.func6, Try.ntmps6
  go_wp2_with fail
  refine (szParty_any _ _ _ _ _ hl0 (by omega) (by omega) _).mono ?_
  rintro e w1 ⟨rfl, hb1⟩
  simp only [World.size_alloc] at hb1
  have g1 : Below W.heap.size W w1 := Below.trans (b := _) (by go_grown) (hb1.mono (by omega))
  have s1 := hb1.size
  simp only [World.size_alloc] at s1
  have f1_0 : w1.cell? ⟨W.heap.size, 0, none⟩ = some (.int .i64 p0) := carry hb1 (by simp) (by omega)
  have f1_1 : w1.cell? ⟨W.heap.size, 1, none⟩ = some (.slice A0 l0.length c0) := carry hb1 (by simp) (by omega)
  have k1 : Below W.heap.size W w1 := g1
  go_wp2_with fail
  refine (toParty_any p0 l0 A0 c0 _ hn0 ((hA0.below k1 (Nat.le_refl _)).more k1.size)).mono ?_
  rintro e w2 ⟨T2, d2, rfl, n2, hb2⟩
  have g2 : Below w1.heap.size w1 w2 := hb2
  have s2 := hb2.size
  have f2_0 := carry g2 f1_0 (by omega)
  have f2_1 := carry g2 f1_1 (by omega)
  have k2 := k1.trans (g2.mono k1.size)
  clear f1_0 f1_1
  have r2 : Lies (.slice T2 l0.length d2) (w1.heap.size) w2.heap.size := own_lies n2
  go_wp2_with fail
  refine (specCountColourings_any p0 l0 _ _ i1 _ hn0 (CRead.of_own n2)).mono ?_
  rw [Hres.out]
  rintro e w3 ⟨rfl, hb3⟩
  have g3 : Below w2.heap.size w2 w3 := hb3
  have s3 := hb3.size
  have f3_0 := carry g3 f2_0 (by omega)
  have f3_1 := carry g3 f2_1 (by omega)
  have o3_0 := own_below n2 g3 (Nat.le_refl _)
  have k3 := k2.trans (g3.mono k2.size)
  clear f2_0 f2_1 n2
  clear o3_0 r2
  go_wp2_with fail
  refine (toParty_any p0 l0 A0 c0 _ hn0 ((hA0.below k3 (Nat.le_refl _)).more k3.size)).mono ?_
  rintro e w4 ⟨T4, d4, rfl, n4, hb4⟩
  have g4 : Below w3.heap.size w3 w4 := hb4
  have s4 := hb4.size
  have f4_0 := carry g4 f3_0 (by omega)
  have f4_1 := carry g4 f3_1 (by omega)
  have k4 := k3.trans (g4.mono k3.size)
  clear f3_0 f3_1
  have r4 : Lies (.slice T4 l0.length d4) (w3.heap.size) w4.heap.size := own_lies n4
  have q5_0 : (w4.alloc (Obj.cells #[.int .i64 p0, .slice T4 l0.length d4] 25)).cell? ⟨W.heap.size, 0, none⟩ = some (.int .i64 p0) := (World.cell?_alloc_lt _ _ _ (show W.heap.size < w4.heap.size by omega)).trans f4_0
  have q5_1 : (w4.alloc (Obj.cells #[.int .i64 p0, .slice T4 l0.length d4] 25)).cell? ⟨W.heap.size, 1, none⟩ = some (.slice A0 l0.length c0) := (World.cell?_alloc_lt _ _ _ (show W.heap.size < w4.heap.size by omega)).trans f4_1
  go_wp2_with fail
  refine (implCountColourings_any p0 l0 _ _ i1 _ hn0 (((CRead.of_own n4).below (B' := w4.heap.size) (by go_grown) (Nat.le_refl _)).more (by go_size))).mono ?_
  rw [Hres.out]
  rintro e w6 ⟨rfl, hb6⟩
  simp only [World.size_alloc] at hb6
  have g6 : Below w4.heap.size w4 w6 := Below.trans (b := _) (by go_grown) (hb6.mono (by omega))
  have s6 := hb6.size
  simp only [World.size_alloc] at s6
  have f6_0 := carry g6 f4_0 (by omega)
  have f6_1 := carry g6 f4_1 (by omega)
  have f6_2 : w6.cell? ⟨w4.heap.size, 0, none⟩ = some (.int .i64 p0) := carry hb6 (by simp) (by omega)
  have f6_3 : w6.cell? ⟨w4.heap.size, 1, none⟩ = some (.slice T4 l0.length d4) := carry hb6 (by simp) (by omega)
  have o6_0 := own_below n4 g6 (Nat.le_refl _)
  have k6 := k4.trans (g6.mono k4.size)
  clear f4_0 f4_1 n4 q5_0 q5_1
  go_wp2
  go_region_held3 (fun w' => w'.cell? ⟨W.heap.size, 0, none⟩ = some (.int .i64 p0) ∧ w'.cell? ⟨W.heap.size, 1, none⟩ = some (.slice A0 l0.length c0) ∧ w'.cell? ⟨w4.heap.size, 0, none⟩ = some (.int .i64 p0) ∧ w'.cell? ⟨w4.heap.size, 1, none⟩ = some (.slice T4 l0.length d4)) (first | exact ⟨f6_0, f6_1, f6_2, f6_3⟩ | exact ⟨f7_0, f7_1, f7_2, f7_3⟩ | exact ⟨f8_0, f8_1, f8_2, f8_3⟩) ((first | (go_at_call 21; refine (toParty_any p0 l0 A0 c0 _ hn0 ((hA0.below k6.drew (Nat.le_refl _)).more k6.size)).mono ?_; rintro e w7 ⟨T7, d7, rfl, n7, hb7⟩; have g7 : Below w6.heap.size w6 w7 := (Below.refl _ _).drew.trans hb7; have s7 := g7.size; have f7_0 := carry g7 f6_0 (by omega); have f7_1 := carry g7 f6_1 (by omega); have f7_2 := carry g7 f6_2 (by omega); have f7_3 := carry g7 f6_3 (by omega); have o7_0 := own_below o6_0 g7 (Nat.le_refl _); have k7 := k6.trans (g7.mono k6.size)) | (go_at_call 14; refine (eqParty_any p0 p0 l0 l0 _ _ _ _ _ hl0 hl0 (CRead.of_own o7_0) (CRead.of_own n7)).mono ?_; rw [decide_eq_true ⟨rfl, rfl⟩]; rintro e w8 ⟨rfl, hb8⟩; have g8 : Below w7.heap.size w7 w8 := hb8; have s8 := g8.size; have f8_0 := carry g8 f7_0 (by omega); have f8_1 := carry g8 f7_1 (by omega); have f8_2 := carry g8 f7_2 (by omega); have f8_3 := carry g8 f7_3 (by omega); have o8_0 := own_below o7_0 g8 (Nat.le_refl _); have k8 := k7.trans (g8.mono k7.size))))
  clear f6_0 f6_1 f6_2 f6_3 o6_0 f7_0 f7_1 f7_2 f7_3 o7_0 n7
  go_wp2
  go_ret
  exact ⟨rfl, k8⟩
end Go.Proofs.Ythddlpghjkiioaa
/-
  THE PROGRAM's HEAD, LOOKED AT ONCE: which make it is, and that a call may enter it. (The head's text is long: the kernel must not read it twice.)
-/
namespace Go.Proofs.Ythddlpghjkiioaa

theorem make_of {P : Program} {rest : List (List Char)} (h : behindMainWord (wordsSigns P.initOrder.toList) = "cut".toList :: rest) : P.make = some .cut := by
  unfold Program.make
  rw [h]
  rfl
theorem strip_cut (rest : List (List Char)) : stripLifts liftWords ("cut".toList :: rest) = ([], "cut".toList :: rest) := rfl
theorem lifts_of {P : Program} {rest : List (List Char)} (h : behindMainWord (wordsSigns P.initOrder.toList) = "cut".toList :: rest) : P.headLifts = [] := by
  unfold Program.headLifts
  rw [h, strip_cut]
  rfl
theorem final_of {P : Program} {rest : List (List Char)} (h : behindMainWord (wordsSigns P.initOrder.toList) = "cut".toList :: rest) : P.liftsFinal = false := by
  unfold Program.liftsFinal
  rw [lifts_of h, h]
  rfl
theorem enter_of {P : Program} {rest : List (List Char)} (h : behindMainWord (wordsSigns P.initOrder.toList) = "cut".toList :: rest) (h1 : P.laysLater = false) (h2 : P.bearsReflect = false) (h3 : P.doorFits [] = true) : P.mayEnter = true := by
  unfold Program.mayEnter
  rw [h]
  show (_ || _ || _) = true
  rw [strip_cut, h1, h2, h3]
  rfl
end Go.Proofs.Ythddlpghjkiioaa
