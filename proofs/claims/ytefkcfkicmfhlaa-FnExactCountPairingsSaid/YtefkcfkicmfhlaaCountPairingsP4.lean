/-
  Texts put together for the claims of 'CountPairings' (pack 4): Of, MatD, MatE, LawCountPairings, Head, Facts.
-/
import Derived.Test.YtefkcfkicmfhlaaCountPairingsP1
import Derived.Test.YtefkcfkicmfhlaaCountPairingsP3
import Derived.Laws.AppendOwnNone
import Derived.BigQuiet
import Derived.Deep.RegionHeld3
import Derived.Test.YtefkcfkicmfhlaaRows
/-
  THE MODEL's PARTY OF A TABLE, by its contract.
-/
namespace Go.Proofs.Ytefkcfkicmfhlaa
open Go.RowKit

def tabP (n : Nat) (t : Nat → Nat → Bool) : PL := (allP n).filter fun q => t q.1.toNat q.2.toNat

/-- 'paOf' in the middle of its loops: the result's box is as it was made, the party's box holds the pairs so far. -/
structure OfRel (w wr : World) (n : Nat) (v : Value) (L : PL) : Prop where
  below : Below w.heap.size w wr
  res : wr.heap[w.heap.size]? = some (.cells #[.int .i64 0, .slice none 0 0] 53 (0, 0))
  box : wr.heap[w.heap.size + 1]? = some (.cells #[.int .i64 n, v] 53 (0, 0))
  own : wr.ownsRow (w.heap.size + 2) 80 2 v L.length (pcells L)
theorem lt_of_heap {w : World} {b : Nat} {o : Obj} (h : w.heap[b]? = some o) : b < w.heap.size := (Array.getElem?_eq_some_iff.1 h).1
theorem OfRel.start (w : World) (n : Nat) : OfRel w ((w.alloc (.cells #[.int .i64 0, .slice none 0 0] 53)).alloc (.cells #[.int .i64 n, .slice none 0 0] 53)) n (.slice none 0 0) [] := by
  refine ⟨by go_grown, ?_, ?_, World.ownsRow_nil _ _ _ _⟩
  · rw [Below.heap_alloc _ _ _ (by simp)]
    exact heap_alloc_new w _
  · have := heap_alloc_new (w.alloc (.cells #[.int .i64 0, .slice none 0 0] 53)) (.cells #[.int .i64 n, .slice none 0 0] 53)
    simpa using this
/-- one pair more -/
theorem OfRel.push {w wr w1 : World} {n : Nat} {v v' : Value} {L : PL} {x y : Int} {o : Obj} (h : OfRel w wr n v L) (hown : w1.ownsRow (w.heap.size + 2) 80 2 v' (L.length + 1) (pcells L ++ [.int .i64 x, .int .i64 y])) (hg : (wr.alloc o).grownBy w1 v.ownBlock) :
    OfRel w (w1.setCell ⟨w.heap.size + 1, 1, none⟩ v') n v' (L ++ [(x, y)]) := by
  have hs := lt_of_heap h.box
  have hb : ∀ k, k < w.heap.size + 2 → w1.heap[k]? = wr.heap[k]? := fun k hk => by
    rw [hg.block k (by simp; omega) (fun e => by have := (h.own.lt k e.symm).1; omega), Below.heap_alloc _ _ _ (by omega)]
  have e1 := (hb (w.heap.size + 1) (by omega)).trans h.box
  refine ⟨?_, ?_, ?_, ?_⟩
  · exact ((h.below.alloc (by omega) o).grown hg (by simp; omega) (fun k hk => by have := (h.own.lt k hk).1; omega)).setCell (p := ⟨w.heap.size + 1, 1, none⟩) (by simp) _
  · rw [heap_setCell_other _ _ _ _ (by simp)]
    exact (hb _ (by omega)).trans h.res
  · exact heap_setCell_same w1 (w.heap.size + 1) 1 _ _ v' e1
  · have e : (L ++ [(x, y)]).length = L.length + 1 := by simp
    rw [e, pcells_append]
    refine hown.kept (row := some (w.heap.size + 1)) ⟨rfl, rfl, rfl, by simp, fun k _ hk => heap_setCell_other _ _ _ _ (fun e => hk (by rw [e]))⟩ ?_
    right
    intro e
    have := (hown.lt _ e).1
    omega
/-- what the walk reads behind an append -/
theorem OfRel.kept {w wr w1 : World} {n : Nat} {v : Value} {L : PL} {o : Obj} (h : OfRel w wr n v L) (hg : (wr.alloc o).grownBy w1 v.ownBlock) :
    w1.cell? ⟨w.heap.size + 1, 1, none⟩ = some v ∧ w1.frozen? ⟨w.heap.size + 1, 1, none⟩ = false ∧ wr.heap.size < w1.heap.size ∧ w.heap.size + 1 < w1.heap.size ∧ w.heap.size < w1.heap.size := by
  have hs := lt_of_heap h.box
  have e1 : w1.heap[w.heap.size + 1]? = some (.cells #[.int .i64 n, v] 53 (0, 0)) := by
    rw [hg.block _ (by simp; omega) (fun e => by have := (h.own.lt _ e.symm).1; omega), Below.heap_alloc _ _ _ (by omega)]
    exact h.box
  have := hg.size
  simp only [World.size_alloc] at this
  exact ⟨by rw [cell_of_row _ _ _ _ _ _ e1]; rfl, frozen_of_row _ _ _ _ _ e1, by omega, by omega, by omega⟩
theorem two_cells {w : World} {g : Nat} {u v : Value} (h : w.cell? ⟨g, 0, none⟩ = some u) (h' : w.cell? ⟨g, 1, none⟩ = some v) : ∀ j x, [u, v][j]? = some x → w.cell? ((⟨g, 0, none⟩ : Addr).add j) = some x := by
  intro j x hx
  match j, hx with
  | 0, hx => simp at hx; subst hx; simpa [Addr.add] using h
  | 1, hx => simp at hx; subst hx; simpa [Addr.add] using h'
theorem two_one {u v : Value} (h : u.oneCell' = true) (h' : v.oneCell' = true) : ∀ x ∈ [u, v], x.oneCell' = true := by
  intro x hx
  simp at hx
  rcases hx with rfl | rfl
  · exact h
  · exact h'
theorem OfRel.cells {w wr : World} {n : Nat} {v : Value} {L : PL} (h : OfRel w wr n v L) : wr.cell? ⟨w.heap.size, 0, none⟩ = some (.int .i64 0) ∧ wr.cell? ⟨w.heap.size, 1, none⟩ = some (.slice none 0 0) ∧
    wr.cell? ⟨w.heap.size + 1, 0, none⟩ = some (.int .i64 n) ∧ wr.cell? ⟨w.heap.size + 1, 1, none⟩ = some v ∧ (∀ j, wr.frozen? ⟨w.heap.size, j, none⟩ = false) ∧ (∀ j, wr.frozen? ⟨w.heap.size + 1, j, none⟩ = false) :=
  ⟨by rw [cell_of_row _ _ _ _ _ _ h.res]; rfl, by rw [cell_of_row _ _ _ _ _ _ h.res]; rfl, by rw [cell_of_row _ _ _ _ _ _ h.box]; rfl, by rw [cell_of_row _ _ _ _ _ _ h.box]; rfl,
    fun j => frozen_of_row _ _ j _ _ h.res, fun j => frozen_of_row _ _ j _ _ h.box⟩

theorem filter_upTo_yes {n a b : Nat} {t : Nat → Nat → Bool} (h : a < b) (ht : t a b = true) : (upTo n a (b + 1)).filter (fun q => t q.1.toNat q.2.toNat) = (upTo n a b).filter (fun q => t q.1.toNat q.2.toNat) ++ [((a : Int), (b : Int))] := by
  rw [upTo_next h, List.filter_append]
  simp [ht]
theorem filter_upTo_no {n a b : Nat} {t : Nat → Nat → Bool} (h : a < b) (ht : t a b = false) : (upTo n a (b + 1)).filter (fun q => t q.1.toNat q.2.toNat) = (upTo n a b).filter (fun q => t q.1.toNat q.2.toNat) := by
  rw [upTo_next h, List.filter_append]
  simp [ht]
theorem upTo_length {n a b : Nat} (ha : a ≤ 12) (hb : b ≤ 13) (hn : n ≤ 12) : (upTo n a b).length ≤ 1000 := by
  unfold upTo rowP
  simp only [List.length_append, List.length_flatMap, List.length_map, List.length_range']
  have h : ∀ l : List Nat, (l.map fun a => n - (a + 1)).sum ≤ l.length * n := by
    intro l
    induction l with
    | nil => simp
    | cons x l ih => simp only [List.map_cons, List.sum_cons, List.length_cons, Nat.add_mul, Nat.one_mul]; omega
  have h1 := h (List.range a)
  rw [List.length_range] at h1
  have h2 : a * n ≤ 12 * 12 := Nat.mul_le_mul ha hn
  omega

end Go.Proofs.Ytefkcfkicmfhlaa
/-
  PAIRINGS: the model's recursion ('taPair', 'taPairs'), by its contract.
-/
namespace Go.Proofs.Ytefkcfkicmfhlaa
open Go.RowKit

theorem own_none2 {w : World} {B : Nat} {e : TypeId} {size m c : Nat} {A : Option Addr} {xs : List Value} (h : w.ownsRow B e size (.slice A m c) m xs) : (A = none ∧ m = 0 ∧ c = 0) ∨ ∃ g, A = some ⟨g, 0, none⟩ := by
  rcases h.2 with ⟨h1, h2⟩ | ⟨g, cap, cur, hv, _⟩
  · simp only [Value.slice.injEq] at h1
    exact .inl ⟨h1.1, h2, h1.2.2⟩
  · simp only [Value.slice.injEq] at hv
    exact .inr ⟨g, hv.1⟩
theorem own_ap {S : Nat → Prop} {w w' : World} {B : Nat} {e : TypeId} {size n : Nat} {v : Value} {xs : List Value} (h : w.ownsRow B e size v n xs) (ha : Apart S w w') (hS : ∀ j, S j → j < B) : w'.ownsRow B e size v n xs := by
  refine ⟨h.1, ?_⟩
  rcases h.2 with h1 | ⟨g, cap, cur, hv, hb, hg, rest⟩
  · exact .inl h1
  · exact .inr ⟨g, cap, cur, hv, hb, (ha.same g (Array.getElem?_eq_some_iff.1 hg).1 (fun hs => by have := hS g hs; omega)).trans hg, rest⟩
theorem Apart.setCell {S : Nat → Prop} {A : World} {p : Addr} (hp : S p.block) (v : Value) : Apart S A (A.setCell p v) :=
  ⟨(Below.refl 0 A).setCell (Nat.zero_le _) v, fun j _ hn => Below.heap_setCell A p v j fun e => hn (e ▸ hp)⟩
theorem dTo_len {t : Nat → Nat → Bool} {n : Nat} (hn : n ≤ 12) (f a : Nat) (told : PL) (S : Nat → Bool) : ∀ j, (dTo t f n a told S j).length ≤ j * 12 ^ f := by
  intro j
  induction j with
  | zero => unfold dTo; simp
  | succ j ih =>
    by_cases h : a < j ∧ t a j = true ∧ S j = true
    · rw [dTo_yes h.1 h.2.1 h.2.2, List.length_append, Nat.succ_mul]
      have := dP_len (t := t) hn f (told ++ [((a : Int), (j : Int))]) (cutQ S ((a : Int), (j : Int)))
      omega
    · have e : dTo t f n a told S (j + 1) = dTo t f n a told S j := by
        unfold dTo
        rw [List.range_succ, List.filter_append]
        have : (decide (a < j) && t a j && S j) = false := by
          by_cases h1 : a < j <;> by_cases h2 : t a j = true <;> by_cases h3 : S j = true <;> simp_all
        simp [this]
      have h0 : 0 < 12 ^ f := Nat.pow_pos (by omega)
      rw [e, Nat.succ_mul]
      omega

/-- the count, the first one and the row of those done -/
structure PairAt (w : World) (n : Nat) (S : Nat → Bool) (gd pc pf : Nat) (cnt : Nat) (fst : PL) (B : Nat) (FA : Option Addr) (fc : Nat) : Prop where
  done : w.rowIs gd 4 n (fun x => .bool (!S x))
  cntc : w.heap[pc]? = some (Obj.cells #[.int .i64 cnt] 3)
  fstc : w.heap[pf]? = some (Obj.cells #[.slice FA fst.length fc] 49)
  row : w.ownsRow B 80 2 (.slice FA fst.length fc) fst.length (pcells fst)
section
variable {w w' : World} {n : Nat} {S S' : Nat → Bool} {gd pc pf cnt : Nat} {fst : PL} {B : Nat} {FA : Option Addr} {fc : Nat}
theorem PairAt.below (h : PairAt w n S gd pc pf cnt fst B FA fc) (hb : Below w.heap.size w w') : PairAt w' n S gd pc pf cnt fst B FA fc :=
  ⟨h.done.of_block (hb.block _ h.done.lt), (hb.block _ (Array.getElem?_eq_some_iff.1 h.cntc).1).trans h.cntc, (hb.block _ (Array.getElem?_eq_some_iff.1 h.fstc).1).trans h.fstc, own_below h.row hb (Nat.le_refl _)⟩
theorem PairAt.congr (h : PairAt w n S gd pc pf cnt fst B FA fc) (e : ∀ x, x < n → S x = S' x) : PairAt w n S' gd pc pf cnt fst B FA fc :=
  ⟨h.done.congr fun x hx => by rw [e x hx], h.cntc, h.fstc, h.row⟩
theorem PairAt.mark (h : PairAt w n S gd pc pf cnt fst B FA fc) (h1 : gd ≠ pc) (h2 : gd ≠ pf) (hB : gd < B) (a : Nat) (v : Bool) :
    PairAt (w.setCell ⟨gd, a, none⟩ (.bool v)) n (fun x => if x = a then !v else S x) gd pc pf cnt fst B FA fc :=
  ⟨(h.done.set a (.bool v)).congr fun x _ => by by_cases e : x = a <;> simp [e], (Below.heap_setCell _ _ _ _ (Ne.symm h1)).trans h.cntc, (Below.heap_setCell _ _ _ _ (Ne.symm h2)).trans h.fstc, own_ap h.row (Apart.setCell (S := fun j => j = gd) rfl _) (fun j hj => by omega)⟩
theorem box_set {w : World} {b : Nat} {v u : Value} {t : TypeId} (h : w.heap[b]? = some (Obj.cells #[v] t)) : (w.setCell ⟨b, 0, none⟩ u).heap[b]? = some (Obj.cells #[u] t) := by
  simp [World.setCell, Array.getElem?_modify, h]
theorem PairAt.counted (h : PairAt w n S gd pc pf cnt fst B FA fc) (h1 : gd ≠ pc) (h3 : pc ≠ pf) (hB : pc < B) : PairAt (w.setCell ⟨pc, 0, none⟩ (.int .i64 ((cnt : Int) + 1))) n S gd pc pf (cnt + 1) fst B FA fc :=
  ⟨h.done.setOther h1 _, by rw [box_set h.cntc]; rfl, (Below.heap_setCell _ _ _ _ (Ne.symm h3)).trans h.fstc, own_ap h.row (Apart.setCell (S := fun j => j = pc) rfl _) (fun j hj => by omega)⟩
theorem PairAt.firsts (h : PairAt w n S gd pc pf cnt fst B FA fc) (h2 : gd ≠ pf) (h3 : pc ≠ pf) (hB : pf < B) {l : PL} {A2 : Option Addr} {c2 : Nat} (ho : w.ownsRow B 80 2 (.slice A2 l.length c2) l.length (pcells l)) :
    PairAt (w.setCell ⟨pf, 0, none⟩ (.slice A2 l.length c2)) n S gd pc pf cnt l B A2 c2 :=
  ⟨h.done.setOther h2 _, (Below.heap_setCell _ _ _ _ h3).trans h.cntc, by rw [box_set h.fstc], own_ap ho (Apart.setCell (S := fun j => j = pf) rfl _) (fun j hj => by omega)⟩
end
theorem cell_in {w : World} {b : Nat} {v : Value} {t : TypeId} (h : w.heap[b]? = some (Obj.cells #[v] t)) : w.cell? ⟨b, 0, none⟩ = some v := by rw [cell_of_row _ _ _ _ _ _ h]; rfl

set_option maxHeartbeats 8000000 in
set_option maxRecDepth 100000 in
theorem taPair_none (n : Nat) (hn : n ≤ 12) (t : Nat → Nat → Bool) (At : Option Addr) (ct cd gd pc pf B : Nat) (_G : Nat → Nat) (hgc : gd ≠ pc) (hgf : gd ≠ pf) (hcf : pc ≠ pf) (_hgB : gd < B) (hcB : pc < B) (hfB : pf < B)
    (f : Nat) (S : Nat → Bool) (told : PL) (A : Option Addr) (c cnt : Nat) (fst : PL) (FA : Option Addr) (fc : Nat) (w : World) (hS : ∀ x, x < n → S x = false) (h24 : told.length ≤ 24) (hcnt : cnt + 1 ≤ 2 ^ 60) (hBw : B ≤ w.heap.size)
    (hP : PairAt w n S gd pc pf cnt fst B FA fc) (own : w.ownsRow B 80 2 (.slice A told.length c) told.length (pcells told)) :
    Calls Try.prog 67 #[.slice At n ct, .slice (some ⟨gd, 0, none⟩) n cd, .slice A told.length c, .pointer (some ⟨pc, 0, none⟩), .pointer (some ⟨pf, 0, none⟩)] w fun e w' =>
      e = .returned (.tuple #[]) ∧ Apart (fun j => j = gd ∨ j = pc ∨ j = pf) w w' ∧ ∃ FA' fc', PairAt w' n S gd pc pf (cnt + (dP t n f told S).length) (firstQ fst cnt (dP t n f told S)) B FA' fc' := by
  obtain ⟨i0, hi, hz0, hz1, hz2⟩ := info_parts Try.infoPair
  rw [dP_none hS]
  have hfirst : firstQ fst cnt [told] = if cnt = 0 then told else fst := rfl
  rw [hfirst]
  simp only [List.length_cons, List.length_nil, Nat.zero_add]
  obtain ⟨F, hF⟩ : ∃ F, (if cnt = 0 then told else fst) = F := ⟨_, rfl⟩
  rw [hF]
  have HF := Lib.hid hF
  have lpc : pc < w.heap.size := by omega
  have lpf : pf < w.heap.size := by omega
  have HS := Lib.hid hS
  have HP := Lib.hid hP
  have Own := Lib.hid own
  have cc := cell_in hP.cntc
  have fcz := frozen_of_row _ _ 0 _ _ hP.cntc
  have hp60 : (2 : Nat) ^ 60 = 1152921504606846976 := by decide
  have ff := cell_in hP.fstc
  have ffz := frozen_of_row _ _ 0 _ _ hP.fstc
  clear hS hP own hfirst hF
  go_enter Try.func67, Try.ntmps67
  go_wp2
  go_loop [10] (fun i => ∃ a : Nat, a ≤ n ∧ i = .int .i64 a) (fun i => n - (intOf i).toNat)
  case atStart => exact ⟨0, Nat.zero_le _, rfl⟩
  case round =>
    obtain ⟨a, ha, rfl⟩ := hrel
    by_cases hlt : a < n
    · have hai : (a : Int) < n := by omega
      have hd := HP.out.done.cell hlt
      rw [HS.out a hlt] at hd
      go_wp2
      go_round
      case rel => exact ⟨a + 1, by omega, by go_num⟩
      case measure => simp [intOf]; omega
    · have hal : a = n := by omega
      subst hal
      have hge : ¬ ((a : Int) < a) := by omega
      have hdd : decide ((a : Int) < a) = false := decide_eq_false hge
      by_cases hc0 : cnt = 0
      · subst hc0
        have hFt : told = F := by rw [← HF.out, if_pos rfl]
        subst hFt
        rcases own_none2 Own.out with ⟨rfl, h0, rfl⟩ | ⟨g, rfl⟩
        · have ht : told = [] := List.eq_nil_of_length_eq_zero h0
          subst ht
          have h1 : (w.alloc (.cells #[] 80)).ownsRow w.heap.size 80 2 (.slice (some ⟨w.heap.size, 0, none⟩) 0 0) 0 [] := World.ownsRow_made w #[] 0 (Nat.le_refl _) (Nat.zero_le _) rfl
          have kX : Below w.heap.size w (w.alloc (.cells #[] 80)) := by go_grown
          have P1 := (HP.out.below kX).firsts hgf hcf hfB (l := []) (own_lower h1 hBw)
          have P2 := P1.counted hgc hcf hcB
          have x1 := cell_in P1.cntc
          have x2 := frozen_of_row _ _ 0 _ _ P1.cntc
          have x3 := cell_in (HP.out.below kX).fstc
          have x4 := frozen_of_row _ _ 0 _ _ (HP.out.below kX).fstc
          have lpc2 : pc < (w.setCell ⟨pf, 0, none⟩ (.slice (some ⟨w.heap.size, 0, none⟩) 0 0)).heap.size := by simp; omega
          have ap := ((Apart.of_below (S := fun j => j = gd ∨ j = pc ∨ j = pf) kX).trans (Apart.setCell (S := fun j => j = gd ∨ j = pc ∨ j = pf) (p := ⟨pf, 0, none⟩) (.inr (.inr rfl)) (.slice (some ⟨w.heap.size, 0, none⟩) 0 0)) (fun j hj => .inl hj)).trans (Apart.setCell (S := fun j => j = gd ∨ j = pc ∨ j = pf) (p := ⟨pc, 0, none⟩) (.inr (.inl rfl)) (.int .i64 (((0 : Nat) : Int) + 1))) (fun j hj => .inl hj)
          have e1 := World.setCell_alloc_past (w := w) (.cells #[] 80) pf 0 (.slice (some ⟨w.heap.size, 0, none⟩) 0 0) lpf
          have e2 := World.setCell_alloc_past (w := w.setCell ⟨pf, 0, none⟩ (.slice (some ⟨w.heap.size, 0, none⟩) 0 0)) (.cells #[] 80) pc 0 (.int .i64 (((0 : Nat) : Int) + 1)) lpc2
          have e3 : ([] : PL).length = 0 := rfl
          rw [e3, e1, e2] at P2
          rw [e1, e2] at ap
          have HP2 := Lib.hid P2
          have Ap := Lib.hid ap
          clear P1 P2 ap e1 e2 e3 lpc2
          go_wp2_with (at_builtin; refine wpList_append_own_none rfl _ _ 49 rfl w.heap.size 80 i0 2 Try.underlying49 hi _ _ _ rfl h1 rfl ?_)
          refine show _ = [] ∧ _ from ⟨rfl, .tuple #[], by simp [results, Try.results67, go_sem], ?_⟩
          exact ⟨rfl, Ap.out, _, _, HP2.out⟩
        · have h1 : (w.alloc (.cells #[] 80)).ownsRow w.heap.size 80 2 (.slice (some ⟨w.heap.size, 0, none⟩) 0 0) 0 [] := World.ownsRow_made w #[] 0 (Nat.le_refl _) (Nat.zero_le _) rfl
          have kX : Below w.heap.size w (w.alloc (.cells #[] 80)) := by go_grown
          have rdX : CRead (w.alloc (.cells #[] 80)) (w.alloc (.cells #[] 80)).heap.size (some ⟨g, 0, none⟩) (pcells told) := (CRead.of_own Own.out).below kX (Nat.le_refl _) |>.more kX.size
          go_wp2_with (at_builtin; refine wpList_append_own _ rfl _ _ 49 rfl w.heap.size 80 i0 _ 2 16 Try.underlying49 hi hz0 hz1 hz2 rfl (by decide) (.slice (some ⟨w.heap.size, 0, none⟩) 0 0) 0 [] rfl h1 ⟨g, 0, none⟩ told.length c (pcells told) rfl (pcells_length told) (read_add_P rdX) (pcells_one _) (by unfold maxLen; omega) (by omega) (by simp) ?_; intro v1 w1 own1 gr1 _; have k1 : Below w.heap.size w w1 := kX.grown gr1 (by simp) (by intro m hm; simp [Value.ownBlock] at hm; omega); obtain ⟨A1, c1, rfl, _⟩ := own_shape own1; simp only [Nat.zero_add, List.nil_append] at own1; have P0 := HP.out.below k1; have x3 := cell_in P0.fstc; have x4 := frozen_of_row _ _ 0 _ _ P0.fstc; have P1 := P0.firsts hgf hcf hfB (own_lower own1 hBw); have x1 := cell_in P1.cntc; have x2 := frozen_of_row _ _ 0 _ _ P1.cntc; have HP2 := Lib.hid (P1.counted hgc hcf hcB); have HK1 := Lib.hid k1; clear P0 P1 own1 gr1 k1)
          refine show _ = [] ∧ _ from ⟨rfl, .tuple #[], by simp [results, Try.results67, go_sem], ?_⟩
          refine ⟨rfl, ?_, _, _, HP2.out⟩
          exact ((Apart.of_below (S := fun j => j = gd ∨ j = pc ∨ j = pf) HK1.out).trans (Apart.setCell (S := fun j => j = gd ∨ j = pc ∨ j = pf) (p := ⟨pf, 0, none⟩) (.inr (.inr rfl)) _) (fun j hj => .inl hj)).trans (Apart.setCell (S := fun j => j = gd ∨ j = pc ∨ j = pf) (p := ⟨pc, 0, none⟩) (.inr (.inl rfl)) _) (fun j hj => .inl hj)
      · have hcb : ((cnt : Int) == 0) = false := by simp; omega
        have hFt : fst = F := by rw [← HF.out, if_neg hc0]
        subst hFt
        have HP2 := Lib.hid (HP.out.counted hgc hcf hcB)
        go_wp2
        refine show _ = [] ∧ _ from ⟨rfl, .tuple #[], by simp [results, Try.results67, go_sem], ?_⟩
        exact ⟨rfl, Apart.setCell (S := fun j => j = gd ∨ j = pc ∨ j = pf) (p := ⟨pc, 0, none⟩) (.inr (.inl rfl)) _, _, _, HP2.out⟩
set_option maxHeartbeats 8000000 in
set_option maxRecDepth 100000 in
theorem taPair_any (n : Nat) (hn : n ≤ 12) (t : Nat → Nat → Bool) (At : Option Addr) (ct cd gd pc pf B : Nat) (G : Nat → Nat) (wt : World) (hgc : gd ≠ pc) (hgf : gd ≠ pf) (hcf : pc ≠ pf) (hgB : gd < B) (hcB : pc < B) (hfB : pf < B)
    (hT : ∀ X : World, Apart (fun j => j = gd ∨ j = pc ∨ j = pf) wt X → ∀ i j, i < n → j < n → ∃ gt, At = some ⟨gt, 0, none⟩ ∧ X.cell? ⟨gt, i, none⟩ = some (.slice (some ⟨G i, 0, none⟩) n n) ∧ X.cell? ⟨G i, j, none⟩ = some (.bool (t i j))) :
    ∀ (f : Nat) (S : Nat → Bool) (told : PL) (A : Option Addr) (c cnt : Nat) (fst : PL) (FA : Option Addr) (fc : Nat) (w : World), cntQ n S 0 ≤ f → told.length + f ≤ 24 → cnt + 12 ^ f ≤ 2 ^ 60 → B ≤ w.heap.size →
    Apart (fun j => j = gd ∨ j = pc ∨ j = pf) wt w → PairAt w n S gd pc pf cnt fst B FA fc → w.ownsRow B 80 2 (.slice A told.length c) told.length (pcells told) →
    Calls Try.prog 67 #[.slice At n ct, .slice (some ⟨gd, 0, none⟩) n cd, .slice A told.length c, .pointer (some ⟨pc, 0, none⟩), .pointer (some ⟨pf, 0, none⟩)] w fun e w' =>
      e = .returned (.tuple #[]) ∧ Apart (fun j => j = gd ∨ j = pc ∨ j = pf) w w' ∧ ∃ FA' fc', PairAt w' n S gd pc pf (cnt + (dP t n f told S).length) (firstQ fst cnt (dP t n f told S)) B FA' fc' := by
  obtain ⟨i0, hi, hz0, hz1, hz2⟩ := info_parts Try.infoPair
  have HT := Lib.hid hT
  clear hT
  intro f
  induction f with
  | zero =>
    intro S told A c cnt fst FA fc w hcq h24 hcnt hBw _ hP own
    exact taPair_none n hn t At ct cd gd pc pf B G hgc hgf hcf hgB hcB hfB 0 S told A c cnt fst FA fc w (cntQ_none (by omega)) (by omega) (by simpa using hcnt) hBw hP own
  | succ f ih =>
    intro S told A c cnt fst FA fc w hcq h24 hcnt hBw hap hP own
    have h0 : 0 < 12 ^ f := Nat.pow_pos (by omega)
    by_cases hz : cntQ n S 0 = 0
    · exact taPair_none n hn t At ct cd gd pc pf B G hgc hgf hcf hgB hcB hfB (f + 1) S told A c cnt fst FA fc w (cntQ_none hz) (by omega) (by rw [Nat.pow_succ] at hcnt; omega) hBw hP own
    obtain ⟨a, hleast, han, hSa, hbef⟩ := leastQ_some (n := n) (S := S) (by omega)
    rw [dTo_all hleast]
    have lpc : pc < w.heap.size := by omega
    have lpf : pf < w.heap.size := by omega
    have lgd : gd < w.heap.size := by omega
    obtain ⟨Sa, hSadef⟩ : ∃ Sa : Nat → Bool, Sa = fun x => if x = a then !true else S x := ⟨_, rfl⟩
    have P1 := hP.mark hgc hgf hgB a true
    rw [← hSadef] at P1
    have ap1 : Apart (fun j => j = gd ∨ j = pc ∨ j = pf) w (w.setCell ⟨gd, a, none⟩ (.bool true)) := Apart.setCell (p := ⟨gd, a, none⟩) (.inl rfl) _
    have HP := Lib.hid hP
    have HP1 := Lib.hid P1
    have HAp1 := Lib.hid ap1
    have Hap := Lib.hid hap
    have Own := Lib.hid own
    have Hbef := Lib.hid hbef
    have HSa := Lib.hid hSa
    have HSd := Lib.hid hSadef
    have IH := Lib.hid ih
    have Hcnt := Lib.hid hcnt
    have Hcq := Lib.hid hcq
    have hsz1 : (w.setCell ⟨gd, a, none⟩ (.bool true)).heap.size = w.heap.size := by simp
    obtain ⟨X1, hX1⟩ : ∃ X1, w.setCell ⟨gd, a, none⟩ (.bool true) = X1 := ⟨_, rfl⟩
    rw [hX1] at HP1 HAp1 hsz1
    have HX1 := Lib.hid hX1
    clear hP P1 ap1 hap own hbef hSa hSadef ih hcnt hcq hX1
    go_enter Try.func67, Try.ntmps67
    go_wp2
    go_loop [10] (fun i => ∃ a' : Nat, a' ≤ a ∧ i = .int .i64 a') (fun i => n - (intOf i).toNat)
    case atStart => exact ⟨0, Nat.zero_le _, rfl⟩
    case round =>
      obtain ⟨a', ha', rfl⟩ := hrel
      by_cases hlt : a' < a
      · have hai : (a' : Int) < n := by omega
        have hd := HP.out.done.cell (i := a') (by omega)
        rw [Hbef.out a' hlt] at hd
        go_wp2
        go_round
        case rel => exact ⟨a' + 1, by omega, by go_num⟩
        case measure => simp [intOf]; omega
      · have hal : a' = a := by omega
        subst hal
        have hai : (a' : Int) < n := by omega
        have hd := HP.out.done.cell han
        rw [HSa.out] at hd
        have hne : ((a' : Int) == (n : Int)) = false := by simp; omega
        have hfz := HP.out.done.frozen a'
        go_wp2_with fail
        rw [HX1.out]
        go_loopw [11] (fun i wr => ∃ (b cnt' : Nat) (fst' : PL) (FA' : Option Addr) (fc' : Nat), a' + 1 ≤ b ∧ b ≤ n ∧ i = .int .i64 b ∧ Apart (fun j => j = gd ∨ j = pc ∨ j = pf) w wr ∧ PairAt wr n Sa gd pc pf cnt' fst' B FA' fc' ∧ cnt' = cnt + (dTo t f n a' told S b).length ∧ fst' = firstQ fst cnt (dTo t f n a' told S b)) (fun i _ => n - (intOf i).toNat)
        case atStart => exact ⟨a' + 1, cnt, fst, FA, fc, Nat.le_refl _, by omega, by go_num, HAp1.out, HP1.out, by rw [dTo_start]; rfl, by rw [dTo_start, firstQ_nil]⟩
        case round =>
          obtain ⟨b, cnt', fst', FA', fc', hab, hbn, rfl, apr, Pr, hC, hF⟩ := hrel
          have HC := Lib.hid hC
          have HF := Lib.hid hF
          have HPr := Lib.hid Pr
          have Apr := Lib.hid apr
          have lw := apr.below.size
          have ownr := own_ap Own.out apr (fun j hj => by omega)
          clear hC hF Pr apr hd hfz
          by_cases hlt : b < n
          · have hbi : (b : Int) < n := by omega
            obtain ⟨gt, hAt, t0, t1⟩ := HT.out wr (Hap.out.trans Apr.out (fun j hj => .inl hj)) a' b han hlt
            subst hAt
            have hdb := HPr.out.done.cell hlt
            have hSab : Sa b = S b := by rw [HSd.out]; simp only; rw [if_neg (by omega)]
            rw [hSab] at hdb
            cases htab : t a' b with
            | false =>
              rw [htab] at t1
              have Hno := Lib.hid (dTo_no (t := t) (f := f) (n := n) (a := a') (told := told) (S := S) (j := b) (by rw [htab]; rfl))
              clear htab hdb
              go_wp2
              go_roundw
              case rel => exact ⟨b + 1, cnt', fst', FA', fc', by omega, by omega, by go_num, Apr.out, HPr.out, by rw [Hno.out]; exact HC.out, by rw [Hno.out]; exact HF.out⟩
              case measure => simp [intOf]; omega
            | true =>
              rw [htab] at t1
              cases hSb : S b with
              | false =>
                rw [hSb] at hdb
                have Hno := Lib.hid (dTo_no (t := t) (f := f) (n := n) (a := a') (told := told) (S := S) (j := b) (by rw [hSb, Bool.and_false]))
                clear htab hSb
                go_wp2
                go_roundw
                case rel => exact ⟨b + 1, cnt', fst', FA', fc', by omega, by omega, by go_num, Apr.out, HPr.out, by rw [Hno.out]; exact HC.out, by rw [Hno.out]; exact HF.out⟩
                case measure => simp [intOf]; omega
              | true =>
                rw [hSb] at hdb
                have HSb := Lib.hid hSb
                have Hyes := Lib.hid (dTo_yes (f := f) (n := n) (told := told) (show a' < b by omega) htab hSb)
                have hfb := HPr.out.done.frozen b
                have hcut : cntQ n (cutQ S ((a' : Int), (b : Int))) 0 + 2 = cntQ n S 0 := cntQ_cut (by simp) (by simp; omega) (by simp; omega) (by unfold hasQ; simp only [Int.toNat_natCast, HSa.out, hSb]; rfl)
                have hdl := dTo_len (t := t) hn f a' told S b
                have hbm : b * 12 ^ f + 12 ^ f ≤ 12 * 12 ^ f := by
                  rw [← Nat.succ_mul]
                  exact Nat.mul_le_mul_right _ (by omega)
                have hcn := Hcnt.out
                rw [Nat.pow_succ, Nat.mul_comm] at hcn
                have hcc := HC.out
                have hcq := Hcq.out
                have P2 := (HPr.out.mark hgc hgf hgB b true).congr (S' := cutQ S ((a' : Int), (b : Int))) (fun x hx => by
                  rw [HSd.out]
                  simp only [cutQ_at]
                  by_cases e1 : x = b
                  · subst e1; simp
                  · rw [if_neg e1]
                    by_cases e2 : x = a'
                    · subst e2; simp
                    · rw [if_neg e2]; simp [e1, e2])
                have ap2 : Apart (fun j => j = gd ∨ j = pc ∨ j = pf) wr (wr.setCell ⟨gd, b, none⟩ (.bool true)) := Apart.setCell (p := ⟨gd, b, none⟩) (.inl rfl) _
                have hsX : (wr.setCell ⟨gd, b, none⟩ (.bool true)).heap.size = wr.heap.size := by simp
                have ownX := own_ap ownr ap2 (fun j hj => by omega)
                have HP2 := Lib.hid P2
                have HapwX := Lib.hid (Apr.out.trans ap2 (fun j hj => .inl hj))
                have HapX := Lib.hid (Hap.out.trans HapwX.out (fun j hj => .inl hj))
                have OwnX := Lib.hid ownX
                clear htab hSb P2 ap2 ownr ownX
                have h1 : ((wr.setCell ⟨gd, b, none⟩ (.bool true)).alloc (.cells #[] 80)).ownsRow wr.heap.size 80 2 (.slice (some ⟨wr.heap.size, 0, none⟩) 0 0) 0 [] := by
                  have h := World.ownsRow_made (e := 80) (size := 2) (base := (wr.setCell ⟨gd, b, none⟩ (.bool true)).heap.size) (wr.setCell ⟨gd, b, none⟩ (.bool true)) #[] 0 (Nat.le_refl _) (Nat.zero_le _) rfl
                  rwa [hsX] at h
                have kX : Below wr.heap.size (wr.setCell ⟨gd, b, none⟩ (.bool true)) ((wr.setCell ⟨gd, b, none⟩ (.bool true)).alloc (.cells #[] 80)) := (Below.refl _ _).alloc (by rw [hsX]; exact Nat.le_refl _) _
                have kxs : wr.heap.size ≤ ((wr.setCell ⟨gd, b, none⟩ (.bool true)).alloc (.cells #[] 80)).heap.size := by simp
                have HsX := Lib.hid hsX
                clear hsX
                rcases own_none2 OwnX.out with ⟨rfl, hz0', rfl⟩ | ⟨g, rfl⟩
                · have ht : told = [] := List.eq_nil_of_length_eq_zero hz0'
                  rw [hz0']
                  have own5 : ((wr.setCell ⟨gd, b, none⟩ (.bool true)).alloc (.cells #[] 80)).ownsRow wr.heap.size 80 2 (.slice (some ⟨wr.heap.size, 0, none⟩) 0 0) 0 [] := h1
                  have q0 : (((wr.setCell ⟨gd, b, none⟩ (.bool true)).alloc (.cells #[] 80)).alloc (.cells #[.int .i64 (a' : Int), .int .i64 (b : Int)] 80)).cell? ⟨wr.heap.size + 1, 0, none⟩ = some (.int .i64 (a' : Int)) := by
                    rw [← HsX.out]
                    generalize wr.setCell ⟨gd, b, none⟩ (.bool true) = X
                    simp
                  have q1 : (((wr.setCell ⟨gd, b, none⟩ (.bool true)).alloc (.cells #[] 80)).alloc (.cells #[.int .i64 (a' : Int), .int .i64 (b : Int)] 80)).cell? ⟨wr.heap.size + 1, 1, none⟩ = some (.int .i64 (b : Int)) := by
                    rw [← HsX.out]
                    generalize wr.setCell ⟨gd, b, none⟩ (.bool true) = X
                    simp
                  go_wp2_with (at_builtin; first
                    | (refine wpList_append_own _ rfl _ _ 49 rfl wr.heap.size 80 i0 _ 2 16 Try.underlying49 hi hz0 hz1 hz2 rfl (by decide) (.slice (some ⟨wr.heap.size, 0, none⟩) 0 0) 0 [] rfl (own5.alloc _) ⟨wr.heap.size + 1, 0, none⟩ 1 1 [.int .i64 (a' : Int), .int .i64 (b : Int)] rfl rfl (two_cells q0 q1) (two_one rfl rfl) (by unfold maxLen; omega) (by omega) (by simp <;> omega) ?_; intro v7 w7 own7 gr7 _; have k7 : Below wr.heap.size (wr.setCell ⟨gd, b, none⟩ (.bool true)) w7 := (kX.alloc kxs _).grown gr7 (by simp <;> omega) (by intro m hm; simp [Value.ownBlock] at hm; omega); obtain ⟨A7, c7, rfl, _⟩ := own_shape own7; have HK7 := Lib.hid k7; have Own7 := Lib.hid own7; clear own7 gr7 k7)
                    | (refine wpList_append_own_none rfl _ _ 49 rfl wr.heap.size 80 i0 2 Try.underlying49 hi _ _ _ rfl h1 rfl ?_))
                  clear own5
                  have hb7 : Below wr.heap.size (wr.setCell ⟨gd, b, none⟩ (.bool true)) w7 := HK7.out
                  have hb8 : Below (wr.setCell ⟨gd, b, none⟩ (.bool true)).heap.size (wr.setCell ⟨gd, b, none⟩ (.bool true)) w7 := by rw [HsX.out]; exact hb7
                  have s7 := hb8.size
                  rw [HsX.out] at s7
                  have P7 := HP2.out.below hb8
                  have hll : (told ++ [((a' : Int), (b : Int))]).length = 0 + 1 := by rw [ht]; rfl
                  have ap7 : Apart (fun j => j = gd ∨ j = pc ∨ j = pf) (wr.setCell ⟨gd, b, none⟩ (.bool true)) w7 := Apart.of_below hb8
                  have own8 : w7.ownsRow B 80 2 (.slice A7 (told ++ [((a' : Int), (b : Int))]).length c7) (told ++ [((a' : Int), (b : Int))]).length (pcells (told ++ [((a' : Int), (b : Int))])) := by
                    rw [hll, pcells_append, ht]
                    exact own_lower Own7.out (by omega)
                  have ihc := IH.out (cutQ S ((a' : Int), (b : Int))) (told ++ [((a' : Int), (b : Int))]) A7 c7 cnt' fst' FA' fc' w7 (by omega) (by rw [hll]; omega) (by omega) (by omega) (HapX.out.trans ap7 (fun j hj => .inl hj)) P7 own8
                  rw [hll] at ihc
                  have IHC := Lib.hid ihc
                  have Ap7 := Lib.hid ap7
                  clear ihc own8 P7 ap7 hb7 hb8
                  go_wp2_with fail
                  refine IHC.out.mono ?_
                  rintro e w8 ⟨rfl, ap8, FA8, fc8, P8⟩
                  have P9 := (P8.mark hgc hgf hgB b false).congr (S' := Sa) (fun x hx => by
                    rw [HSd.out]
                    simp only [cutQ_at]
                    by_cases e1 : x = b
                    · subst e1
                      rw [if_pos rfl, if_neg (by omega), HSb.out]; rfl
                    · rw [if_neg e1]
                      by_cases e2 : x = a'
                      · subst e2; simp
                      · rw [if_neg e2]; simp [e1, e2])
                  have ap9 : Apart (fun j => j = gd ∨ j = pc ∨ j = pf) w (w8.setCell ⟨gd, b, none⟩ (.bool false)) := (((HapwX.out.trans Ap7.out (fun j hj => .inl hj)).trans ap8 (fun j hj => .inl hj)).trans (Apart.setCell (p := ⟨gd, b, none⟩) (.inl rfl) _) (fun j hj => .inl hj))
                  have hd8 := P8.done.cell hlt
                  have hf8 := P8.done.frozen b
                  simp only [cutQ_at] at hd8
                  have hd9 : ∃ bb : Bool, w8.cell? ⟨gd, b, none⟩ = some (.bool bb) := ⟨_, hd8⟩
                  obtain ⟨bb, hd9⟩ := hd9
                  have P9' := Lib.hid P9
                  have Ap9 := Lib.hid ap9
                  have hs8 : w8.heap.size ≥ w7.heap.size := ap8.below.size
                  clear P9 ap9 P8 ap8 hd8 IHC
                  go_wp2
                  go_roundw
                  case rel =>
                    refine ⟨b + 1, cnt' + (dP t n f (told ++ [((a' : Int), (b : Int))]) (cutQ S ((a' : Int), (b : Int)))).length, firstQ fst' cnt' (dP t n f (told ++ [((a' : Int), (b : Int))]) (cutQ S ((a' : Int), (b : Int)))), FA8, fc8, by omega, by omega, by go_num, Ap9.out, P9'.out, ?_, ?_⟩
                    · rw [Hyes.out, List.length_append, HC.out]; omega
                    · rw [Hyes.out, HF.out, HC.out, firstQ_append]
                  case measure => simp [intOf]; omega
                · have rdX : CRead ((wr.setCell ⟨gd, b, none⟩ (.bool true)).alloc (.cells #[] 80)) ((wr.setCell ⟨gd, b, none⟩ (.bool true)).alloc (.cells #[] 80)).heap.size (some ⟨g, 0, none⟩) (pcells told) := (CRead.of_own OwnX.out).below (B' := wr.heap.size) kX (by rw [HsX.out]; exact Nat.le_refl _) |>.more (by rw [HsX.out]; exact kxs)
                  go_wp2_with (at_builtin; first
                    | (refine wpList_append_own _ rfl _ _ 49 rfl wr.heap.size 80 i0 _ 2 16 Try.underlying49 hi hz0 hz1 hz2 rfl (by decide) _ told.length _ rfl (own5.alloc _) ⟨w5.heap.size, 0, none⟩ 1 1 [.int .i64 (a' : Int), .int .i64 (b : Int)] rfl rfl (two_cells (by simp) (by simp)) (two_one rfl rfl) (by unfold maxLen; omega) (by omega) (by simp <;> omega) ?_; intro v7 w7 own7 gr7 _; have k7 : Below wr.heap.size (wr.setCell ⟨gd, b, none⟩ (.bool true)) w7 := (k5.alloc z5 _).grown gr7 (by simp <;> omega) (fun k hk => (own5.lt k hk).1); obtain ⟨A7, c7, rfl, _⟩ := own_shape own7; have HK7 := Lib.hid k7; have Own7 := Lib.hid own7; clear own7 gr7 k7)
                    | (refine wpList_append_own _ rfl _ _ 49 rfl wr.heap.size 80 i0 _ 2 16 Try.underlying49 hi hz0 hz1 hz2 rfl (by decide) (.slice (some ⟨wr.heap.size, 0, none⟩) 0 0) 0 [] rfl h1 ⟨g, 0, none⟩ told.length c (pcells told) rfl (pcells_length told) (read_add_P rdX) (pcells_one _) (by unfold maxLen; omega) (by omega) (by simp) ?_; intro v5 w5 own5 gr5 _; have k5 : Below wr.heap.size (wr.setCell ⟨gd, b, none⟩ (.bool true)) w5 := kX.grown gr5 (by simp) (by intro m hm; simp [Value.ownBlock] at hm; omega); simp only [Nat.zero_add, List.nil_append] at own5; obtain ⟨A5, c5, rfl, _⟩ := own_shape own5; have s5 := k5.size; have z5 : wr.heap.size ≤ w5.heap.size := (by rw [HsX.out] at s5; exact s5)))
                  clear own5 gr5 k5
                  have hb7 : Below wr.heap.size (wr.setCell ⟨gd, b, none⟩ (.bool true)) w7 := HK7.out
                  have hb8 : Below (wr.setCell ⟨gd, b, none⟩ (.bool true)).heap.size (wr.setCell ⟨gd, b, none⟩ (.bool true)) w7 := by rw [HsX.out]; exact hb7
                  have s7 := hb8.size
                  rw [HsX.out] at s7
                  have P7 := HP2.out.below hb8
                  have hll : (told ++ [((a' : Int), (b : Int))]).length = told.length + 1 := by simp
                  have ap7 : Apart (fun j => j = gd ∨ j = pc ∨ j = pf) (wr.setCell ⟨gd, b, none⟩ (.bool true)) w7 := Apart.of_below hb8
                  have own8 : w7.ownsRow B 80 2 (.slice A7 (told ++ [((a' : Int), (b : Int))]).length c7) (told ++ [((a' : Int), (b : Int))]).length (pcells (told ++ [((a' : Int), (b : Int))])) := by
                    rw [hll, pcells_append]
                    exact own_lower Own7.out (by omega)
                  have ihc := IH.out (cutQ S ((a' : Int), (b : Int))) (told ++ [((a' : Int), (b : Int))]) A7 c7 cnt' fst' FA' fc' w7 (by omega) (by rw [hll]; omega) (by omega) (by omega) (HapX.out.trans ap7 (fun j hj => .inl hj)) P7 own8
                  rw [hll] at ihc
                  have IHC := Lib.hid ihc
                  have Ap7 := Lib.hid ap7
                  clear ihc own8 P7 ap7 hb7 hb8
                  go_wp2_with fail
                  refine IHC.out.mono ?_
                  rintro e w8 ⟨rfl, ap8, FA8, fc8, P8⟩
                  have P9 := (P8.mark hgc hgf hgB b false).congr (S' := Sa) (fun x hx => by
                    rw [HSd.out]
                    simp only [cutQ_at]
                    by_cases e1 : x = b
                    · subst e1
                      rw [if_pos rfl, if_neg (by omega), HSb.out]; rfl
                    · rw [if_neg e1]
                      by_cases e2 : x = a'
                      · subst e2; simp
                      · rw [if_neg e2]; simp [e1, e2])
                  have ap9 : Apart (fun j => j = gd ∨ j = pc ∨ j = pf) w (w8.setCell ⟨gd, b, none⟩ (.bool false)) := (((HapwX.out.trans Ap7.out (fun j hj => .inl hj)).trans ap8 (fun j hj => .inl hj)).trans (Apart.setCell (p := ⟨gd, b, none⟩) (.inl rfl) _) (fun j hj => .inl hj))
                  have hd8 := P8.done.cell hlt
                  have hf8 := P8.done.frozen b
                  simp only [cutQ_at] at hd8
                  have hd9 : ∃ bb : Bool, w8.cell? ⟨gd, b, none⟩ = some (.bool bb) := ⟨_, hd8⟩
                  obtain ⟨bb, hd9⟩ := hd9
                  have P9' := Lib.hid P9
                  have Ap9 := Lib.hid ap9
                  have hs8 : w8.heap.size ≥ w7.heap.size := ap8.below.size
                  clear P9 ap9 P8 ap8 hd8 IHC
                  go_wp2
                  go_roundw
                  case rel =>
                    refine ⟨b + 1, cnt' + (dP t n f (told ++ [((a' : Int), (b : Int))]) (cutQ S ((a' : Int), (b : Int)))).length, firstQ fst' cnt' (dP t n f (told ++ [((a' : Int), (b : Int))]) (cutQ S ((a' : Int), (b : Int)))), FA8, fc8, by omega, by omega, by go_num, Ap9.out, P9'.out, ?_, ?_⟩
                    · rw [Hyes.out, List.length_append, HC.out]; omega
                    · rw [Hyes.out, HF.out, HC.out, firstQ_append]
                  case measure => simp [intOf]; omega
          · have hbe : b = n := by omega
            subst hbe
            have hge : ¬ ((b : Int) < b) := by omega
            have P9 := (HPr.out.mark hgc hgf hgB a' false).congr (S' := S) (fun x hx => by
              rw [HSd.out]
              by_cases e2 : x = a'
              · subst e2; simp [HSa.out]
              · simp [e2])
            have ap9 := Apr.out.trans (Apart.setCell (S := fun j => j = gd ∨ j = pc ∨ j = pf) (p := ⟨gd, a', none⟩) (.inl rfl) (.bool false)) (fun j hj => .inl hj)
            have hd9 := HPr.out.done.cell han
            have hf9 := HPr.out.done.frozen a'
            have P9' := Lib.hid P9
            have Ap9 := Lib.hid ap9
            clear P9 ap9
            go_wp2
            refine show _ = [] ∧ _ from ⟨rfl, .tuple #[], by simp [results, Try.results67, go_sem], ?_⟩
            rw [← HC.out, ← HF.out]
            exact ⟨rfl, Ap9.out, FA', fc', P9'.out⟩
end Go.Proofs.Ytefkcfkicmfhlaa
/-
  PAIRINGS: the model's count and first one ('taPairs'), and its 'CountPairings', by contract.
-/
namespace Go.Proofs.Ytefkcfkicmfhlaa
open Go.RowKit

/-- a slice made, as an equation -/
theorem run_make_one {P : Program} (w : World) (t e : TypeId) (i : TypeInfo) (z : Value) (h1 : P.underlying t = some (.slice e)) (h2 : P.info? e = some i) (h3 : i.zero = some z) (h4 : i.size = 1) (hz : z.cells = #[z])
    (n : Nat) (b2 : i.bytes * n ≤ 281474976710656) (b3 : n ≤ 16777216) :
    (Instr.makeSlice t (.int .i64 n) (.int .i64 n)).run P w = .ok (.slice (some ⟨w.heap.size, 0, none⟩) n n) (w.alloc (.cells (madeCells #[z] n) e)) := by
  have h63' : (n : Int) ≤ 9223372036854775807 := by
    omega
  have hb' : (i.bytes : Int) * (n : Int) ≤ 281474976710656 := by
    have h : ((i.bytes * n : Nat) : Int) ≤ 281474976710656 := by omega
    rwa [Int.natCast_mul] at h
  have hr := run_makeSlice (P := P) (w := w) t e i z h1 h2 h3 .i64 .i64 n n (by omega) (Int.le_refl _) (by rw [h4, Int.toNat_natCast]; omega) hb' h63'
  simpa only [Int.toNat_natCast, h4, Nat.mul_one, hz] using hr
theorem below_apart {S : Nat → Prop} {A C : World} {B : Nat} (h : Apart S A C) (hB : B ≤ A.heap.size) (hS : ∀ j, S j → B ≤ j) : Below B A C :=
  ⟨h.below.os, h.below.tape, h.below.output, h.below.size, fun j hj => h.same j (by omega) (fun hs => by have := hS j hs; omega)⟩
theorem heap_alloc_lt (w : World) (o : Obj) (j : Nat) (h : j < w.heap.size) : (w.alloc o).heap[j]? = w.heap[j]? := (World.grownBy_alloc w o none).block j h (by simp)
/-- The recursion, from nothing told, over a table that lies in blocks of its own. -/
theorem taPair_go (n : Nat) (hn : n ≤ 12) (l : PL) (A3 : Option Addr) (c3 gd pc pf B0 : Nat) (G : Nat → Nat) (X : World) (tab : TabG X B0 (.slice A3 n c3) n n G (adj l)) (hgc : gd ≠ pc) (hgf : gd ≠ pf) (hcf : pc ≠ pf)
    (hpc : pc < B0) (hpf : pf < B0) (hgd : gd < B0 ∨ ∃ w4 : World, w4.heap.size ≤ gd ∧ TabG w4 B0 (.slice A3 n c3) n n G (adj l))
    (hrow : X.rowIs gd 4 n (fun _ => .bool false)) (h1 : X.heap[pc]? = some (Obj.cells #[.int .i64 0] 3)) (h2 : X.heap[pf]? = some (Obj.cells #[.slice none 0 0] 49)) :
    Calls Try.prog 67 #[.slice A3 n c3, .slice (some ⟨gd, 0, none⟩) n n, .slice none 0 0, .pointer (some ⟨pc, 0, none⟩), .pointer (some ⟨pf, 0, none⟩)] X fun e w' =>
      e = .returned (.tuple #[]) ∧ Apart (fun j => j = gd ∨ j = pc ∨ j = pf) X w' ∧ ∃ FA fc, PairAt w' n (bitsQ (2 ^ n - 1)) gd pc pf (pairD n l).length (firstQ [] 0 (pairD n l)) X.heap.size FA fc := by
  have hlt1 : pc < X.heap.size := (Array.getElem?_eq_some_iff.1 h1).1
  have hlt2 : pf < X.heap.size := (Array.getElem?_eq_some_iff.1 h2).1
  have hlt3 := hrow.lt
  have ne2 : ∀ i, i < n → G i ≠ gd := fun i hi => by
    rcases hgd with h | ⟨w4, h, t4⟩
    · have := (tab.blk hi).1; omega
    · have := (t4.blk hi).2; omega
  have P0 : PairAt X n (bitsQ (2 ^ n - 1)) gd pc pf 0 [] X.heap.size none 0 :=
    ⟨hrow.congr fun x hx => by rw [people_bitsQ hx]; rfl, h1, h2, World.ownsRow_nil _ _ _ _⟩
  have hp : 12 ^ n ≤ 2 ^ 60 := Nat.le_trans (Nat.pow_le_pow_right (by omega) hn) (by decide)
  have h := taPair_any n hn (adj l) A3 c3 n gd pc pf X.heap.size G X hgc hgf hcf hlt3 hlt1 hlt2 (fun X' hap i j hi hj => by
      obtain ⟨g, rfl⟩ := own_form tab.own (show 0 < n by omega)
      have lg := own_lt tab.own
      have ne1 : g ≠ gd := by
        rcases hgd with h | ⟨w4, h, t4⟩
        · omega
        · have := (own_lt t4.own).2; omega
      refine ⟨g, rfl, ?_, ?_⟩
      · rw [World.cell?_of_block (hap.same g lg.2 (by rintro (e | e | e) <;> first | exact ne1 e | omega))]
        exact tab.outer hi
      · have lb := tab.blk hi
        rw [World.cell?_of_block (hap.same (G i) lb.2 (by rintro (e | e | e) <;> first | exact ne2 i hi e | omega))]
        exact tab.cell hi hj)
    n (bitsQ (2 ^ n - 1)) [] none 0 0 [] none 0 X (Nat.le_of_eq (cntQ_people n)) (by simp; omega) (by omega) (Nat.le_refl _) (Apart.refl _ _) P0 (World.ownsRow_nil _ _ _ _)
  refine Calls.mono h ?_
  rintro e w' ⟨rfl, ap, FA, fc, P1⟩
  refine ⟨rfl, ap, FA, fc, ?_⟩
  rw [Nat.zero_add] at P1
  exact P1
set_option maxHeartbeats 8000000 in
set_option maxRecDepth 100000 in
theorem taPairs_any (n : Nat) (l : PL) (A : Option Addr) (c : Nat) (w : World) (hp : isP n l = true) (hA : CRead w w.heap.size A (pcells l)) :
    Calls Try.prog 52 #[.agg #[.int .i64 n, .slice A l.length c]] w fun e w' => ∃ FA fc, e = .returned (.tuple #[.int .i64 ((pairD n l).length : Int), .slice FA (firstQ [] 0 (pairD n l)).length fc]) ∧
      w'.ownsRow w.heap.size 80 2 (.slice FA (firstQ [] 0 (pairD n l)).length fc) (firstQ [] 0 (pairD n l)).length (pcells (firstQ [] 0 (pairD n l))) ∧ Below w.heap.size w w' := by
  obtain ⟨i1, hj, hy0, hy1, hy2⟩ := info_parts Try.infoBool
  have hn := isP_range hp
  have Hp := Lib.hid hp
  clear hp
  have tabF := fun (Y : World) (hY : CRead Y Y.heap.size A (pcells l)) => paTable_any n l A c Y Hp.out hY
  simp only [Int.toNat_natCast] at tabF
  have TabF := Lib.hid tabF
  clear tabF
  go_enter Try.func52, Try.ntmps52
  go_wp2_with fail
  obtain ⟨X, hX⟩ : ∃ X, (((w.alloc (Obj.cells #[Value.int IntKind.i64 ↑n, Value.slice A (List.length l) c] 53)).alloc (Obj.cells #[Value.int IntKind.i64 0] 3)).alloc (Obj.cells #[Value.slice none 0 0] 49)) = X := ⟨_, rfl⟩
  have kX : Below w.heap.size w X := by rw [← hX]; go_grown
  have sX : X.heap.size = w.heap.size + 3 := by rw [← hX]; simp
  have c0 : X.cell? ⟨w.heap.size, 0, none⟩ = some (.int .i64 n) := by rw [← hX]; exact (World.cell?_alloc_lt _ _ _ (by simp <;> omega)).trans ((World.cell?_alloc_lt _ _ _ (by simp)).trans (by simp))
  have c1 : X.cell? ⟨w.heap.size, 1, none⟩ = some (.slice A l.length c) := by rw [← hX]; exact (World.cell?_alloc_lt _ _ _ (by simp <;> omega)).trans ((World.cell?_alloc_lt _ _ _ (by simp)).trans (by simp))
  have b1 : X.heap[w.heap.size + 1]? = some (Obj.cells #[.int .i64 0] 3) := by rw [← hX]; exact (heap_alloc_lt _ _ _ (by simp)).trans (by have h := World.alloc_heap_new (w.alloc (Obj.cells #[Value.int IntKind.i64 ↑n, Value.slice A (List.length l) c] 53)) (Obj.cells #[.int .i64 0] 3); simpa only [World.size_alloc] using h)
  have b2 : X.heap[w.heap.size + 1 + 1]? = some (Obj.cells #[.slice none 0 0] 49) := by rw [← hX]; have h := World.alloc_heap_new ((w.alloc (Obj.cells #[Value.int IntKind.i64 ↑n, Value.slice A (List.length l) c] 53)).alloc (Obj.cells #[Value.int IntKind.i64 0] 3)) (Obj.cells #[.slice none 0 0] 49); simpa only [World.size_alloc] using h
  have ka0 : ∀ o : Obj, (X.drew.alloc o).cell? ⟨w.heap.size, 0, none⟩ = some (.int .i64 n) := fun o => (World.cell?_alloc_lt X.drew _ _ (by show w.heap.size < X.heap.size; omega)).trans c0
  have ka1 : ∀ o : Obj, (X.drew.alloc o).cell? ⟨w.heap.size, 1, none⟩ = some (.slice A l.length c) := fun o => (World.cell?_alloc_lt X.drew _ _ (by show w.heap.size < X.heap.size; omega)).trans c1
  have rX : ∀ Y, Below w.heap.size w Y → CRead Y Y.heap.size A (pcells l) := fun Y hY => (hA.below hY (Nat.le_refl _)).more hY.size
  rw [hX]
  have hmk := fun Y : World => run_make_one (P := Try.prog) Y 86 4 i1 (.bool false) Try.underlying86 hj hy0 hy1 rfl n (by rw [hy2]; omega) (by omega)
  have HX := Lib.hid hX
  have RX := Lib.hid rX
  clear hX rX hA
  go_region_law (first
    | (go_simp; go_at_call 59; refine (TabF.out _ (RX.out _ (by first | exact kX.drew | exact kX.drew.alloc (by show w.heap.size ≤ X.heap.size; omega) _))).mono ?_; rintro e w4 ⟨A3, c3, G, rfl, tab, hb3⟩; first
        | (have k4 : Below X.heap.size X w4 := (Below.refl _ _).drew.trans hb3; have a0 := carry k4 c0 (by show w.heap.size < _; omega); have a1 := carry k4 c1 (by show w.heap.size < _; omega); have s4 := k4.size; have kt : TabG w4 X.heap.size (.slice A3 n c3) n n G (adj l) := tab)
        | (have k4 : Below X.heap.size X w4 := ((Below.refl _ _).drew.alloc (Nat.le_refl _) _).trans (hb3.mono (by show X.heap.size ≤ _; simp)); have row4 : w4.rowIs (w.heap.size + 3) 4 n (fun _ => .bool false) := (by rw [← sX]; exact (World.rowIs_made X.drew (.bool false) n 4).of_block (hb3.block _ (by simp))); have s4 : X.heap.size + 1 ≤ w4.heap.size := (by have := hb3.size; simp at this; exact this); have kt := tab.lower (B' := X.heap.size + 1) (by simp)))
    | (go_simp; go_at_call 67; first
        | (refine (taPair_go n (by omega) l A3 c3 w4.heap.size (w.heap.size + 1) (w.heap.size + 1 + 1) X.heap.size G (w4.alloc _) (kt.alloc _) (by omega) (by omega) (by omega) (by omega) (by omega) (.inr ⟨w4, Nat.le_refl _, kt⟩) (World.rowIs_made w4 (.bool false) n _) ((heap_alloc_lt w4 _ _ (by omega)).trans ((k4.block _ (by omega)).trans b1)) ((heap_alloc_lt w4 _ _ (by omega)).trans ((k4.block _ (by omega)).trans b2))).mono ?_; rintro e w5 ⟨rfl, ap, FA, fc, P⟩; have kw : Below w.heap.size w w5 := ((kX.trans (k4.mono kX.size)).alloc (by omega) _).trans (below_apart ap (by simp; omega) (by rintro j (e | e | e) <;> omega)))
        | (refine (taPair_go n (by omega) l A3 c3 (w.heap.size + 3) (w.heap.size + 1) (w.heap.size + 1 + 1) (X.heap.size + 1) G w4 kt (by omega) (by omega) (by omega) (by omega) (by omega) (.inl (by omega)) row4 ((k4.block _ (by omega)).trans b1) ((k4.block _ (by omega)).trans b2)).mono ?_; rintro e w5 ⟨rfl, ap, FA, fc, P⟩; have kw : Below w.heap.size w w5 := (kX.trans (k4.mono kX.size)).trans (below_apart ap (by omega) (by rintro j (e | e | e) <;> omega)))))
  all_goals
    have q1 := cell_in P.cntc
    have q2 := cell_in P.fstc
    have own5 := own_lower P.row (base' := w.heap.size) (by first | omega | (simp; omega))
    clear P ap tab kt k4 hb3 ka0 ka1 hmk b1 b2 c0 c1
    go_wp2_with fail
    go_quiet (fail)
    go_wp2_with fail
    go_ret2
    exact ⟨FA, fc, rfl, own5, ⟨kw.os, kw.tape, kw.output, kw.size, kw.block⟩⟩
set_option maxHeartbeats 4000000 in
set_option maxRecDepth 100000 in
theorem specCountPairings_any (p : Int) (l : PL) (A : Option Addr) (c : Nat) (w : World) (hl : l.length ≤ 1048576) (hA : CRead w w.heap.size A (pcells l)) :
    Calls Try.prog 33 #[.agg #[.int .i64 p, .slice A l.length c]] w fun e w' => e = .returned (.tuple #[.int .i64 (resCountPairings p l).1, .bool (resCountPairings p l).2]) ∧ Below w.heap.size w w' := by
  have hr : CRead (w.alloc (Obj.cells #[.int .i64 p, .slice A l.length c] 53)) (w.alloc (Obj.cells #[.int .i64 p, .slice A l.length c] 53)).heap.size A (pcells l) := (hA.below (B' := w.heap.size) (by go_grown) (Nat.le_refl _)).more (by go_size)
  cases hp : isP p l with
  | false =>
    have e : resCountPairings p l = (0, false) := by simp [resCountPairings, hp]
    rw [e]
    have Hp := Lib.hid hp
    clear hp e
    go_enter Try.func33, Try.ntmps33
    go_wp2_with fail
    refine (paGood_any _ _ _ _ _ hl hr).mono ?_
    rw [Hp.out]
    rintro e w2 ⟨rfl, hb2⟩
    simp only [World.size_alloc] at hb2
    go_wp2
    go_ret2
    exact ⟨rfl, Below.trans (b := _) (by go_grown) (hb2.mono (by omega))⟩
  | true =>
    obtain ⟨n, rfl⟩ : ∃ n : Nat, p = n := ⟨p.toNat, by have := isP_range hp; omega⟩
    have e : resCountPairings n l = (((pairD n l).length : Int), true) := by rw [pairD_pairQ hp]; simp [resCountPairings, hp]
    rw [e]
    have Hp := Lib.hid hp
    clear hp e
    go_enter Try.func33, Try.ntmps33
    go_wp2_with fail
    refine (paGood_any _ _ _ _ _ hl hr).mono ?_
    rw [Hp.out]
    rintro e w2 ⟨rfl, hb2⟩
    simp only [World.size_alloc] at hb2
    have a0 : w2.cell? ⟨w.heap.size, 0, none⟩ = some (.int .i64 n) := carry hb2 (by simp) (by omega)
    have a1 : w2.cell? ⟨w.heap.size, 1, none⟩ = some (.slice A l.length c) := carry hb2 (by simp) (by omega)
    have k2 : Below w.heap.size w w2 := Below.trans (b := _) (by go_grown) (hb2.mono (by omega))
    go_wp2_with fail
    refine (taPairs_any n l A c _ Hp.out ((hA.below k2 (Nat.le_refl _)).more k2.size)).mono ?_
    rintro e w3 ⟨FA, fc, rfl, _, hb3⟩
    have k3 := k2.trans (hb3.mono k2.size)
    clear a0 a1 hb2
    go_wp2
    go_ret2
    exact ⟨rfl, k3⟩
end Go.Proofs.Ytefkcfkicmfhlaa
/-
  'laws.FnExactCountPairings' returns true, whatever its arguments: out of the contracts of the model's function and of the program's.
-/
namespace Go.Proofs.Ytefkcfkicmfhlaa
open Go.RowKit

set_option maxHeartbeats 4000000 in
set_option maxRecDepth 100000 in
theorem lawCountPairings_any (p0 : Int) (l0 : PL) (A0 : Option Addr) (c0 : Nat) (W : World) (hl0 : l0.length ≤ maxLen) (hA0 : CRead W W.heap.size A0 (pcells l0)) :
    Calls Try.prog 8 #[.agg #[.int .i64 p0, .slice A0 l0.length c0]] W fun e w' => e = .returned (.bool true) ∧ Below W.heap.size W w' := by
  have hone : (0 : Int) ≤ 1 ∧ (1 : Int) ≤ 16777216 := by omega
  by_cases hz0 : szI (1048576) l0.length < 0
  · go_enter Try.func8, Try.ntmps8
    go_wp2_with fail
    refine (szParty_any _ _ _ _ _ hl0 (by omega) (by omega) _).mono ?_
    rintro e w1 ⟨rfl, hb1⟩
    simp only [World.size_alloc] at hb1
    have g1 : Below W.heap.size W w1 := Below.trans (b := _) (by go_grown) (hb1.mono (by omega))
    have s1 := hb1.size
    simp only [World.size_alloc] at s1
    have f1_0 : w1.cell? ⟨W.heap.size, 0, none⟩ = some (.int .i64 p0) := carry hb1 (by simp) (by omega)
    have f1_1 : w1.cell? ⟨W.heap.size, 1, none⟩ = some (.slice A0 l0.length c0) := carry hb1 (by simp) (by omega)
    have k1 : Below W.heap.size W w1 := g1
    go_wp2
    go_ret
    exact ⟨rfl, k1⟩
  have hn0 : l0.length ≤ 1048576 := by have h1 := szI_len _ _ hz0; have h2 := szI_hi (1048576) l0.length (by omega); omega
  have hz0' : 0 ≤ szI (1048576) l0.length := by omega
  have hz0'' : szI (1048576) l0.length ≤ 1048576 := by have h2 := szI_hi (1048576) l0.length (by omega); omega
  obtain ⟨⟨rb, rok⟩, hres⟩ : ∃ r, resCountPairings p0 l0 = r := ⟨_, rfl⟩
  have Hres := Lib.hid hres
  clear hres
  go_enter Try.func8, Try.ntmps8
  go_wp2_with fail
  refine (szParty_any _ _ _ _ _ hl0 (by omega) (by omega) _).mono ?_
  rintro e w1 ⟨rfl, hb1⟩
  simp only [World.size_alloc] at hb1
  have g1 : Below W.heap.size W w1 := Below.trans (b := _) (by go_grown) (hb1.mono (by omega))
  have s1 := hb1.size
  simp only [World.size_alloc] at s1
  have f1_0 : w1.cell? ⟨W.heap.size, 0, none⟩ = some (.int .i64 p0) := carry hb1 (by simp) (by omega)
  have f1_1 : w1.cell? ⟨W.heap.size, 1, none⟩ = some (.slice A0 l0.length c0) := carry hb1 (by simp) (by omega)
  have k1 : Below W.heap.size W w1 := g1
  go_wp2_with fail
  refine (toParty_any p0 l0 A0 c0 _ hn0 ((hA0.below k1 (Nat.le_refl _)).more k1.size)).mono ?_
  rintro e w2 ⟨T2, d2, rfl, n2, hb2⟩
  have g2 : Below w1.heap.size w1 w2 := hb2
  have s2 := hb2.size
  have f2_0 := carry g2 f1_0 (by omega)
  have f2_1 := carry g2 f1_1 (by omega)
  have k2 := k1.trans (g2.mono k1.size)
  clear f1_0 f1_1
  have r2 : Lies (.slice T2 l0.length d2) (w1.heap.size) w2.heap.size := own_lies n2
  go_wp2_with fail
  refine (specCountPairings_any p0 l0 _ _ _ hn0 (CRead.of_own n2)).mono ?_
  rw [Hres.out]
  rintro e w3 ⟨rfl, hb3⟩
  have g3 : Below w2.heap.size w2 w3 := hb3
  have s3 := hb3.size
  have f3_0 := carry g3 f2_0 (by omega)
  have f3_1 := carry g3 f2_1 (by omega)
  have o3_0 := own_below n2 g3 (Nat.le_refl _)
  have k3 := k2.trans (g3.mono k2.size)
  clear f2_0 f2_1 n2
  clear o3_0 r2
  go_wp2_with fail
  refine (toParty_any p0 l0 A0 c0 _ hn0 ((hA0.below k3 (Nat.le_refl _)).more k3.size)).mono ?_
  rintro e w4 ⟨T4, d4, rfl, n4, hb4⟩
  have g4 : Below w3.heap.size w3 w4 := hb4
  have s4 := hb4.size
  have f4_0 := carry g4 f3_0 (by omega)
  have f4_1 := carry g4 f3_1 (by omega)
  have k4 := k3.trans (g4.mono k3.size)
  clear f3_0 f3_1
  have r4 : Lies (.slice T4 l0.length d4) (w3.heap.size) w4.heap.size := own_lies n4
  have q5_0 : (w4.alloc (Obj.cells #[.int .i64 p0, .slice T4 l0.length d4] 53)).cell? ⟨W.heap.size, 0, none⟩ = some (.int .i64 p0) := (World.cell?_alloc_lt _ _ _ (show W.heap.size < w4.heap.size by omega)).trans f4_0
  have q5_1 : (w4.alloc (Obj.cells #[.int .i64 p0, .slice T4 l0.length d4] 53)).cell? ⟨W.heap.size, 1, none⟩ = some (.slice A0 l0.length c0) := (World.cell?_alloc_lt _ _ _ (show W.heap.size < w4.heap.size by omega)).trans f4_1
  go_wp2_with fail
  refine (implCountPairings_any p0 l0 _ _ _ hn0 (((CRead.of_own n4).below (B' := w4.heap.size) (by go_grown) (Nat.le_refl _)).more (by go_size)) (own_cap n4)).mono ?_
  rw [Hres.out]
  rintro e w6 ⟨rfl, hb6⟩
  simp only [World.size_alloc] at hb6
  have g6 : Below w4.heap.size w4 w6 := Below.trans (b := _) (by go_grown) (hb6.mono (by omega))
  have s6 := hb6.size
  simp only [World.size_alloc] at s6
  have f6_0 := carry g6 f4_0 (by omega)
  have f6_1 := carry g6 f4_1 (by omega)
  have f6_2 : w6.cell? ⟨w4.heap.size, 0, none⟩ = some (.int .i64 p0) := carry hb6 (by simp) (by omega)
  have f6_3 : w6.cell? ⟨w4.heap.size, 1, none⟩ = some (.slice T4 l0.length d4) := carry hb6 (by simp) (by omega)
  have o6_0 := own_below n4 g6 (Nat.le_refl _)
  have k6 := k4.trans (g6.mono k4.size)
  clear f4_0 f4_1 n4 q5_0 q5_1
  go_wp2
  go_region_held3 (fun w' => w'.cell? ⟨W.heap.size, 0, none⟩ = some (.int .i64 p0) ∧ w'.cell? ⟨W.heap.size, 1, none⟩ = some (.slice A0 l0.length c0) ∧ w'.cell? ⟨w4.heap.size, 0, none⟩ = some (.int .i64 p0) ∧ w'.cell? ⟨w4.heap.size, 1, none⟩ = some (.slice T4 l0.length d4)) (first | exact ⟨f6_0, f6_1, f6_2, f6_3⟩ | exact ⟨f7_0, f7_1, f7_2, f7_3⟩ | exact ⟨f8_0, f8_1, f8_2, f8_3⟩) ((first | (go_at_call 26; refine (toParty_any p0 l0 A0 c0 _ hn0 ((hA0.below k6.drew (Nat.le_refl _)).more k6.size)).mono ?_; rintro e w7 ⟨T7, d7, rfl, n7, hb7⟩; have g7 : Below w6.heap.size w6 w7 := (Below.refl _ _).drew.trans hb7; have s7 := g7.size; have f7_0 := carry g7 f6_0 (by omega); have f7_1 := carry g7 f6_1 (by omega); have f7_2 := carry g7 f6_2 (by omega); have f7_3 := carry g7 f6_3 (by omega); have o7_0 := own_below o6_0 g7 (Nat.le_refl _); have k7 := k6.trans (g7.mono k6.size)) | (go_at_call 29; refine (eqParty_any p0 p0 l0 l0 _ _ _ _ _ hl0 hl0 (CRead.of_own o7_0) (CRead.of_own n7)).mono ?_; rw [decide_eq_true ⟨rfl, rfl⟩]; rintro e w8 ⟨rfl, hb8⟩; have g8 : Below w7.heap.size w7 w8 := hb8; have s8 := g8.size; have f8_0 := carry g8 f7_0 (by omega); have f8_1 := carry g8 f7_1 (by omega); have f8_2 := carry g8 f7_2 (by omega); have f8_3 := carry g8 f7_3 (by omega); have o8_0 := own_below o7_0 g8 (Nat.le_refl _); have k8 := k7.trans (g8.mono k7.size))))
  clear f6_0 f6_1 f6_2 f6_3 o6_0 f7_0 f7_1 f7_2 f7_3 o7_0 n7
  go_wp2
  go_ret
  exact ⟨rfl, k8⟩
end Go.Proofs.Ytefkcfkicmfhlaa
/-
  THE PROGRAM's HEAD, LOOKED AT ONCE: which make it is, and that a call may enter it. (The head's text is long: the kernel must not read it twice.)
-/
namespace Go.Proofs.Ytefkcfkicmfhlaa

theorem make_of {P : Program} {rest : List (List Char)} (h : behindMainWord (wordsSigns P.initOrder.toList) = "cut".toList :: rest) : P.make = some .cut := by
  unfold Program.make
  rw [h]
  rfl
theorem strip_cut (rest : List (List Char)) : stripLifts liftWords ("cut".toList :: rest) = ([], "cut".toList :: rest) := rfl
theorem lifts_of {P : Program} {rest : List (List Char)} (h : behindMainWord (wordsSigns P.initOrder.toList) = "cut".toList :: rest) : P.headLifts = [] := by
  unfold Program.headLifts
  rw [h, strip_cut]
  rfl
theorem final_of {P : Program} {rest : List (List Char)} (h : behindMainWord (wordsSigns P.initOrder.toList) = "cut".toList :: rest) : P.liftsFinal = false := by
  unfold Program.liftsFinal
  rw [lifts_of h, h]
  rfl
theorem enter_of {P : Program} {rest : List (List Char)} (h : behindMainWord (wordsSigns P.initOrder.toList) = "cut".toList :: rest) (h1 : P.laysLater = false) (h2 : P.bearsReflect = false) (h3 : P.doorFits [] = true) : P.mayEnter = true := by
  unfold Program.mayEnter
  rw [h]
  show (_ || _ || _) = true
  rw [strip_cut, h1, h2, h3]
  rfl
end Go.Proofs.Ytefkcfkicmfhlaa
/-
  THE PROGRAM's CLOSED FACTS, EACH ONCE; and how a row's facts are put together out of them.
-/
namespace Go.Proofs.Ytefkcfkicmfhlaa
open Go.ChangeShapes Go.WideShapes Go.ChangeAt Go.RowKit

def headSigns : List Char := ([104, 97, 114, 110, 101, 115, 115, 32, 100, 56, 54, 53, 97, 101, 100, 57, 55, 100, 98, 48, 53, 51, 97, 99, 53, 50, 57, 102, 57, 54, 50, 49, 97, 98, 56, 51, 101, 55, 98, 48, 51, 56, 48, 53, 98, 50, 53, 98, 101, 54, 56, 48, 51, 53, 51, 101, 54, 97, 99, 48, 99, 54, 97, 102, 55, 99, 50, 53, 53, 100, 50, 98, 32, 99, 117, 116, 32, 97, 116, 32, 108, 111, 111, 112, 46, 101, 120, 97, 109, 112, 108, 101, 47, 103, 48, 49, 50, 53, 55, 47, 108, 97, 119, 115, 46, 70, 110, 69, 120, 97, 99, 116, 73, 115, 67, 108, 117, 101, 32, 108, 111, 111, 112, 46, 101, 120, 97, 109, 112, 108, 101, 47, 103, 48, 49, 50, 53, 55, 47, 108, 97, 119, 115, 46, 70, 110, 69, 120, 97, 99, 116, 73, 115, 80, 117, 122, 122, 108, 101, 32, 108, 111, 111, 112, 46, 101, 120, 97, 109, 112, 108, 101, 47, 103, 48, 49, 50, 53, 55, 47, 108, 97, 119, 115, 46, 70, 110, 69, 120, 97, 99, 116, 68, 114, 111, 112, 67, 108, 117, 101, 32, 108, 111, 111, 112, 46, 101, 120, 97, 109, 112, 108, 101, 47, 103, 48, 49, 50, 53, 55, 47, 108, 97, 119, 115, 46, 70, 110, 69, 120, 97, 99, 116, 65, 100, 100, 67, 108, 117, 101, 32, 108, 111, 111, 112, 46, 101, 120, 97, 109, 112, 108, 101, 47, 103, 48, 49, 50, 53, 55, 47, 108, 97, 119, 115, 46, 70, 110, 69, 120, 97, 99, 116, 70, 105, 114, 115, 116, 80, 97, 105, 114, 105, 110, 103, 32, 108, 111, 111, 112, 46, 101, 120, 97, 109, 112, 108, 101, 47, 103, 48, 49, 50, 53, 55, 47, 108, 97, 119, 115, 46, 70, 110, 69, 120, 97, 99, 116, 67, 111, 117, 110, 116, 80, 97, 105, 114, 105, 110, 103, 115, 32, 108, 111, 111, 112, 46, 101, 120, 97, 109, 112, 108, 101, 47, 103, 48, 49, 50, 53, 55, 47, 108, 97, 119, 115, 46, 70, 110, 69, 120, 97, 99, 116, 77, 111, 115, 116, 73, 110, 80, 97, 105, 114, 115] : List Nat).map Char.ofNat
set_option maxRecDepth 100000 in
theorem Try.initOrder_is : Try.prog.initOrder = String.ofList headSigns := by kernel_rfl
theorem Try.initOrder_signs : Try.prog.initOrder.toList = headSigns := by rw [Try.initOrder_is]; exact String.toList_ofList
set_option maxRecDepth 100000 in
theorem head_words : (behindMainWord (wordsSigns headSigns)).take 1 = ["cut".toList] := by kernel_rfl
theorem Try.words : ∃ rest, behindMainWord (wordsSigns Try.prog.initOrder.toList) = "cut".toList :: rest := by
  rw [Try.initOrder_signs]
  have h := List.take_append_drop 1 (behindMainWord (wordsSigns headSigns))
  rw [head_words] at h
  exact ⟨_, h.symm⟩
theorem Try.make : Try.prog.make = some .cut := by obtain ⟨_, h⟩ := Try.words; exact make_of h
theorem Try.liftsFinal : Try.prog.liftsFinal = false := by obtain ⟨_, h⟩ := Try.words; exact final_of h
theorem Try.laysLater : Try.prog.laysLater = false := by kernel_rfl
theorem Try.bearsReflect : Try.prog.bearsReflect = false := by kernel_rfl
theorem Try.doorFits : Try.prog.doorFits [] = true := by kernel_rfl
theorem Try.mayEnter : Try.prog.mayEnter = true := by obtain ⟨_, h⟩ := Try.words; exact enter_of h Try.laysLater Try.bearsReflect Try.doorFits
theorem Try.mapsRowed : mapsRowed Try.prog = true := by kernel_rfl
theorem Try.stops : (Try.prog.stops == []) = true := by kernel_rfl
theorem Try.stopKnobs : (Try.prog.stopKnobs == []) = true := by kernel_rfl
theorem Try.plainKeys : Try.prog.plainKeys = true := by kernel_rfl
theorem Try.stopsHeard : Try.prog.stopsHeard = true := by kernel_rfl

/-- What the types of one law give: closed facts on its parameters and its result. -/
def typeFacts (P : Program) (fn : Func) (s : ChangeSpec) (c : OpenClaim) : Bool :=
  fn.params.all (P.readableRec ·) && namedTie P c.named s.vars && (c.stops == []) && (c.knobs == []) &&
  (c.maps == (fn.params.toList ++ s.plain.varTypes P).any (P.mapsRec ·)) && (c.ifaces == (fn.params.toList ++ s.plain.varTypes P).any (P.ifacesRec ·)) && (c.mapsOut == P.mapsAmong fn.resultTypes.toList) &&
  (c.loops == (fn.params.toList ++ s.plain.varTypes P).any (P.loopsFrom ·)) && (c.wideKeys == (fn.params.toList ++ s.plain.varTypes P ++ fn.resultTypes.toList).any (P.wideKeysFrom ·)) &&
  s.vars.all (P.varReadable ·) && fn.resultTypes.all (fun t => P.readableRec t && decide (t < P.types.size)) && (c.ifacesOut == fn.resultTypes.toList.any (P.ifacesRec ·)) && (c.loopsOut == fn.resultTypes.toList.any (P.loopsFrom ·)) && c.shortTexts.isNone &&
  (c.kinds == (if c.domain.isEmpty then [] else fn.params.toList.map fun t => match P.underlying t with | some (.int k) => some k | _ => none)) && (c.pinned == c.pinnedBy) &&
  (c.veiled == (fn.params.toList ++ s.plain.varTypes P ++ fn.resultTypes.toList).any (P.veiledRec ·)) && c.veiledFits P fn.params.toList (fn.params.toList ++ s.plain.varTypes P ++ fn.resultTypes.toList)
theorem joined_all {P : Program} {f : FuncId} {fn : Func} {s : ChangeSpec} {c : OpenClaim} (k1 : c.wf (OpenSpec.ofChange s) = true) (kt : typeFacts P fn s c = true)
    (k10 : (c.inPlace == P.inPlace f) = true) (k11 : (c.unfollowed == P.unfollowed f) = true) (k12 : (c.recurses == P.recurses f) = true) (k13 : (c.named == P.varsNamed f) = true)
    (e2 : laidOutB P = true) (e3 : mapsRowed P = true) (e7 : (P.stops == []) = true) (e9 : (P.stopKnobs == []) = true) (e22 : (c.plainKeys == P.plainKeys) = true) (e23 : P.stopsHeard = true) (e24 : P.mayEnter = true)
    (e24b : (c.lifted == P.liftsFinal) = true) (e24c : (P.make == some c.make) = true) : joinedFacts P f fn s c = true := by
  unfold typeFacts at kt
  unfold joinedFacts
  simp only [Bool.and_eq_true] at kt ⊢
  obtain ⟨⟨⟨⟨⟨⟨⟨⟨⟨⟨⟨⟨⟨⟨⟨⟨⟨t1, t2⟩, t3⟩, t4⟩, t5⟩, t6⟩, t7⟩, t8⟩, t9⟩, t10⟩, t11⟩, t12⟩, t13⟩, t14⟩, t15⟩, t16⟩, t17⟩, t18⟩ := kt
  exact ⟨⟨⟨⟨⟨⟨⟨⟨⟨⟨⟨⟨⟨⟨⟨⟨⟨⟨⟨⟨⟨⟨⟨⟨⟨⟨⟨⟨⟨⟨⟨k1, e2⟩, e3⟩, t1⟩, t2⟩, t3⟩, e7⟩, t4⟩, e9⟩, k10⟩, k11⟩, k12⟩, k13⟩, t5⟩, t6⟩, t7⟩, t8⟩, t9⟩, t10⟩, t11⟩, t12⟩, t13⟩, e22⟩, t14⟩, e23⟩, e24⟩, e24b⟩, e24c⟩, t15⟩, t16⟩, t17⟩, t18⟩
theorem joined_of {f : FuncId} {fn : Func} {s : ChangeSpec} {c : OpenClaim} (k1 : c.wf (OpenSpec.ofChange s) = true) (kt : typeFacts Try.prog fn s c = true)
    (k10 : (c.inPlace == Try.prog.inPlace f) = true) (k11 : (c.unfollowed == Try.prog.unfollowed f) = true) (k12 : (c.recurses == Try.prog.recurses f) = true) (k13 : (c.named == Try.prog.varsNamed f) = true)
    (k22 : c.plainKeys = true) (k24b : c.lifted = false) (k24c : c.make = .cut) : joinedFacts Try.prog f fn s c = true :=
  joined_all k1 kt k10 k11 k12 k13 Try.laidOut Try.mapsRowed Try.stops Try.stopKnobs (by rw [k22, Try.plainKeys]; rfl) Try.stopsHeard Try.mayEnter (by rw [k24b, Try.liftsFinal]; rfl) (by rw [k24c, Try.make]; rfl)
end Go.Proofs.Ytefkcfkicmfhlaa
