/-
  Texts put together for the claims of 'MostInPairs' (pack 4): Of, MatD, MatE, PairsR, FirstPr, IterG, Marks, FirstPi.
-/
import Derived.Test.YtkiobefojckocaaMostInPairsP2
import Derived.Test.YtkiobefojckocaaMostInPairsP3
import Derived.Laws.AppendOwnNone
import Derived.BigQuiet
/-
  THE MODEL's PARTY OF A TABLE, by its contract.
-/
namespace Go.Proofs.Ytkiobefojckocaa
open Go.RowKit

def tabP (n : Nat) (t : Nat → Nat → Bool) : PL := (allP n).filter fun q => t q.1.toNat q.2.toNat

/-- 'paOf' in the middle of its loops: the result's box is as it was made, the party's box holds the pairs so far. -/
structure OfRel (w wr : World) (n : Nat) (v : Value) (L : PL) : Prop where
  below : Below w.heap.size w wr
  res : wr.heap[w.heap.size]? = some (.cells #[.int .i64 0, .slice none 0 0] 24 (0, 0))
  box : wr.heap[w.heap.size + 1]? = some (.cells #[.int .i64 n, v] 24 (0, 0))
  own : wr.ownsRow (w.heap.size + 2) 76 2 v L.length (pcells L)
theorem lt_of_heap {w : World} {b : Nat} {o : Obj} (h : w.heap[b]? = some o) : b < w.heap.size := (Array.getElem?_eq_some_iff.1 h).1
theorem OfRel.start (w : World) (n : Nat) : OfRel w ((w.alloc (.cells #[.int .i64 0, .slice none 0 0] 24)).alloc (.cells #[.int .i64 n, .slice none 0 0] 24)) n (.slice none 0 0) [] := by
  refine ⟨by go_grown, ?_, ?_, World.ownsRow_nil _ _ _ _⟩
  · rw [Below.heap_alloc _ _ _ (by simp)]
    exact heap_alloc_new w _
  · have := heap_alloc_new (w.alloc (.cells #[.int .i64 0, .slice none 0 0] 24)) (.cells #[.int .i64 n, .slice none 0 0] 24)
    simpa using this
/-- one pair more -/
theorem OfRel.push {w wr w1 : World} {n : Nat} {v v' : Value} {L : PL} {x y : Int} {o : Obj} (h : OfRel w wr n v L) (hown : w1.ownsRow (w.heap.size + 2) 76 2 v' (L.length + 1) (pcells L ++ [.int .i64 x, .int .i64 y])) (hg : (wr.alloc o).grownBy w1 v.ownBlock) :
    OfRel w (w1.setCell ⟨w.heap.size + 1, 1, none⟩ v') n v' (L ++ [(x, y)]) := by
  have hs := lt_of_heap h.box
  have hb : ∀ k, k < w.heap.size + 2 → w1.heap[k]? = wr.heap[k]? := fun k hk => by
    rw [hg.block k (by simp; omega) (fun e => by have := (h.own.lt k e.symm).1; omega), Below.heap_alloc _ _ _ (by omega)]
  have e1 := (hb (w.heap.size + 1) (by omega)).trans h.box
  refine ⟨?_, ?_, ?_, ?_⟩
  · exact ((h.below.alloc (by omega) o).grown hg (by simp; omega) (fun k hk => by have := (h.own.lt k hk).1; omega)).setCell (p := ⟨w.heap.size + 1, 1, none⟩) (by simp) _
  · rw [heap_setCell_other _ _ _ _ (by simp)]
    exact (hb _ (by omega)).trans h.res
  · exact heap_setCell_same w1 (w.heap.size + 1) 1 _ _ v' e1
  · have e : (L ++ [(x, y)]).length = L.length + 1 := by simp
    rw [e, pcells_append]
    refine hown.kept (row := some (w.heap.size + 1)) ⟨rfl, rfl, rfl, by simp, fun k _ hk => heap_setCell_other _ _ _ _ (fun e => hk (by rw [e]))⟩ ?_
    right
    intro e
    have := (hown.lt _ e).1
    omega
/-- what the walk reads behind an append -/
theorem OfRel.kept {w wr w1 : World} {n : Nat} {v : Value} {L : PL} {o : Obj} (h : OfRel w wr n v L) (hg : (wr.alloc o).grownBy w1 v.ownBlock) :
    w1.cell? ⟨w.heap.size + 1, 1, none⟩ = some v ∧ w1.frozen? ⟨w.heap.size + 1, 1, none⟩ = false ∧ wr.heap.size < w1.heap.size ∧ w.heap.size + 1 < w1.heap.size ∧ w.heap.size < w1.heap.size := by
  have hs := lt_of_heap h.box
  have e1 : w1.heap[w.heap.size + 1]? = some (.cells #[.int .i64 n, v] 24 (0, 0)) := by
    rw [hg.block _ (by simp; omega) (fun e => by have := (h.own.lt _ e.symm).1; omega), Below.heap_alloc _ _ _ (by omega)]
    exact h.box
  have := hg.size
  simp only [World.size_alloc] at this
  exact ⟨by rw [cell_of_row _ _ _ _ _ _ e1]; rfl, frozen_of_row _ _ _ _ _ e1, by omega, by omega, by omega⟩
theorem two_cells {w : World} {g : Nat} {u v : Value} (h : w.cell? ⟨g, 0, none⟩ = some u) (h' : w.cell? ⟨g, 1, none⟩ = some v) : ∀ j x, [u, v][j]? = some x → w.cell? ((⟨g, 0, none⟩ : Addr).add j) = some x := by
  intro j x hx
  match j, hx with
  | 0, hx => simp at hx; subst hx; simpa [Addr.add] using h
  | 1, hx => simp at hx; subst hx; simpa [Addr.add] using h'
theorem two_one {u v : Value} (h : u.oneCell' = true) (h' : v.oneCell' = true) : ∀ x ∈ [u, v], x.oneCell' = true := by
  intro x hx
  simp at hx
  rcases hx with rfl | rfl
  · exact h
  · exact h'
theorem OfRel.cells {w wr : World} {n : Nat} {v : Value} {L : PL} (h : OfRel w wr n v L) : wr.cell? ⟨w.heap.size, 0, none⟩ = some (.int .i64 0) ∧ wr.cell? ⟨w.heap.size, 1, none⟩ = some (.slice none 0 0) ∧
    wr.cell? ⟨w.heap.size + 1, 0, none⟩ = some (.int .i64 n) ∧ wr.cell? ⟨w.heap.size + 1, 1, none⟩ = some v ∧ (∀ j, wr.frozen? ⟨w.heap.size, j, none⟩ = false) ∧ (∀ j, wr.frozen? ⟨w.heap.size + 1, j, none⟩ = false) :=
  ⟨by rw [cell_of_row _ _ _ _ _ _ h.res]; rfl, by rw [cell_of_row _ _ _ _ _ _ h.res]; rfl, by rw [cell_of_row _ _ _ _ _ _ h.box]; rfl, by rw [cell_of_row _ _ _ _ _ _ h.box]; rfl,
    fun j => frozen_of_row _ _ j _ _ h.res, fun j => frozen_of_row _ _ j _ _ h.box⟩

theorem filter_upTo_yes {n a b : Nat} {t : Nat → Nat → Bool} (h : a < b) (ht : t a b = true) : (upTo n a (b + 1)).filter (fun q => t q.1.toNat q.2.toNat) = (upTo n a b).filter (fun q => t q.1.toNat q.2.toNat) ++ [((a : Int), (b : Int))] := by
  rw [upTo_next h, List.filter_append]
  simp [ht]
theorem filter_upTo_no {n a b : Nat} {t : Nat → Nat → Bool} (h : a < b) (ht : t a b = false) : (upTo n a (b + 1)).filter (fun q => t q.1.toNat q.2.toNat) = (upTo n a b).filter (fun q => t q.1.toNat q.2.toNat) := by
  rw [upTo_next h, List.filter_append]
  simp [ht]
theorem upTo_length {n a b : Nat} (ha : a ≤ 12) (hb : b ≤ 13) (hn : n ≤ 12) : (upTo n a b).length ≤ 1000 := by
  unfold upTo rowP
  simp only [List.length_append, List.length_flatMap, List.length_map, List.length_range']
  have h : ∀ l : List Nat, (l.map fun a => n - (a + 1)).sum ≤ l.length * n := by
    intro l
    induction l with
    | nil => simp
    | cons x l ih => simp only [List.map_cons, List.sum_cons, List.length_cons, Nat.add_mul, Nat.one_mul]; omega
  have h1 := h (List.range a)
  rw [List.length_range] at h1
  have h2 : a * n ≤ 12 * 12 := Nat.mul_le_mul ha hn
  omega

end Go.Proofs.Ytkiobefojckocaa
/-
  PAIRINGS: the model's recursion ('taPair', 'taPairs'), by its contract.
-/
namespace Go.Proofs.Ytkiobefojckocaa
open Go.RowKit

theorem own_none2 {w : World} {B : Nat} {e : TypeId} {size m c : Nat} {A : Option Addr} {xs : List Value} (h : w.ownsRow B e size (.slice A m c) m xs) : (A = none ∧ m = 0 ∧ c = 0) ∨ ∃ g, A = some ⟨g, 0, none⟩ := by
  rcases h.2 with ⟨h1, h2⟩ | ⟨g, cap, cur, hv, _⟩
  · simp only [Value.slice.injEq] at h1
    exact .inl ⟨h1.1, h2, h1.2.2⟩
  · simp only [Value.slice.injEq] at hv
    exact .inr ⟨g, hv.1⟩
theorem own_ap {S : Nat → Prop} {w w' : World} {B : Nat} {e : TypeId} {size n : Nat} {v : Value} {xs : List Value} (h : w.ownsRow B e size v n xs) (ha : Apart S w w') (hS : ∀ j, S j → j < B) : w'.ownsRow B e size v n xs := by
  refine ⟨h.1, ?_⟩
  rcases h.2 with h1 | ⟨g, cap, cur, hv, hb, hg, rest⟩
  · exact .inl h1
  · exact .inr ⟨g, cap, cur, hv, hb, (ha.same g (Array.getElem?_eq_some_iff.1 hg).1 (fun hs => by have := hS g hs; omega)).trans hg, rest⟩
theorem Apart.setCell {S : Nat → Prop} {A : World} {p : Addr} (hp : S p.block) (v : Value) : Apart S A (A.setCell p v) :=
  ⟨(Below.refl 0 A).setCell (Nat.zero_le _) v, fun j _ hn => Below.heap_setCell A p v j fun e => hn (e ▸ hp)⟩
theorem dTo_len {t : Nat → Nat → Bool} {n : Nat} (hn : n ≤ 12) (f a : Nat) (told : PL) (S : Nat → Bool) : ∀ j, (dTo t f n a told S j).length ≤ j * 12 ^ f := by
  intro j
  induction j with
  | zero => unfold dTo; simp
  | succ j ih =>
    by_cases h : a < j ∧ t a j = true ∧ S j = true
    · rw [dTo_yes h.1 h.2.1 h.2.2, List.length_append, Nat.succ_mul]
      have := dP_len (t := t) hn f (told ++ [((a : Int), (j : Int))]) (cutQ S ((a : Int), (j : Int)))
      omega
    · have e : dTo t f n a told S (j + 1) = dTo t f n a told S j := by
        unfold dTo
        rw [List.range_succ, List.filter_append]
        have : (decide (a < j) && t a j && S j) = false := by
          by_cases h1 : a < j <;> by_cases h2 : t a j = true <;> by_cases h3 : S j = true <;> simp_all
        simp [this]
      have h0 : 0 < 12 ^ f := Nat.pow_pos (by omega)
      rw [e, Nat.succ_mul]
      omega

/-- the count, the first one and the row of those done -/
structure PairAt (w : World) (n : Nat) (S : Nat → Bool) (gd pc pf : Nat) (cnt : Nat) (fst : PL) (B : Nat) (FA : Option Addr) (fc : Nat) : Prop where
  done : w.rowIs gd 4 n (fun x => .bool (!S x))
  cntc : w.heap[pc]? = some (Obj.cells #[.int .i64 cnt] 3)
  fstc : w.heap[pf]? = some (Obj.cells #[.slice FA fst.length fc] 22)
  row : w.ownsRow B 76 2 (.slice FA fst.length fc) fst.length (pcells fst)
section
variable {w w' : World} {n : Nat} {S S' : Nat → Bool} {gd pc pf cnt : Nat} {fst : PL} {B : Nat} {FA : Option Addr} {fc : Nat}
theorem PairAt.below (h : PairAt w n S gd pc pf cnt fst B FA fc) (hb : Below w.heap.size w w') : PairAt w' n S gd pc pf cnt fst B FA fc :=
  ⟨h.done.of_block (hb.block _ h.done.lt), (hb.block _ (Array.getElem?_eq_some_iff.1 h.cntc).1).trans h.cntc, (hb.block _ (Array.getElem?_eq_some_iff.1 h.fstc).1).trans h.fstc, own_below h.row hb (Nat.le_refl _)⟩
theorem PairAt.congr (h : PairAt w n S gd pc pf cnt fst B FA fc) (e : ∀ x, x < n → S x = S' x) : PairAt w n S' gd pc pf cnt fst B FA fc :=
  ⟨h.done.congr fun x hx => by rw [e x hx], h.cntc, h.fstc, h.row⟩
theorem PairAt.mark (h : PairAt w n S gd pc pf cnt fst B FA fc) (h1 : gd ≠ pc) (h2 : gd ≠ pf) (hB : gd < B) (a : Nat) (v : Bool) :
    PairAt (w.setCell ⟨gd, a, none⟩ (.bool v)) n (fun x => if x = a then !v else S x) gd pc pf cnt fst B FA fc :=
  ⟨(h.done.set a (.bool v)).congr fun x _ => by by_cases e : x = a <;> simp [e], (Below.heap_setCell _ _ _ _ (Ne.symm h1)).trans h.cntc, (Below.heap_setCell _ _ _ _ (Ne.symm h2)).trans h.fstc, own_ap h.row (Apart.setCell (S := fun j => j = gd) rfl _) (fun j hj => by omega)⟩
theorem box_set {w : World} {b : Nat} {v u : Value} {t : TypeId} (h : w.heap[b]? = some (Obj.cells #[v] t)) : (w.setCell ⟨b, 0, none⟩ u).heap[b]? = some (Obj.cells #[u] t) := by
  simp [World.setCell, Array.getElem?_modify, h]
theorem PairAt.counted (h : PairAt w n S gd pc pf cnt fst B FA fc) (h1 : gd ≠ pc) (h3 : pc ≠ pf) (hB : pc < B) : PairAt (w.setCell ⟨pc, 0, none⟩ (.int .i64 ((cnt : Int) + 1))) n S gd pc pf (cnt + 1) fst B FA fc :=
  ⟨h.done.setOther h1 _, by rw [box_set h.cntc]; rfl, (Below.heap_setCell _ _ _ _ (Ne.symm h3)).trans h.fstc, own_ap h.row (Apart.setCell (S := fun j => j = pc) rfl _) (fun j hj => by omega)⟩
theorem PairAt.firsts (h : PairAt w n S gd pc pf cnt fst B FA fc) (h2 : gd ≠ pf) (h3 : pc ≠ pf) (hB : pf < B) {l : PL} {A2 : Option Addr} {c2 : Nat} (ho : w.ownsRow B 76 2 (.slice A2 l.length c2) l.length (pcells l)) :
    PairAt (w.setCell ⟨pf, 0, none⟩ (.slice A2 l.length c2)) n S gd pc pf cnt l B A2 c2 :=
  ⟨h.done.setOther h2 _, (Below.heap_setCell _ _ _ _ h3).trans h.cntc, by rw [box_set h.fstc], own_ap ho (Apart.setCell (S := fun j => j = pf) rfl _) (fun j hj => by omega)⟩
end
theorem cell_in {w : World} {b : Nat} {v : Value} {t : TypeId} (h : w.heap[b]? = some (Obj.cells #[v] t)) : w.cell? ⟨b, 0, none⟩ = some v := by rw [cell_of_row _ _ _ _ _ _ h]; rfl

set_option maxHeartbeats 8000000 in
set_option maxRecDepth 100000 in
theorem taPair_none (n : Nat) (hn : n ≤ 12) (t : Nat → Nat → Bool) (At : Option Addr) (ct cd gd pc pf B : Nat) (_G : Nat → Nat) (hgc : gd ≠ pc) (hgf : gd ≠ pf) (hcf : pc ≠ pf) (_hgB : gd < B) (hcB : pc < B) (hfB : pf < B)
    (f : Nat) (S : Nat → Bool) (told : PL) (A : Option Addr) (c cnt : Nat) (fst : PL) (FA : Option Addr) (fc : Nat) (w : World) (hS : ∀ x, x < n → S x = false) (h24 : told.length ≤ 24) (hcnt : cnt + 1 ≤ 2 ^ 60) (hBw : B ≤ w.heap.size)
    (hP : PairAt w n S gd pc pf cnt fst B FA fc) (own : w.ownsRow B 76 2 (.slice A told.length c) told.length (pcells told)) :
    Calls Try.prog 79 #[.slice At n ct, .slice (some ⟨gd, 0, none⟩) n cd, .slice A told.length c, .pointer (some ⟨pc, 0, none⟩), .pointer (some ⟨pf, 0, none⟩)] w fun e w' =>
      e = .returned (.tuple #[]) ∧ Apart (fun j => j = gd ∨ j = pc ∨ j = pf) w w' ∧ ∃ FA' fc', PairAt w' n S gd pc pf (cnt + (dP t n f told S).length) (firstQ fst cnt (dP t n f told S)) B FA' fc' := by
  obtain ⟨i0, hi, hz0, hz1, hz2⟩ := info_parts Try.infoPair
  rw [dP_none hS]
  have hfirst : firstQ fst cnt [told] = if cnt = 0 then told else fst := rfl
  rw [hfirst]
  simp only [List.length_cons, List.length_nil, Nat.zero_add]
  obtain ⟨F, hF⟩ : ∃ F, (if cnt = 0 then told else fst) = F := ⟨_, rfl⟩
  rw [hF]
  have HF := Lib.hid hF
  have lpc : pc < w.heap.size := by omega
  have lpf : pf < w.heap.size := by omega
  have HS := Lib.hid hS
  have HP := Lib.hid hP
  have Own := Lib.hid own
  have cc := cell_in hP.cntc
  have fcz := frozen_of_row _ _ 0 _ _ hP.cntc
  have hp60 : (2 : Nat) ^ 60 = 1152921504606846976 := by decide
  have ff := cell_in hP.fstc
  have ffz := frozen_of_row _ _ 0 _ _ hP.fstc
  clear hS hP own hfirst hF
  go_enter Try.func79, Try.ntmps79
  go_wp2
  go_loop [10] (fun i => ∃ a : Nat, a ≤ n ∧ i = .int .i64 a) (fun i => n - (intOf i).toNat)
  case atStart => exact ⟨0, Nat.zero_le _, rfl⟩
  case round =>
    obtain ⟨a, ha, rfl⟩ := hrel
    by_cases hlt : a < n
    · have hai : (a : Int) < n := by omega
      have hd := HP.out.done.cell hlt
      rw [HS.out a hlt] at hd
      go_wp2
      go_round
      case rel => exact ⟨a + 1, by omega, by go_num⟩
      case measure => simp [intOf]; omega
    · have hal : a = n := by omega
      subst hal
      have hge : ¬ ((a : Int) < a) := by omega
      have hdd : decide ((a : Int) < a) = false := decide_eq_false hge
      by_cases hc0 : cnt = 0
      · subst hc0
        have hFt : told = F := by rw [← HF.out, if_pos rfl]
        subst hFt
        rcases own_none2 Own.out with ⟨rfl, h0, rfl⟩ | ⟨g, rfl⟩
        · have ht : told = [] := List.eq_nil_of_length_eq_zero h0
          subst ht
          have h1 : (w.alloc (.cells #[] 76)).ownsRow w.heap.size 76 2 (.slice (some ⟨w.heap.size, 0, none⟩) 0 0) 0 [] := World.ownsRow_made w #[] 0 (Nat.le_refl _) (Nat.zero_le _) rfl
          have kX : Below w.heap.size w (w.alloc (.cells #[] 76)) := by go_grown
          have P1 := (HP.out.below kX).firsts hgf hcf hfB (l := []) (own_lower h1 hBw)
          have P2 := P1.counted hgc hcf hcB
          have x1 := cell_in P1.cntc
          have x2 := frozen_of_row _ _ 0 _ _ P1.cntc
          have x3 := cell_in (HP.out.below kX).fstc
          have x4 := frozen_of_row _ _ 0 _ _ (HP.out.below kX).fstc
          have lpc2 : pc < (w.setCell ⟨pf, 0, none⟩ (.slice (some ⟨w.heap.size, 0, none⟩) 0 0)).heap.size := by simp; omega
          have ap := ((Apart.of_below (S := fun j => j = gd ∨ j = pc ∨ j = pf) kX).trans (Apart.setCell (S := fun j => j = gd ∨ j = pc ∨ j = pf) (p := ⟨pf, 0, none⟩) (.inr (.inr rfl)) (.slice (some ⟨w.heap.size, 0, none⟩) 0 0)) (fun j hj => .inl hj)).trans (Apart.setCell (S := fun j => j = gd ∨ j = pc ∨ j = pf) (p := ⟨pc, 0, none⟩) (.inr (.inl rfl)) (.int .i64 (((0 : Nat) : Int) + 1))) (fun j hj => .inl hj)
          have e1 := World.setCell_alloc_past (w := w) (.cells #[] 76) pf 0 (.slice (some ⟨w.heap.size, 0, none⟩) 0 0) lpf
          have e2 := World.setCell_alloc_past (w := w.setCell ⟨pf, 0, none⟩ (.slice (some ⟨w.heap.size, 0, none⟩) 0 0)) (.cells #[] 76) pc 0 (.int .i64 (((0 : Nat) : Int) + 1)) lpc2
          have e3 : ([] : PL).length = 0 := rfl
          rw [e3, e1, e2] at P2
          rw [e1, e2] at ap
          have HP2 := Lib.hid P2
          have Ap := Lib.hid ap
          clear P1 P2 ap e1 e2 e3 lpc2
          go_wp2_with (at_builtin; refine wpList_append_own_none rfl _ _ 22 rfl w.heap.size 76 i0 2 Try.underlying22 hi _ _ _ rfl h1 rfl ?_)
          refine show _ = [] ∧ _ from ⟨rfl, .tuple #[], by simp [results, Try.results79, go_sem], ?_⟩
          exact ⟨rfl, Ap.out, _, _, HP2.out⟩
        · have h1 : (w.alloc (.cells #[] 76)).ownsRow w.heap.size 76 2 (.slice (some ⟨w.heap.size, 0, none⟩) 0 0) 0 [] := World.ownsRow_made w #[] 0 (Nat.le_refl _) (Nat.zero_le _) rfl
          have kX : Below w.heap.size w (w.alloc (.cells #[] 76)) := by go_grown
          have rdX : CRead (w.alloc (.cells #[] 76)) (w.alloc (.cells #[] 76)).heap.size (some ⟨g, 0, none⟩) (pcells told) := (CRead.of_own Own.out).below kX (Nat.le_refl _) |>.more kX.size
          go_wp2_with (at_builtin; refine wpList_append_own _ rfl _ _ 22 rfl w.heap.size 76 i0 _ 2 16 Try.underlying22 hi hz0 hz1 hz2 rfl (by decide) (.slice (some ⟨w.heap.size, 0, none⟩) 0 0) 0 [] rfl h1 ⟨g, 0, none⟩ told.length c (pcells told) rfl (pcells_length told) (read_add_P rdX) (pcells_one _) (by unfold maxLen; omega) (by omega) (by simp) ?_; intro v1 w1 own1 gr1 _; have k1 : Below w.heap.size w w1 := kX.grown gr1 (by simp) (by intro m hm; simp [Value.ownBlock] at hm; omega); obtain ⟨A1, c1, rfl, _⟩ := own_shape own1; simp only [Nat.zero_add, List.nil_append] at own1; have P0 := HP.out.below k1; have x3 := cell_in P0.fstc; have x4 := frozen_of_row _ _ 0 _ _ P0.fstc; have P1 := P0.firsts hgf hcf hfB (own_lower own1 hBw); have x1 := cell_in P1.cntc; have x2 := frozen_of_row _ _ 0 _ _ P1.cntc; have HP2 := Lib.hid (P1.counted hgc hcf hcB); have HK1 := Lib.hid k1; clear P0 P1 own1 gr1 k1)
          refine show _ = [] ∧ _ from ⟨rfl, .tuple #[], by simp [results, Try.results79, go_sem], ?_⟩
          refine ⟨rfl, ?_, _, _, HP2.out⟩
          exact ((Apart.of_below (S := fun j => j = gd ∨ j = pc ∨ j = pf) HK1.out).trans (Apart.setCell (S := fun j => j = gd ∨ j = pc ∨ j = pf) (p := ⟨pf, 0, none⟩) (.inr (.inr rfl)) _) (fun j hj => .inl hj)).trans (Apart.setCell (S := fun j => j = gd ∨ j = pc ∨ j = pf) (p := ⟨pc, 0, none⟩) (.inr (.inl rfl)) _) (fun j hj => .inl hj)
      · have hcb : ((cnt : Int) == 0) = false := by simp; omega
        have hFt : fst = F := by rw [← HF.out, if_neg hc0]
        subst hFt
        have HP2 := Lib.hid (HP.out.counted hgc hcf hcB)
        go_wp2
        refine show _ = [] ∧ _ from ⟨rfl, .tuple #[], by simp [results, Try.results79, go_sem], ?_⟩
        exact ⟨rfl, Apart.setCell (S := fun j => j = gd ∨ j = pc ∨ j = pf) (p := ⟨pc, 0, none⟩) (.inr (.inl rfl)) _, _, _, HP2.out⟩
set_option maxHeartbeats 8000000 in
set_option maxRecDepth 100000 in
theorem taPair_any (n : Nat) (hn : n ≤ 12) (t : Nat → Nat → Bool) (At : Option Addr) (ct cd gd pc pf B : Nat) (G : Nat → Nat) (wt : World) (hgc : gd ≠ pc) (hgf : gd ≠ pf) (hcf : pc ≠ pf) (hgB : gd < B) (hcB : pc < B) (hfB : pf < B)
    (hT : ∀ X : World, Apart (fun j => j = gd ∨ j = pc ∨ j = pf) wt X → ∀ i j, i < n → j < n → ∃ gt, At = some ⟨gt, 0, none⟩ ∧ X.cell? ⟨gt, i, none⟩ = some (.slice (some ⟨G i, 0, none⟩) n n) ∧ X.cell? ⟨G i, j, none⟩ = some (.bool (t i j))) :
    ∀ (f : Nat) (S : Nat → Bool) (told : PL) (A : Option Addr) (c cnt : Nat) (fst : PL) (FA : Option Addr) (fc : Nat) (w : World), cntQ n S 0 ≤ f → told.length + f ≤ 24 → cnt + 12 ^ f ≤ 2 ^ 60 → B ≤ w.heap.size →
    Apart (fun j => j = gd ∨ j = pc ∨ j = pf) wt w → PairAt w n S gd pc pf cnt fst B FA fc → w.ownsRow B 76 2 (.slice A told.length c) told.length (pcells told) →
    Calls Try.prog 79 #[.slice At n ct, .slice (some ⟨gd, 0, none⟩) n cd, .slice A told.length c, .pointer (some ⟨pc, 0, none⟩), .pointer (some ⟨pf, 0, none⟩)] w fun e w' =>
      e = .returned (.tuple #[]) ∧ Apart (fun j => j = gd ∨ j = pc ∨ j = pf) w w' ∧ ∃ FA' fc', PairAt w' n S gd pc pf (cnt + (dP t n f told S).length) (firstQ fst cnt (dP t n f told S)) B FA' fc' := by
  obtain ⟨i0, hi, hz0, hz1, hz2⟩ := info_parts Try.infoPair
  have HT := Lib.hid hT
  clear hT
  intro f
  induction f with
  | zero =>
    intro S told A c cnt fst FA fc w hcq h24 hcnt hBw _ hP own
    exact taPair_none n hn t At ct cd gd pc pf B G hgc hgf hcf hgB hcB hfB 0 S told A c cnt fst FA fc w (cntQ_none (by omega)) (by omega) (by simpa using hcnt) hBw hP own
  | succ f ih =>
    intro S told A c cnt fst FA fc w hcq h24 hcnt hBw hap hP own
    have h0 : 0 < 12 ^ f := Nat.pow_pos (by omega)
    by_cases hz : cntQ n S 0 = 0
    · exact taPair_none n hn t At ct cd gd pc pf B G hgc hgf hcf hgB hcB hfB (f + 1) S told A c cnt fst FA fc w (cntQ_none hz) (by omega) (by rw [Nat.pow_succ] at hcnt; omega) hBw hP own
    obtain ⟨a, hleast, han, hSa, hbef⟩ := leastQ_some (n := n) (S := S) (by omega)
    rw [dTo_all hleast]
    have lpc : pc < w.heap.size := by omega
    have lpf : pf < w.heap.size := by omega
    have lgd : gd < w.heap.size := by omega
    obtain ⟨Sa, hSadef⟩ : ∃ Sa : Nat → Bool, Sa = fun x => if x = a then !true else S x := ⟨_, rfl⟩
    have P1 := hP.mark hgc hgf hgB a true
    rw [← hSadef] at P1
    have ap1 : Apart (fun j => j = gd ∨ j = pc ∨ j = pf) w (w.setCell ⟨gd, a, none⟩ (.bool true)) := Apart.setCell (p := ⟨gd, a, none⟩) (.inl rfl) _
    have HP := Lib.hid hP
    have HP1 := Lib.hid P1
    have HAp1 := Lib.hid ap1
    have Hap := Lib.hid hap
    have Own := Lib.hid own
    have Hbef := Lib.hid hbef
    have HSa := Lib.hid hSa
    have HSd := Lib.hid hSadef
    have IH := Lib.hid ih
    have Hcnt := Lib.hid hcnt
    have Hcq := Lib.hid hcq
    have hsz1 : (w.setCell ⟨gd, a, none⟩ (.bool true)).heap.size = w.heap.size := by simp
    obtain ⟨X1, hX1⟩ : ∃ X1, w.setCell ⟨gd, a, none⟩ (.bool true) = X1 := ⟨_, rfl⟩
    rw [hX1] at HP1 HAp1 hsz1
    have HX1 := Lib.hid hX1
    clear hP P1 ap1 hap own hbef hSa hSadef ih hcnt hcq hX1
    go_enter Try.func79, Try.ntmps79
    go_wp2
    go_loop [10] (fun i => ∃ a' : Nat, a' ≤ a ∧ i = .int .i64 a') (fun i => n - (intOf i).toNat)
    case atStart => exact ⟨0, Nat.zero_le _, rfl⟩
    case round =>
      obtain ⟨a', ha', rfl⟩ := hrel
      by_cases hlt : a' < a
      · have hai : (a' : Int) < n := by omega
        have hd := HP.out.done.cell (i := a') (by omega)
        rw [Hbef.out a' hlt] at hd
        go_wp2
        go_round
        case rel => exact ⟨a' + 1, by omega, by go_num⟩
        case measure => simp [intOf]; omega
      · have hal : a' = a := by omega
        subst hal
        have hai : (a' : Int) < n := by omega
        have hd := HP.out.done.cell han
        rw [HSa.out] at hd
        have hne : ((a' : Int) == (n : Int)) = false := by simp; omega
        have hfz := HP.out.done.frozen a'
        go_wp2_with fail
        rw [HX1.out]
        go_loopw [11] (fun i wr => ∃ (b cnt' : Nat) (fst' : PL) (FA' : Option Addr) (fc' : Nat), a' + 1 ≤ b ∧ b ≤ n ∧ i = .int .i64 b ∧ Apart (fun j => j = gd ∨ j = pc ∨ j = pf) w wr ∧ PairAt wr n Sa gd pc pf cnt' fst' B FA' fc' ∧ cnt' = cnt + (dTo t f n a' told S b).length ∧ fst' = firstQ fst cnt (dTo t f n a' told S b)) (fun i _ => n - (intOf i).toNat)
        case atStart => exact ⟨a' + 1, cnt, fst, FA, fc, Nat.le_refl _, by omega, by go_num, HAp1.out, HP1.out, by rw [dTo_start]; rfl, by rw [dTo_start, firstQ_nil]⟩
        case round =>
          obtain ⟨b, cnt', fst', FA', fc', hab, hbn, rfl, apr, Pr, hC, hF⟩ := hrel
          have HC := Lib.hid hC
          have HF := Lib.hid hF
          have HPr := Lib.hid Pr
          have Apr := Lib.hid apr
          have lw := apr.below.size
          have ownr := own_ap Own.out apr (fun j hj => by omega)
          clear hC hF Pr apr hd hfz
          by_cases hlt : b < n
          · have hbi : (b : Int) < n := by omega
            obtain ⟨gt, hAt, t0, t1⟩ := HT.out wr (Hap.out.trans Apr.out (fun j hj => .inl hj)) a' b han hlt
            subst hAt
            have hdb := HPr.out.done.cell hlt
            have hSab : Sa b = S b := by rw [HSd.out]; simp only; rw [if_neg (by omega)]
            rw [hSab] at hdb
            cases htab : t a' b with
            | false =>
              rw [htab] at t1
              have Hno := Lib.hid (dTo_no (t := t) (f := f) (n := n) (a := a') (told := told) (S := S) (j := b) (by rw [htab]; rfl))
              clear htab hdb
              go_wp2
              go_roundw
              case rel => exact ⟨b + 1, cnt', fst', FA', fc', by omega, by omega, by go_num, Apr.out, HPr.out, by rw [Hno.out]; exact HC.out, by rw [Hno.out]; exact HF.out⟩
              case measure => simp [intOf]; omega
            | true =>
              rw [htab] at t1
              cases hSb : S b with
              | false =>
                rw [hSb] at hdb
                have Hno := Lib.hid (dTo_no (t := t) (f := f) (n := n) (a := a') (told := told) (S := S) (j := b) (by rw [hSb, Bool.and_false]))
                clear htab hSb
                go_wp2
                go_roundw
                case rel => exact ⟨b + 1, cnt', fst', FA', fc', by omega, by omega, by go_num, Apr.out, HPr.out, by rw [Hno.out]; exact HC.out, by rw [Hno.out]; exact HF.out⟩
                case measure => simp [intOf]; omega
              | true =>
                rw [hSb] at hdb
                have HSb := Lib.hid hSb
                have Hyes := Lib.hid (dTo_yes (f := f) (n := n) (told := told) (show a' < b by omega) htab hSb)
                have hfb := HPr.out.done.frozen b
                have hcut : cntQ n (cutQ S ((a' : Int), (b : Int))) 0 + 2 = cntQ n S 0 := cntQ_cut (by simp) (by simp; omega) (by simp; omega) (by unfold hasQ; simp only [Int.toNat_natCast, HSa.out, hSb]; rfl)
                have hdl := dTo_len (t := t) hn f a' told S b
                have hbm : b * 12 ^ f + 12 ^ f ≤ 12 * 12 ^ f := by
                  rw [← Nat.succ_mul]
                  exact Nat.mul_le_mul_right _ (by omega)
                have hcn := Hcnt.out
                rw [Nat.pow_succ, Nat.mul_comm] at hcn
                have hcc := HC.out
                have hcq := Hcq.out
                have P2 := (HPr.out.mark hgc hgf hgB b true).congr (S' := cutQ S ((a' : Int), (b : Int))) (fun x hx => by
                  rw [HSd.out]
                  simp only [cutQ_at]
                  by_cases e1 : x = b
                  · subst e1; simp
                  · rw [if_neg e1]
                    by_cases e2 : x = a'
                    · subst e2; simp
                    · rw [if_neg e2]; simp [e1, e2])
                have ap2 : Apart (fun j => j = gd ∨ j = pc ∨ j = pf) wr (wr.setCell ⟨gd, b, none⟩ (.bool true)) := Apart.setCell (p := ⟨gd, b, none⟩) (.inl rfl) _
                have hsX : (wr.setCell ⟨gd, b, none⟩ (.bool true)).heap.size = wr.heap.size := by simp
                have ownX := own_ap ownr ap2 (fun j hj => by omega)
                have HP2 := Lib.hid P2
                have HapwX := Lib.hid (Apr.out.trans ap2 (fun j hj => .inl hj))
                have HapX := Lib.hid (Hap.out.trans HapwX.out (fun j hj => .inl hj))
                have OwnX := Lib.hid ownX
                clear htab hSb P2 ap2 ownr ownX
                have h1 : ((wr.setCell ⟨gd, b, none⟩ (.bool true)).alloc (.cells #[] 76)).ownsRow wr.heap.size 76 2 (.slice (some ⟨wr.heap.size, 0, none⟩) 0 0) 0 [] := by
                  have h := World.ownsRow_made (e := 76) (size := 2) (base := (wr.setCell ⟨gd, b, none⟩ (.bool true)).heap.size) (wr.setCell ⟨gd, b, none⟩ (.bool true)) #[] 0 (Nat.le_refl _) (Nat.zero_le _) rfl
                  rwa [hsX] at h
                have kX : Below wr.heap.size (wr.setCell ⟨gd, b, none⟩ (.bool true)) ((wr.setCell ⟨gd, b, none⟩ (.bool true)).alloc (.cells #[] 76)) := (Below.refl _ _).alloc (by rw [hsX]; exact Nat.le_refl _) _
                have kxs : wr.heap.size ≤ ((wr.setCell ⟨gd, b, none⟩ (.bool true)).alloc (.cells #[] 76)).heap.size := by simp
                have HsX := Lib.hid hsX
                clear hsX
                rcases own_none2 OwnX.out with ⟨rfl, hz0', rfl⟩ | ⟨g, rfl⟩
                · have ht : told = [] := List.eq_nil_of_length_eq_zero hz0'
                  rw [hz0']
                  have own5 : ((wr.setCell ⟨gd, b, none⟩ (.bool true)).alloc (.cells #[] 76)).ownsRow wr.heap.size 76 2 (.slice (some ⟨wr.heap.size, 0, none⟩) 0 0) 0 [] := h1
                  have q0 : (((wr.setCell ⟨gd, b, none⟩ (.bool true)).alloc (.cells #[] 76)).alloc (.cells #[.int .i64 (a' : Int), .int .i64 (b : Int)] 76)).cell? ⟨wr.heap.size + 1, 0, none⟩ = some (.int .i64 (a' : Int)) := by
                    rw [← HsX.out]
                    generalize wr.setCell ⟨gd, b, none⟩ (.bool true) = X
                    simp
                  have q1 : (((wr.setCell ⟨gd, b, none⟩ (.bool true)).alloc (.cells #[] 76)).alloc (.cells #[.int .i64 (a' : Int), .int .i64 (b : Int)] 76)).cell? ⟨wr.heap.size + 1, 1, none⟩ = some (.int .i64 (b : Int)) := by
                    rw [← HsX.out]
                    generalize wr.setCell ⟨gd, b, none⟩ (.bool true) = X
                    simp
                  go_wp2_with (at_builtin; first
                    | (refine wpList_append_own _ rfl _ _ 22 rfl wr.heap.size 76 i0 _ 2 16 Try.underlying22 hi hz0 hz1 hz2 rfl (by decide) (.slice (some ⟨wr.heap.size, 0, none⟩) 0 0) 0 [] rfl (own5.alloc _) ⟨wr.heap.size + 1, 0, none⟩ 1 1 [.int .i64 (a' : Int), .int .i64 (b : Int)] rfl rfl (two_cells q0 q1) (two_one rfl rfl) (by unfold maxLen; omega) (by omega) (by simp <;> omega) ?_; intro v7 w7 own7 gr7 _; have k7 : Below wr.heap.size (wr.setCell ⟨gd, b, none⟩ (.bool true)) w7 := (kX.alloc kxs _).grown gr7 (by simp <;> omega) (by intro m hm; simp [Value.ownBlock] at hm; omega); obtain ⟨A7, c7, rfl, _⟩ := own_shape own7; have HK7 := Lib.hid k7; have Own7 := Lib.hid own7; clear own7 gr7 k7)
                    | (refine wpList_append_own_none rfl _ _ 22 rfl wr.heap.size 76 i0 2 Try.underlying22 hi _ _ _ rfl h1 rfl ?_))
                  clear own5
                  have hb7 : Below wr.heap.size (wr.setCell ⟨gd, b, none⟩ (.bool true)) w7 := HK7.out
                  have hb8 : Below (wr.setCell ⟨gd, b, none⟩ (.bool true)).heap.size (wr.setCell ⟨gd, b, none⟩ (.bool true)) w7 := by rw [HsX.out]; exact hb7
                  have s7 := hb8.size
                  rw [HsX.out] at s7
                  have P7 := HP2.out.below hb8
                  have hll : (told ++ [((a' : Int), (b : Int))]).length = 0 + 1 := by rw [ht]; rfl
                  have ap7 : Apart (fun j => j = gd ∨ j = pc ∨ j = pf) (wr.setCell ⟨gd, b, none⟩ (.bool true)) w7 := Apart.of_below hb8
                  have own8 : w7.ownsRow B 76 2 (.slice A7 (told ++ [((a' : Int), (b : Int))]).length c7) (told ++ [((a' : Int), (b : Int))]).length (pcells (told ++ [((a' : Int), (b : Int))])) := by
                    rw [hll, pcells_append, ht]
                    exact own_lower Own7.out (by omega)
                  have ihc := IH.out (cutQ S ((a' : Int), (b : Int))) (told ++ [((a' : Int), (b : Int))]) A7 c7 cnt' fst' FA' fc' w7 (by omega) (by rw [hll]; omega) (by omega) (by omega) (HapX.out.trans ap7 (fun j hj => .inl hj)) P7 own8
                  rw [hll] at ihc
                  have IHC := Lib.hid ihc
                  have Ap7 := Lib.hid ap7
                  clear ihc own8 P7 ap7 hb7 hb8
                  go_wp2_with fail
                  refine IHC.out.mono ?_
                  rintro e w8 ⟨rfl, ap8, FA8, fc8, P8⟩
                  have P9 := (P8.mark hgc hgf hgB b false).congr (S' := Sa) (fun x hx => by
                    rw [HSd.out]
                    simp only [cutQ_at]
                    by_cases e1 : x = b
                    · subst e1
                      rw [if_pos rfl, if_neg (by omega), HSb.out]; rfl
                    · rw [if_neg e1]
                      by_cases e2 : x = a'
                      · subst e2; simp
                      · rw [if_neg e2]; simp [e1, e2])
                  have ap9 : Apart (fun j => j = gd ∨ j = pc ∨ j = pf) w (w8.setCell ⟨gd, b, none⟩ (.bool false)) := (((HapwX.out.trans Ap7.out (fun j hj => .inl hj)).trans ap8 (fun j hj => .inl hj)).trans (Apart.setCell (p := ⟨gd, b, none⟩) (.inl rfl) _) (fun j hj => .inl hj))
                  have hd8 := P8.done.cell hlt
                  have hf8 := P8.done.frozen b
                  simp only [cutQ_at] at hd8
                  have hd9 : ∃ bb : Bool, w8.cell? ⟨gd, b, none⟩ = some (.bool bb) := ⟨_, hd8⟩
                  obtain ⟨bb, hd9⟩ := hd9
                  have P9' := Lib.hid P9
                  have Ap9 := Lib.hid ap9
                  have hs8 : w8.heap.size ≥ w7.heap.size := ap8.below.size
                  clear P9 ap9 P8 ap8 hd8 IHC
                  go_wp2
                  go_roundw
                  case rel =>
                    refine ⟨b + 1, cnt' + (dP t n f (told ++ [((a' : Int), (b : Int))]) (cutQ S ((a' : Int), (b : Int)))).length, firstQ fst' cnt' (dP t n f (told ++ [((a' : Int), (b : Int))]) (cutQ S ((a' : Int), (b : Int)))), FA8, fc8, by omega, by omega, by go_num, Ap9.out, P9'.out, ?_, ?_⟩
                    · rw [Hyes.out, List.length_append, HC.out]; omega
                    · rw [Hyes.out, HF.out, HC.out, firstQ_append]
                  case measure => simp [intOf]; omega
                · have rdX : CRead ((wr.setCell ⟨gd, b, none⟩ (.bool true)).alloc (.cells #[] 76)) ((wr.setCell ⟨gd, b, none⟩ (.bool true)).alloc (.cells #[] 76)).heap.size (some ⟨g, 0, none⟩) (pcells told) := (CRead.of_own OwnX.out).below (B' := wr.heap.size) kX (by rw [HsX.out]; exact Nat.le_refl _) |>.more (by rw [HsX.out]; exact kxs)
                  go_wp2_with (at_builtin; first
                    | (refine wpList_append_own _ rfl _ _ 22 rfl wr.heap.size 76 i0 _ 2 16 Try.underlying22 hi hz0 hz1 hz2 rfl (by decide) _ told.length _ rfl (own5.alloc _) ⟨w5.heap.size, 0, none⟩ 1 1 [.int .i64 (a' : Int), .int .i64 (b : Int)] rfl rfl (two_cells (by simp) (by simp)) (two_one rfl rfl) (by unfold maxLen; omega) (by omega) (by simp <;> omega) ?_; intro v7 w7 own7 gr7 _; have k7 : Below wr.heap.size (wr.setCell ⟨gd, b, none⟩ (.bool true)) w7 := (k5.alloc z5 _).grown gr7 (by simp <;> omega) (fun k hk => (own5.lt k hk).1); obtain ⟨A7, c7, rfl, _⟩ := own_shape own7; have HK7 := Lib.hid k7; have Own7 := Lib.hid own7; clear own7 gr7 k7)
                    | (refine wpList_append_own _ rfl _ _ 22 rfl wr.heap.size 76 i0 _ 2 16 Try.underlying22 hi hz0 hz1 hz2 rfl (by decide) (.slice (some ⟨wr.heap.size, 0, none⟩) 0 0) 0 [] rfl h1 ⟨g, 0, none⟩ told.length c (pcells told) rfl (pcells_length told) (read_add_P rdX) (pcells_one _) (by unfold maxLen; omega) (by omega) (by simp) ?_; intro v5 w5 own5 gr5 _; have k5 : Below wr.heap.size (wr.setCell ⟨gd, b, none⟩ (.bool true)) w5 := kX.grown gr5 (by simp) (by intro m hm; simp [Value.ownBlock] at hm; omega); simp only [Nat.zero_add, List.nil_append] at own5; obtain ⟨A5, c5, rfl, _⟩ := own_shape own5; have s5 := k5.size; have z5 : wr.heap.size ≤ w5.heap.size := (by rw [HsX.out] at s5; exact s5)))
                  clear own5 gr5 k5
                  have hb7 : Below wr.heap.size (wr.setCell ⟨gd, b, none⟩ (.bool true)) w7 := HK7.out
                  have hb8 : Below (wr.setCell ⟨gd, b, none⟩ (.bool true)).heap.size (wr.setCell ⟨gd, b, none⟩ (.bool true)) w7 := by rw [HsX.out]; exact hb7
                  have s7 := hb8.size
                  rw [HsX.out] at s7
                  have P7 := HP2.out.below hb8
                  have hll : (told ++ [((a' : Int), (b : Int))]).length = told.length + 1 := by simp
                  have ap7 : Apart (fun j => j = gd ∨ j = pc ∨ j = pf) (wr.setCell ⟨gd, b, none⟩ (.bool true)) w7 := Apart.of_below hb8
                  have own8 : w7.ownsRow B 76 2 (.slice A7 (told ++ [((a' : Int), (b : Int))]).length c7) (told ++ [((a' : Int), (b : Int))]).length (pcells (told ++ [((a' : Int), (b : Int))])) := by
                    rw [hll, pcells_append]
                    exact own_lower Own7.out (by omega)
                  have ihc := IH.out (cutQ S ((a' : Int), (b : Int))) (told ++ [((a' : Int), (b : Int))]) A7 c7 cnt' fst' FA' fc' w7 (by omega) (by rw [hll]; omega) (by omega) (by omega) (HapX.out.trans ap7 (fun j hj => .inl hj)) P7 own8
                  rw [hll] at ihc
                  have IHC := Lib.hid ihc
                  have Ap7 := Lib.hid ap7
                  clear ihc own8 P7 ap7 hb7 hb8
                  go_wp2_with fail
                  refine IHC.out.mono ?_
                  rintro e w8 ⟨rfl, ap8, FA8, fc8, P8⟩
                  have P9 := (P8.mark hgc hgf hgB b false).congr (S' := Sa) (fun x hx => by
                    rw [HSd.out]
                    simp only [cutQ_at]
                    by_cases e1 : x = b
                    · subst e1
                      rw [if_pos rfl, if_neg (by omega), HSb.out]; rfl
                    · rw [if_neg e1]
                      by_cases e2 : x = a'
                      · subst e2; simp
                      · rw [if_neg e2]; simp [e1, e2])
                  have ap9 : Apart (fun j => j = gd ∨ j = pc ∨ j = pf) w (w8.setCell ⟨gd, b, none⟩ (.bool false)) := (((HapwX.out.trans Ap7.out (fun j hj => .inl hj)).trans ap8 (fun j hj => .inl hj)).trans (Apart.setCell (p := ⟨gd, b, none⟩) (.inl rfl) _) (fun j hj => .inl hj))
                  have hd8 := P8.done.cell hlt
                  have hf8 := P8.done.frozen b
                  simp only [cutQ_at] at hd8
                  have hd9 : ∃ bb : Bool, w8.cell? ⟨gd, b, none⟩ = some (.bool bb) := ⟨_, hd8⟩
                  obtain ⟨bb, hd9⟩ := hd9
                  have P9' := Lib.hid P9
                  have Ap9 := Lib.hid ap9
                  have hs8 : w8.heap.size ≥ w7.heap.size := ap8.below.size
                  clear P9 ap9 P8 ap8 hd8 IHC
                  go_wp2
                  go_roundw
                  case rel =>
                    refine ⟨b + 1, cnt' + (dP t n f (told ++ [((a' : Int), (b : Int))]) (cutQ S ((a' : Int), (b : Int)))).length, firstQ fst' cnt' (dP t n f (told ++ [((a' : Int), (b : Int))]) (cutQ S ((a' : Int), (b : Int)))), FA8, fc8, by omega, by omega, by go_num, Ap9.out, P9'.out, ?_, ?_⟩
                    · rw [Hyes.out, List.length_append, HC.out]; omega
                    · rw [Hyes.out, HF.out, HC.out, firstQ_append]
                  case measure => simp [intOf]; omega
          · have hbe : b = n := by omega
            subst hbe
            have hge : ¬ ((b : Int) < b) := by omega
            have P9 := (HPr.out.mark hgc hgf hgB a' false).congr (S' := S) (fun x hx => by
              rw [HSd.out]
              by_cases e2 : x = a'
              · subst e2; simp [HSa.out]
              · simp [e2])
            have ap9 := Apr.out.trans (Apart.setCell (S := fun j => j = gd ∨ j = pc ∨ j = pf) (p := ⟨gd, a', none⟩) (.inl rfl) (.bool false)) (fun j hj => .inl hj)
            have hd9 := HPr.out.done.cell han
            have hf9 := HPr.out.done.frozen a'
            have P9' := Lib.hid P9
            have Ap9 := Lib.hid ap9
            clear P9 ap9
            go_wp2
            refine show _ = [] ∧ _ from ⟨rfl, .tuple #[], by simp [results, Try.results79, go_sem], ?_⟩
            rw [← HC.out, ← HF.out]
            exact ⟨rfl, Ap9.out, FA', fc', P9'.out⟩
end Go.Proofs.Ytkiobefojckocaa
/-
  PAIRINGS: the model's count and first one ('taPairs'), and its 'CountPairings', by contract.
-/
namespace Go.Proofs.Ytkiobefojckocaa
open Go.RowKit

/-- a slice made, as an equation -/
theorem run_make_one {P : Program} (w : World) (t e : TypeId) (i : TypeInfo) (z : Value) (h1 : P.underlying t = some (.slice e)) (h2 : P.info? e = some i) (h3 : i.zero = some z) (h4 : i.size = 1) (hz : z.cells = #[z])
    (n : Nat) (b2 : i.bytes * n ≤ 281474976710656) (b3 : n ≤ 16777216) :
    (Instr.makeSlice t (.int .i64 n) (.int .i64 n)).run P w = .ok (.slice (some ⟨w.heap.size, 0, none⟩) n n) (w.alloc (.cells (madeCells #[z] n) e)) := by
  have h63' : (n : Int) ≤ 9223372036854775807 := by
    omega
  have hb' : (i.bytes : Int) * (n : Int) ≤ 281474976710656 := by
    have h : ((i.bytes * n : Nat) : Int) ≤ 281474976710656 := by omega
    rwa [Int.natCast_mul] at h
  have hr := run_makeSlice (P := P) (w := w) t e i z h1 h2 h3 .i64 .i64 n n (by omega) (Int.le_refl _) (by rw [h4, Int.toNat_natCast]; omega) hb' h63'
  simpa only [Int.toNat_natCast, h4, Nat.mul_one, hz] using hr
theorem below_apart {S : Nat → Prop} {A C : World} {B : Nat} (h : Apart S A C) (hB : B ≤ A.heap.size) (hS : ∀ j, S j → B ≤ j) : Below B A C :=
  ⟨h.below.os, h.below.tape, h.below.output, h.below.size, fun j hj => h.same j (by omega) (fun hs => by have := hS j hs; omega)⟩
theorem heap_alloc_lt (w : World) (o : Obj) (j : Nat) (h : j < w.heap.size) : (w.alloc o).heap[j]? = w.heap[j]? := (World.grownBy_alloc w o none).block j h (by simp)
/-- The recursion, from nothing told, over a table that lies in blocks of its own. -/
theorem taPair_go (n : Nat) (hn : n ≤ 12) (l : PL) (A3 : Option Addr) (c3 gd pc pf B0 : Nat) (G : Nat → Nat) (X : World) (tab : TabG X B0 (.slice A3 n c3) n n G (adj l)) (hgc : gd ≠ pc) (hgf : gd ≠ pf) (hcf : pc ≠ pf)
    (hpc : pc < B0) (hpf : pf < B0) (hgd : gd < B0 ∨ ∃ w4 : World, w4.heap.size ≤ gd ∧ TabG w4 B0 (.slice A3 n c3) n n G (adj l))
    (hrow : X.rowIs gd 4 n (fun _ => .bool false)) (h1 : X.heap[pc]? = some (Obj.cells #[.int .i64 0] 3)) (h2 : X.heap[pf]? = some (Obj.cells #[.slice none 0 0] 22)) :
    Calls Try.prog 79 #[.slice A3 n c3, .slice (some ⟨gd, 0, none⟩) n n, .slice none 0 0, .pointer (some ⟨pc, 0, none⟩), .pointer (some ⟨pf, 0, none⟩)] X fun e w' =>
      e = .returned (.tuple #[]) ∧ Apart (fun j => j = gd ∨ j = pc ∨ j = pf) X w' ∧ ∃ FA fc, PairAt w' n (bitsQ (2 ^ n - 1)) gd pc pf (pairD n l).length (firstQ [] 0 (pairD n l)) X.heap.size FA fc := by
  have hlt1 : pc < X.heap.size := (Array.getElem?_eq_some_iff.1 h1).1
  have hlt2 : pf < X.heap.size := (Array.getElem?_eq_some_iff.1 h2).1
  have hlt3 := hrow.lt
  have ne2 : ∀ i, i < n → G i ≠ gd := fun i hi => by
    rcases hgd with h | ⟨w4, h, t4⟩
    · have := (tab.blk hi).1; omega
    · have := (t4.blk hi).2; omega
  have P0 : PairAt X n (bitsQ (2 ^ n - 1)) gd pc pf 0 [] X.heap.size none 0 :=
    ⟨hrow.congr fun x hx => by rw [people_bitsQ hx]; rfl, h1, h2, World.ownsRow_nil _ _ _ _⟩
  have hp : 12 ^ n ≤ 2 ^ 60 := Nat.le_trans (Nat.pow_le_pow_right (by omega) hn) (by decide)
  have h := taPair_any n hn (adj l) A3 c3 n gd pc pf X.heap.size G X hgc hgf hcf hlt3 hlt1 hlt2 (fun X' hap i j hi hj => by
      obtain ⟨g, rfl⟩ := own_form tab.own (show 0 < n by omega)
      have lg := own_lt tab.own
      have ne1 : g ≠ gd := by
        rcases hgd with h | ⟨w4, h, t4⟩
        · omega
        · have := (own_lt t4.own).2; omega
      refine ⟨g, rfl, ?_, ?_⟩
      · rw [World.cell?_of_block (hap.same g lg.2 (by rintro (e | e | e) <;> first | exact ne1 e | omega))]
        exact tab.outer hi
      · have lb := tab.blk hi
        rw [World.cell?_of_block (hap.same (G i) lb.2 (by rintro (e | e | e) <;> first | exact ne2 i hi e | omega))]
        exact tab.cell hi hj)
    n (bitsQ (2 ^ n - 1)) [] none 0 0 [] none 0 X (Nat.le_of_eq (cntQ_people n)) (by simp; omega) (by omega) (Nat.le_refl _) (Apart.refl _ _) P0 (World.ownsRow_nil _ _ _ _)
  refine Calls.mono h ?_
  rintro e w' ⟨rfl, ap, FA, fc, P1⟩
  refine ⟨rfl, ap, FA, fc, ?_⟩
  rw [Nat.zero_add] at P1
  exact P1
set_option maxHeartbeats 8000000 in
set_option maxRecDepth 100000 in
theorem taPairs_any (n : Nat) (l : PL) (A : Option Addr) (c : Nat) (w : World) (hp : isP n l = true) (hA : CRead w w.heap.size A (pcells l)) :
    Calls Try.prog 53 #[.agg #[.int .i64 n, .slice A l.length c]] w fun e w' => ∃ FA fc, e = .returned (.tuple #[.int .i64 ((pairD n l).length : Int), .slice FA (firstQ [] 0 (pairD n l)).length fc]) ∧
      w'.ownsRow w.heap.size 76 2 (.slice FA (firstQ [] 0 (pairD n l)).length fc) (firstQ [] 0 (pairD n l)).length (pcells (firstQ [] 0 (pairD n l))) ∧ Below w.heap.size w w' := by
  obtain ⟨i1, hj, hy0, hy1, hy2⟩ := info_parts Try.infoBool
  have hn := isP_range hp
  have Hp := Lib.hid hp
  clear hp
  have tabF := fun (Y : World) (hY : CRead Y Y.heap.size A (pcells l)) => paTable_any n l A c Y Hp.out hY
  simp only [Int.toNat_natCast] at tabF
  have TabF := Lib.hid tabF
  clear tabF
  go_enter Try.func53, Try.ntmps53
  go_wp2_with fail
  obtain ⟨X, hX⟩ : ∃ X, (((w.alloc (Obj.cells #[Value.int IntKind.i64 ↑n, Value.slice A (List.length l) c] 24)).alloc (Obj.cells #[Value.int IntKind.i64 0] 3)).alloc (Obj.cells #[Value.slice none 0 0] 22)) = X := ⟨_, rfl⟩
  have kX : Below w.heap.size w X := by rw [← hX]; go_grown
  have sX : X.heap.size = w.heap.size + 3 := by rw [← hX]; simp
  have c0 : X.cell? ⟨w.heap.size, 0, none⟩ = some (.int .i64 n) := by rw [← hX]; exact (World.cell?_alloc_lt _ _ _ (by simp <;> omega)).trans ((World.cell?_alloc_lt _ _ _ (by simp)).trans (by simp))
  have c1 : X.cell? ⟨w.heap.size, 1, none⟩ = some (.slice A l.length c) := by rw [← hX]; exact (World.cell?_alloc_lt _ _ _ (by simp <;> omega)).trans ((World.cell?_alloc_lt _ _ _ (by simp)).trans (by simp))
  have b1 : X.heap[w.heap.size + 1]? = some (Obj.cells #[.int .i64 0] 3) := by rw [← hX]; exact (heap_alloc_lt _ _ _ (by simp)).trans (by have h := World.alloc_heap_new (w.alloc (Obj.cells #[Value.int IntKind.i64 ↑n, Value.slice A (List.length l) c] 24)) (Obj.cells #[.int .i64 0] 3); simpa only [World.size_alloc] using h)
  have b2 : X.heap[w.heap.size + 1 + 1]? = some (Obj.cells #[.slice none 0 0] 22) := by rw [← hX]; have h := World.alloc_heap_new ((w.alloc (Obj.cells #[Value.int IntKind.i64 ↑n, Value.slice A (List.length l) c] 24)).alloc (Obj.cells #[Value.int IntKind.i64 0] 3)) (Obj.cells #[.slice none 0 0] 22); simpa only [World.size_alloc] using h
  have ka0 : ∀ o : Obj, (X.drew.alloc o).cell? ⟨w.heap.size, 0, none⟩ = some (.int .i64 n) := fun o => (World.cell?_alloc_lt X.drew _ _ (by show w.heap.size < X.heap.size; omega)).trans c0
  have ka1 : ∀ o : Obj, (X.drew.alloc o).cell? ⟨w.heap.size, 1, none⟩ = some (.slice A l.length c) := fun o => (World.cell?_alloc_lt X.drew _ _ (by show w.heap.size < X.heap.size; omega)).trans c1
  have rX : ∀ Y, Below w.heap.size w Y → CRead Y Y.heap.size A (pcells l) := fun Y hY => (hA.below hY (Nat.le_refl _)).more hY.size
  rw [hX]
  have hmk := fun Y : World => run_make_one (P := Try.prog) Y 87 4 i1 (.bool false) Try.underlying87 hj hy0 hy1 rfl n (by rw [hy2]; omega) (by omega)
  have HX := Lib.hid hX
  have RX := Lib.hid rX
  clear hX rX hA
  go_region_law (first
    | (go_simp; go_at_call 58; refine (TabF.out _ (RX.out _ (by first | exact kX.drew | exact kX.drew.alloc (by show w.heap.size ≤ X.heap.size; omega) _))).mono ?_; rintro e w4 ⟨A3, c3, G, rfl, tab, hb3⟩; first
        | (have k4 : Below X.heap.size X w4 := (Below.refl _ _).drew.trans hb3; have a0 := carry k4 c0 (by show w.heap.size < _; omega); have a1 := carry k4 c1 (by show w.heap.size < _; omega); have s4 := k4.size; have kt : TabG w4 X.heap.size (.slice A3 n c3) n n G (adj l) := tab)
        | (have k4 : Below X.heap.size X w4 := ((Below.refl _ _).drew.alloc (Nat.le_refl _) _).trans (hb3.mono (by show X.heap.size ≤ _; simp)); have row4 : w4.rowIs (w.heap.size + 3) 4 n (fun _ => .bool false) := (by rw [← sX]; exact (World.rowIs_made X.drew (.bool false) n 4).of_block (hb3.block _ (by simp))); have s4 : X.heap.size + 1 ≤ w4.heap.size := (by have := hb3.size; simp at this; exact this); have kt := tab.lower (B' := X.heap.size + 1) (by simp)))
    | (go_simp; go_at_call 79; first
        | (refine (taPair_go n (by omega) l A3 c3 w4.heap.size (w.heap.size + 1) (w.heap.size + 1 + 1) X.heap.size G (w4.alloc _) (kt.alloc _) (by omega) (by omega) (by omega) (by omega) (by omega) (.inr ⟨w4, Nat.le_refl _, kt⟩) (World.rowIs_made w4 (.bool false) n _) ((heap_alloc_lt w4 _ _ (by omega)).trans ((k4.block _ (by omega)).trans b1)) ((heap_alloc_lt w4 _ _ (by omega)).trans ((k4.block _ (by omega)).trans b2))).mono ?_; rintro e w5 ⟨rfl, ap, FA, fc, P⟩; have kw : Below w.heap.size w w5 := ((kX.trans (k4.mono kX.size)).alloc (by omega) _).trans (below_apart ap (by simp; omega) (by rintro j (e | e | e) <;> omega)))
        | (refine (taPair_go n (by omega) l A3 c3 (w.heap.size + 3) (w.heap.size + 1) (w.heap.size + 1 + 1) (X.heap.size + 1) G w4 kt (by omega) (by omega) (by omega) (by omega) (by omega) (.inl (by omega)) row4 ((k4.block _ (by omega)).trans b1) ((k4.block _ (by omega)).trans b2)).mono ?_; rintro e w5 ⟨rfl, ap, FA, fc, P⟩; have kw : Below w.heap.size w w5 := (kX.trans (k4.mono kX.size)).trans (below_apart ap (by omega) (by rintro j (e | e | e) <;> omega)))))
  all_goals
    have q1 := cell_in P.cntc
    have q2 := cell_in P.fstc
    have own5 := own_lower P.row (base' := w.heap.size) (by first | omega | (simp; omega))
    clear P ap tab kt k4 hb3 ka0 ka1 hmk b1 b2 c0 c1
    go_wp2_with fail
    go_quiet (fail)
    go_wp2_with fail
    go_ret2
    exact ⟨FA, fc, rfl, own5, ⟨kw.os, kw.tape, kw.output, kw.size, kw.block⟩⟩
end Go.Proofs.Ytkiobefojckocaa
/-
  LISTS OF PAIRS AS RESULTS, AND COPIES OF THEM.
-/
namespace Go.Proofs.Ytkiobefojckocaa
open Go.RowKit

/-- A call came back with a list of pairs of its own and a bool. -/
def GotPairsOk (w : World) (l : PL) (ok : Bool) (e : Ending) (w' : World) : Prop :=
  ∃ A c, e = .returned (.tuple #[.slice A l.length c, .bool ok]) ∧ w'.ownsRow w.heap.size 76 2 (.slice A l.length c) l.length (pcells l) ∧ Below w.heap.size w w'
theorem toPairS_got (l : PL) (A : Option Addr) (c : Nat) (w : World) (hl : l.length ≤ 1048576) (hA : CRead w w.heap.size A (pcells l)) :
    Calls Try.prog 54 #[.slice A l.length c] w fun e w' => ∃ A' c', e = .returned (.slice A' l.length c') ∧ w'.ownsRow w.heap.size 76 2 (.slice A' l.length c') l.length (pcells l) ∧ Below w.heap.size w w' :=
  (toPairS_any l A c w hl hA).mono fun _ _ h => ⟨_, _, h⟩
end Go.Proofs.Ytkiobefojckocaa
/-
  THE FIRST PAIRING: the model's and the program's, by their contracts.
-/
namespace Go.Proofs.Ytkiobefojckocaa
open Go.RowKit Go.Shelf
attribute [local go_sem] Oper.semAt_some

def resFirstPairing (p : Int) (l : PL) : PL × Bool := if isP p l then (firstQ [] 0 (pairQ p.toNat l), decide (0 < (pairQ p.toNat l).length)) else ([], false)
theorem firstQ_len {xs : List PL} {k : Nat} (h : ∀ q ∈ xs, q.length = k) : (firstQ [] 0 xs).length ≤ k := by
  unfold firstQ
  rw [if_pos rfl]
  cases xs with
  | nil => simp
  | cons q xs => have := h q (List.mem_cons_self ..); simp; omega
theorem pairQ_len (n : Nat) (l : PL) : ∀ q ∈ pairQ n l, q.length = pairsK n := fun q hq => by
  have := mP_len l (pairsK n) [] (bitsQ (2 ^ n - 1)) q hq
  simpa using this
theorem resFirstPairing_len (p : Int) (l : PL) : (resFirstPairing p l).1.length ≤ 1048576 := by
  unfold resFirstPairing
  split
  · rename_i h
    have h1 := isP_range h
    have h2 := firstQ_len (pairQ_len p.toNat l)
    unfold pairsK at h2
    simp only
    omega
  · simp
set_option maxHeartbeats 4000000 in
set_option maxRecDepth 100000 in
theorem specFirstPairing_any (p : Int) (l : PL) (A : Option Addr) (c : Nat) (w : World) (hl : l.length ≤ 1048576) (hA : CRead w w.heap.size A (pcells l)) :
    Calls Try.prog 21 #[.agg #[.int .i64 p, .slice A l.length c]] w (GotPairsOk w (resFirstPairing p l).1 (resFirstPairing p l).2) := by
  have hr : CRead (w.alloc (Obj.cells #[.int .i64 p, .slice A l.length c] 24)) (w.alloc (Obj.cells #[.int .i64 p, .slice A l.length c] 24)).heap.size A (pcells l) := (hA.below (B' := w.heap.size) (by go_grown) (Nat.le_refl _)).more (by go_size)
  cases hp : isP p l with
  | false =>
    have e : resFirstPairing p l = ([], false) := by simp [resFirstPairing, hp]
    rw [e]
    have Hp := Lib.hid hp
    clear hp e
    go_enter Try.func21, Try.ntmps21
    go_wp2_with fail
    refine (paGood_any _ _ _ _ _ hl hr).mono ?_
    rw [Hp.out]
    rintro e w2 ⟨rfl, hb2⟩
    simp only [World.size_alloc] at hb2
    go_wp2
    go_ret2
    exact ⟨none, 0, rfl, World.ownsRow_nil _ _ _ _, Below.trans (b := _) (by go_grown) (hb2.mono (by omega))⟩
  | true =>
    obtain ⟨n, rfl⟩ : ∃ n : Nat, p = n := ⟨p.toNat, by have := isP_range hp; omega⟩
    have e : resFirstPairing n l = (firstQ [] 0 (pairD n l), decide (0 < (pairD n l).length)) := by rw [pairD_pairQ hp]; simp [resFirstPairing, hp]
    rw [e]
    have call := fun (X : World) (hX : CRead X X.heap.size A (pcells l)) => taPairs_any n l A c X hp hX
    obtain ⟨D, hD⟩ : ∃ D, pairD n l = D := ⟨_, rfl⟩
    simp only [hD] at call ⊢
    have hdec : decide ((0 : Int) < (D.length : Int)) = decide (0 < D.length) := decide_eq_decide.2 (by omega)
    have Hdec := Lib.hid hdec
    have Call := Lib.hid call
    have Hp := Lib.hid hp
    clear hp e call hD hdec
    go_enter Try.func21, Try.ntmps21
    go_wp2_with fail
    refine (paGood_any _ _ _ _ _ hl hr).mono ?_
    rw [Hp.out]
    rintro e w2 ⟨rfl, hb2⟩
    simp only [World.size_alloc] at hb2
    have a0 : w2.cell? ⟨w.heap.size, 0, none⟩ = some (.int .i64 n) := carry hb2 (by simp) (by omega)
    have a1 : w2.cell? ⟨w.heap.size, 1, none⟩ = some (.slice A l.length c) := carry hb2 (by simp) (by omega)
    have k2 : Below w.heap.size w w2 := Below.trans (b := _) (by go_grown) (hb2.mono (by omega))
    go_wp2_with fail
    refine (Call.out _ ((hA.below k2 (Nat.le_refl _)).more k2.size)).mono ?_
    rintro e w3 ⟨FA, fc, rfl, own3, hb3⟩
    have k3 := k2.trans (hb3.mono k2.size)
    have Own := Lib.hid (own_lower own3 k2.size)
    clear a0 a1 hb2 own3
    go_wp2
    go_ret2
    exact ⟨FA, fc, by rw [← Hdec.out]; rfl, Own.out, k3⟩
end Go.Proofs.Ytkiobefojckocaa
/-
  A RANGE OVER AN ITERATOR, its body told besides that the loop's own two blocks lie below what it makes; the loop's variable assigned. Nothing here speaks of the program.
-/
namespace Go.Proofs.Ytkiobefojckocaa
open Go.RowKit

variable {P : Program}
theorem wpIn_rangeFunc_iterG {α : Type} {n : Nat} {g : Operand} {ps : Array Tmp} {assign body : Code} {Q : Exit → Act → World → Prop} {a : Act} {w : World}
    {gf : Nat} {lb : Array Value} (hg : a.eval g = .func (.func gf) #[] lb) (eg : ∀ args w, (callFunc gf args).run P w = .ok (.enter gf args) w)
    {R : Nat → Prop} {Rd : (Nat → Prop) → α → Array Value → World → Prop} {xs : List α} {w0 : World} (hseq : Seq P gf lb R Rd xs w0) (hb0 : Below w0.heap.size w0 w) (hR : ∀ j, R j → j < w.heap.size)
    (hRd : ∀ T x args A C, Rd T x args A → Stays T A C → Rd T x args C) (hps : ∀ T x args W, Rd T x args W → args.size = ps.size)
    (I : (Nat → Prop) → List α → World → Prop) (Ix : Code → List α → World → Prop) (hI : Held I) (hIx : ∀ c pre A C, Ix c pre A → Apart (fun j => j = w.heap.size + 1) A C → Ix c pre C)
    (h0 : I (fun _ => False) [] w) (a₁ : Array Value → Act)
    (hassign : ∀ (l : Nat) (T : Nat → Prop) (x : α) (args : Array Value) (W : World) (K : Act → World → Prop), Rd T x args W → K (a₁ args) W →
      assign.wpIn (Fence.wide.inRound l) n P (Exit.then K (fun _ _ _ => False)) { tmps := (ps.zip args).foldl (fun t (p, v) => t.setIfInBounds p v) a.tmps, defers := [] } W)
    (hbody : ∀ (l : Nat) (T S : Nat → Prop) (pre : List α) (x : α) (args : Array Value) (W : World), I S pre W → Rd T x args W → (∀ j, T j → S j) → w.heap.size + 2 ≤ W.heap.size → (∀ j, T j → j < w.heap.size ∨ w.heap.size + 2 ≤ j) → pre ++ [x] <+: xs →
      body.wpIn (Fence.wide.inRound l) n P (iterPost w.heap.size S R I Ix (pre ++ [x]) W) (a₁ args) W)
    (hdone : ∀ (S : Nat → Prop) (W : World), I S xs W → W.heap[w.heap.size]? = some (.deferred (some [])) → Q .normal { a with defers := { target := .collected w.heap.size, args := #[] } :: a.defers } W)
    (hstop : ∀ (c : Code) (pre : List α) (x : α) (W : World), pre ++ [x] <+: xs → Ix c (pre ++ [x]) W → W.heap[w.heap.size]? = some (.deferred (some [])) → c.wpIn Fence.wide n P Q { a with defers := { target := .collected w.heap.size, args := #[] } :: a.defers } W) :
    (Code.rangeFunc g ps assign body).wpIn Fence.wide n P Q a w := by
  refine wpIn_rangeFunc ?_
  intro fn hfn
  rw [show Fence.wide.round = none from rfl]
  obtain ⟨rec, hrec⟩ : ∃ rec : LoopState → Option Code → Loop, rec = fun st pe => { state := st, pending := pe, fn, tmps := a.tmps, params := ps, assign, body, defers := w.heap.size } := ⟨_, rfl⟩
  obtain ⟨W1, hW1⟩ : ∃ W1, (w.alloc (.deferred (some []))).alloc (.loop (rec .ready none)) = W1 := ⟨_, rfl⟩
  have hL1 : W1.heap[w.heap.size + 1]? = some (.loop (rec .ready none)) := by
    rw [← hW1]; have := World.alloc_heap_new (w.alloc (.deferred (some []))) (.loop (rec .ready none)); rwa [World.size_alloc] at this
  have hK1 : W1.heap[w.heap.size]? = some (.deferred (some [])) := by
    rw [← hW1]; exact (Below.heap_alloc _ _ _ (by simp)).trans (World.alloc_heap_new w _)
  have hw1 : Below w.heap.size w W1 := by rw [← hW1]; exact (((Below.refl _ w).alloc (Nat.le_refl _) _).alloc (by simp) _)
  have hb1 : Below w0.heap.size w0 W1 := hb0.trans (hw1.mono hb0.size)
  have hz1 : W1.heap.size = w.heap.size + 2 := by rw [← hW1]; simp
  have hI1 : I (fun j => j = w.heap.size ∨ j = w.heap.size + 1) [] W1 := hI _ _ _ _ _ h0 (Apart.of_below hw1) (fun j hj => .inr (by omega))
  refine ⟨w.heap.size + 1, [{ target := .collected w.heap.size, args := #[] }], W1, { target := .fn (.func gf) lb, args := #[.func (.yield (w.heap.size + 1)) #[] #[]] }, W1, gf,
    #[.func (.yield (w.heap.size + 1)) #[] #[]] ++ lb, W1, ?_, ?_, ?_, ?_, fun h => (by cases h), ?_⟩
  · rw [← hW1, hrec]; exact run_enterLoop_outer _ _ _ _ _
  · simp only [resolve, hg]
    simp [go_sem]
  · intro f' hf'; trivial
  · simp [invoke, go_sem, eg]
  · refine callsIn_wide.2 ?_
    refine (hseq (w.heap.size + 1)
      (fun T pre W => I (fun j => T j ∨ j = w.heap.size ∨ j = w.heap.size + 1) pre W ∧ (∀ j, T j → w.heap.size + 2 ≤ j) ∧ W.heap[w.heap.size + 1]? = some (.loop (rec .ready none)) ∧ W.heap[w.heap.size]? = some (.deferred (some [])))
      (fun T pre W => ∃ c, Ix c pre W ∧ W.heap[w.heap.size + 1]? = some (.loop (rec .done (some c))) ∧ W.heap[w.heap.size]? = some (.deferred (some [])))
      W1 hb1 ?held ?round ⟨hI _ _ _ _ _ hI1 (Apart.refl _ _) (fun j hj => by rcases hj with h | h; exact h.elim; exact .inl h), fun j h => h.elim, hL1, hK1⟩).mono ?_
    case held =>
      rintro T T' pre A C ⟨hi, hT, hl, hk⟩ hA hT'
      have hlt : w.heap.size + 1 < A.heap.size := (Array.getElem?_eq_some_iff.1 hl).1
      refine ⟨hI _ _ _ _ _ hi (hA.mono fun j hj => .inl hj) (fun j hj => ?_), fun j hj => ?_, (hA.same _ hlt (fun h => by have := hT _ h; omega)).trans hl, (hA.same _ (by omega) (fun h => by have := hT _ h; omega)).trans hk⟩
      · rcases hj with hj | hj
        · rcases hT' j hj with h | h
          · exact .inl (.inl h)
          · exact .inr h
        · exact .inl (.inr hj)
      · rcases hT' j hj with h | h
        · exact hT j h
        · omega
    case round =>
      rintro T pre x args W ⟨hi, hT, hl, hk⟩ hrd hpx
      have hlt : w.heap.size + 1 < W.heap.size := (Array.getElem?_eq_some_iff.1 hl).1
      have hnT : ¬ T (w.heap.size + 1) := fun h => by have := hT _ h; omega
      have hnR : ¬ (T (w.heap.size + 1) ∨ R (w.heap.size + 1)) := fun h => by rcases h with h | h; exact hnT h; have := hR _ h; omega
      have hy := run_yield (P := P) (args := args) hl (by rw [hrec]; exact hps T x args W hrd)
      rw [hrec] at hy
      refine yield_any (m := n + 1) ⟨fn, _, assign, body, hy, roundIn_any (m := n) (roundIn_of_wpIn hfn (hassign _ T x args W _ hrd ⟨_, run_beginRound hl (by rw [hrec]), ?_⟩))⟩
      have hl2 : (W.putObj (w.heap.size + 1) (.loop { rec .ready none with state := .busy })).heap[w.heap.size + 1]? = some (.loop { rec .ready none with state := .busy }) := World.putObj_heap_same hlt
      have hk2 : (W.putObj (w.heap.size + 1) (.loop { rec .ready none with state := .busy })).heap[w.heap.size]? = some (.deferred (some [])) := (World.putObj_heap_other (by omega)).trans hk
      have hi2 := hI _ _ _ _ _ hi ((Apart.putObj W (w.heap.size + 1) (.loop { rec .ready none with state := .busy })).mono fun j hj => .inr (.inr hj)) (fun j hj => .inl hj)
      have hst := Stays.putObj (S := fun j => T j ∨ R j) hnR W (.loop { rec .ready none with state := .busy })
      have hlz := (Array.getElem?_eq_some_iff.1 hl2).1
      have hkz := (Array.getElem?_eq_some_iff.1 hk2).1
      refine wpIn_mono (hbody _ T _ pre x args _ hi2 (hRd _ _ _ _ _ hrd (hst.mono fun j hj => .inl hj)) (fun j hj => .inl hj) hlz (fun j hj => .inr (hT j hj)) hpx) ?_
      have fin : ∀ (jump : Option Code) (W3 : World), W3.heap[w.heap.size + 1]? = some (.loop { rec .ready none with state := .busy }) → W3.heap[w.heap.size]? = some (.deferred (some [])) →
          (Instr.endRound (w.heap.size + 1) jump).run P W3 = .ok (.bool jump.isNone) (W3.putObj (w.heap.size + 1) (.loop (rec (if jump.isNone then .ready else .done) jump))) ∧
          (W3.putObj (w.heap.size + 1) (.loop (rec (if jump.isNone then .ready else .done) jump))).heap[w.heap.size + 1]? = some (.loop (rec (if jump.isNone then .ready else .done) jump)) ∧
          (W3.putObj (w.heap.size + 1) (.loop (rec (if jump.isNone then .ready else .done) jump))).heap[w.heap.size]? = some (.deferred (some [])) := fun jump W3 hl3 hk3 => by
        have := run_endRound (P := P) jump hl3
        rw [hrec] at this ⊢
        exact ⟨this, World.putObj_heap_same (Array.getElem?_eq_some_iff.1 hl3).1, (World.putObj_heap_other (by omega)).trans hk3⟩
      rintro e a3 W3 hp
      cases e with
      | normal =>
        obtain ⟨hs3, hi3⟩ := hp
        have hl3 := (hs3.same (w.heap.size + 1) hlz (.inl (.inr (.inr rfl)))).trans hl2
        have hk3 := (hs3.same w.heap.size hkz (.inl (.inr (.inl rfl)))).trans hk2
        obtain ⟨hr, hl4, hk4⟩ := fin none W3 hl3 hk3
        refine ⟨_, _, hr, .inl ⟨rfl, ⟨hI _ _ _ _ _ hi3 ((Apart.putObj W3 _ _).mono fun j hj => .inr (.inr hj)) (fun j hj => .inl hj), hT, hl4, hk4⟩, ?_⟩⟩
        exact (hst.trans (hs3.mono fun j hj => hj.elim (fun h => .inl (.inl h)) .inr)).trans (Stays.putObj (S := fun j => T j ∨ R j) hnR W3 _)
      | ret =>
        obtain ⟨hs3, hi3⟩ := hp
        obtain ⟨hr, hl4, hk4⟩ := fin (some .ret) W3 ((hs3.same (w.heap.size + 1) hlz (by omega)).trans hl2) ((hs3.same w.heap.size hkz (by omega)).trans hk2)
        exact ⟨_, _, hr, .inr ⟨rfl, .ret, hIx _ _ _ _ hi3 (Apart.putObj W3 _ _), hl4, hk4⟩⟩
      | exit id =>
        obtain ⟨hs3, hi3⟩ := hp
        obtain ⟨hr, hl4, hk4⟩ := fin (some (.exit id)) W3 ((hs3.same (w.heap.size + 1) hlz (by omega)).trans hl2) ((hs3.same w.heap.size hkz (by omega)).trans hk2)
        exact ⟨_, _, hr, .inr ⟨rfl, .exit id, hIx _ _ _ _ hi3 (Apart.putObj W3 _ _), hl4, hk4⟩⟩
      | goto t =>
        obtain ⟨hs3, hi3⟩ := hp
        obtain ⟨hr, hl4, hk4⟩ := fin (some (.goto t)) W3 ((hs3.same (w.heap.size + 1) hlz (by omega)).trans hl2) ((hs3.same w.heap.size hkz (by omega)).trans hk2)
        exact ⟨_, _, hr, .inr ⟨rfl, .goto t, hIx _ _ _ _ hi3 (Apart.putObj W3 _ _), hl4, hk4⟩⟩
      | panic ch => exact hp.elim
      | outgrown => exact hp.elim
    · rintro e W2 ⟨⟨v, rfl⟩, (⟨T, hi, hT, hl, hk⟩ | ⟨T, pre, x, hpre, c, hi, hl, hk⟩)⟩
      · exact ⟨none, _, by have := run_endLoop (P := P) hl (by rw [hrec]; simp); rw [hrec] at this; exact this, hdone _ _ (hI _ _ _ _ _ hi ((Apart.putObj W2 _ _).mono fun j hj => .inr (.inr hj)) (fun j hj => .inl hj)) ((World.putObj_heap_other (by omega)).trans hk)⟩
      · exact ⟨some c, _, by have := run_endLoop (P := P) hl (by rw [hrec]; simp); rw [hrec] at this; exact this, hstop c pre x _ hpre (hIx _ _ _ _ hi (Apart.putObj W2 _ _)) ((World.putObj_heap_other (by omega)).trans hk)⟩

/-- A range over an iterator of one value; its variable is assigned ahead of the body. -/
theorem wp_rangeFunc_asg {P : Program} {α : Type} {g : Operand} {p : Tmp} {assign body : Code} {Q : Exit → Act → World → Prop} {a : Act} {w : World} {gf : Nat} {lb : Array Value} (hg : a.eval g = .func (.func gf) #[] lb)
    (eg : ∀ args w, (callFunc gf args).run P w = .ok (.enter gf args) w) {R : Nat → Prop} {Rd : (Nat → Prop) → α → Array Value → World → Prop} {xs : List α} (hseq : Seq P gf lb R Rd xs w) (hR : ∀ j, R j → j < w.heap.size)
    (hRd : ∀ T x args A C, Rd T x args A → Stays T A C → Rd T x args C) (hps : ∀ T x args W, Rd T x args W → args.size = 1)
    (I : (Nat → Prop) → List α → World → Prop) (Ix : Code → List α → World → Prop) (hI : Held I) (hIx : ∀ c pre A C, Ix c pre A → Apart (fun j => j = w.heap.size + 1) A C → Ix c pre C) (h0 : I (fun _ => False) [] w)
    (a₁ : Value → Act)
    (hassign : ∀ (l : Nat) (v : Value) (W : World) (K : Act → World → Prop), K (a₁ v) W → assign.wpIn (Fence.wide.inRound l) 3 P (Exit.then K (fun _ _ _ => False)) { tmps := a.tmps.setIfInBounds p v, defers := [] } W)
    (hbody : ∀ (l : Nat) (T S : Nat → Prop) (pre : List α) (x : α) (v : Value) (W : World), I S pre W → Rd T x #[v] W → (∀ j, T j → S j) → w.heap.size + 2 ≤ W.heap.size → (∀ j, T j → j < w.heap.size ∨ w.heap.size + 2 ≤ j) → pre ++ [x] <+: xs →
      body.wpIn (Fence.wide.inRound l) 3 P (iterPost w.heap.size S R I Ix (pre ++ [x]) W) (a₁ v) W)
    (hdone : ∀ (S : Nat → Prop) (W : World), I S xs W → W.heap[w.heap.size]? = some (.deferred (some [])) → Q .normal { a with defers := { target := .collected w.heap.size, args := #[] } :: a.defers } W)
    (hstop : ∀ (c : Code) (pre : List α) (x : α) (W : World), pre ++ [x] <+: xs → Ix c (pre ++ [x]) W → W.heap[w.heap.size]? = some (.deferred (some [])) → c.wp P Q { a with defers := { target := .collected w.heap.size, args := #[] } :: a.defers } W) :
    (Code.rangeFunc g #[p] assign body).wp P Q a w := by
  refine (wpIn_wide (n := 3)).1 ?_
  have hone : ∀ args : Array Value, args.size = 1 → ∃ v, args = #[v] := fun args h => by
    obtain ⟨l⟩ := args
    match l, h with
    | [v], _ => exact ⟨v, rfl⟩
  refine wpIn_rangeFunc_iterG hg eg hseq (Below.refl _ _) hR hRd (fun T x args W h => hps T x args W h) I Ix hI hIx h0 (fun args => a₁ (args[0]?.getD undef)) ?_ ?_ hdone (fun c pre x W h1 h2 h3 => (wpIn_wide (n := 3)).2 (hstop c pre x W h1 h2 h3))
  · intro l T x args W K hrd hK
    obtain ⟨v, rfl⟩ := hone args (hps T x args W hrd)
    have e : (#[p].zip #[v]).foldl (fun (t : Array Value) (x : Tmp × Value) => t.setIfInBounds x.1 x.2) a.tmps = a.tmps.setIfInBounds p v := by simp
    have h := hassign l v W K hK
    rw [← e] at h
    exact h
  · intro l T S pre x args W hi hrd hTS hz hT hpx
    obtain ⟨v, rfl⟩ := hone args (hps T x args W hrd)
    exact hbody l T S pre x v W hi hrd hTS hz hT hpx
end Go.Proofs.Ytkiobefojckocaa
/-
  MARKS AMONG THE DEFERRED CALLS: a range over a function that is left early leaves a mark; the function's end passes over all.
-/
namespace Go.Proofs.Ytkiobefojckocaa
open Go.RowKit Go.Shelf
attribute [local go_sem] Oper.semAt_some

/-! ## Marks among the deferred calls -/
def isMark (D : List Deferred) (j : Nat) : Prop := ∃ d ∈ D, d.target = .collected j
structure Marks (D : List Deferred) (W : World) : Prop where
  at_ : ∀ d ∈ D, ∃ b, d = { target := .collected b, args := #[] } ∧ W.heap[b]? = some (.deferred (some []))
  ne : D.Pairwise fun d e => d.target ≠ e.target
theorem Marks.nil (W : World) : Marks [] W := ⟨fun _ h => (by cases h), List.Pairwise.nil⟩
theorem Marks.block {D : List Deferred} {W : World} (h : Marks D W) {j : Nat} (hj : isMark D j) : W.heap[j]? = some (.deferred (some [])) := by
  obtain ⟨d, hd, ht⟩ := hj
  obtain ⟨b, rfl, hb⟩ := h.at_ d hd
  simp only [Target.collected.injEq] at ht
  subst ht
  exact hb
theorem Marks.below {D : List Deferred} {W W' : World} (h : Marks D W) (hb : Below W.heap.size W W') : Marks D W' := by
  refine ⟨fun d hd => ?_, h.ne⟩
  obtain ⟨b, e, hh⟩ := h.at_ d hd
  exact ⟨b, e, (hb.block b (Array.getElem?_eq_some_iff.1 hh).1).trans hh⟩
theorem Marks.same {D : List Deferred} {W W' : World} (h : Marks D W) (hs : ∀ j, isMark D j → W'.heap[j]? = W.heap[j]?) : Marks D W' := by
  refine ⟨fun d hd => ?_, h.ne⟩
  obtain ⟨b, e, hh⟩ := h.at_ d hd
  exact ⟨b, e, (hs b ⟨d, hd, by rw [e]⟩).trans hh⟩
theorem Marks.cons {D : List Deferred} {W : World} {b : Nat} (h : Marks D W) (hb : W.heap[b]? = some (.deferred (some []))) (hn : ∀ j, isMark D j → j ≠ b) : Marks ({ target := .collected b, args := #[] } :: D) W := by
  refine ⟨fun d hd => ?_, List.pairwise_cons.2 ⟨fun d hd e => ?_, h.ne⟩⟩
  · rcases List.mem_cons.1 hd with rfl | hd
    · exact ⟨b, rfl, hb⟩
    · exact h.at_ d hd
  · obtain ⟨b', rfl, _⟩ := h.at_ d hd
    simp only [Target.collected.injEq] at e
    exact hn b' ⟨_, hd, rfl⟩ e.symm
theorem leaves_marks {P : Program} {n : Nat} {fn : Func} {tmps : Array Value} {R : Ending → World → Prop} : ∀ (D : List Deferred) (W : World), Marks D W →
    (∀ W', Apart (isMark D) W W' → ∃ v, (results fn tmps).run P W' = .ok v W' ∧ R (.returned v) W') → LeavesInM Fence.wide n P fn tmps R D .returning W := by
  intro D
  induction D with
  | nil => exact fun W _ h => h W (Apart.refl _ _)
  | cons d ds ih =>
    intro W hm h
    obtain ⟨b, rfl, hb⟩ := hm.at_ d List.mem_cons_self
    have hne := (List.pairwise_cons.1 hm.ne).1
    refine ⟨by simp, .inl ⟨b, _, rfl, run_takeDeferred hb, ih _ ⟨fun e he => ?_, (List.pairwise_cons.1 hm.ne).2⟩ fun W' ha => h W' ?_⟩⟩
    · obtain ⟨b', rfl, hb'⟩ := hm.at_ e (List.mem_cons_of_mem _ he)
      have := hne _ he
      simp only [ne_eq, Target.collected.injEq] at this
      exact ⟨b', rfl, (World.putObj_heap_other fun e => this e.symm).trans hb'⟩
    · refine ((Apart.putObj W b _).mono fun j hj => ?_).trans ha fun j hj => .inl ?_
      · exact ⟨_, List.mem_cons_self, by rw [hj]⟩
      · obtain ⟨d, hd, ht⟩ := hj
        exact ⟨d, List.mem_cons_of_mem _ hd, ht⟩
theorem own_at {w w' : World} {B : Nat} {e : TypeId} {s n : Nat} {v : Value} {xs : List Value} (h : w.ownsRow B e s v n xs) (hs : ∀ (k : Nat) (c : Array Value) (t : TypeId) (f : Nat × Nat), w.heap[k]? = some (.cells c t f) → w'.heap[k]? = w.heap[k]?) : w'.ownsRow B e s v n xs := by
  obtain ⟨h1, h2⟩ := h
  rcases h2 with ⟨hv, h0⟩ | ⟨g, cap, cur, hv, hb, hg, hrest⟩
  · exact ⟨h1, .inl ⟨hv, h0⟩⟩
  · exact ⟨h1, .inr ⟨g, cap, cur, hv, hb, (hs g _ _ _ hg).trans hg, hrest⟩⟩
theorem Marks.rows {D : List Deferred} {W W' : World} (h : Marks D W) (ha : Apart (isMark D) W W') (k : Nat) (c : Array Value) (t : TypeId) (f : Nat × Nat) (hk : W.heap[k]? = some (.cells c t f)) : W'.heap[k]? = W.heap[k]? := by
  refine ha.same k (Array.getElem?_eq_some_iff.1 hk).1 fun hm => ?_
  rw [h.block hm] at hk
  cases hk

end Go.Proofs.Ytkiobefojckocaa
/-
  THE FIRST PAIRING: the program's first list of so many pairs ('firstInPairs'), 'FirstPairing', by their contracts.
-/
namespace Go.Proofs.Ytkiobefojckocaa
open Go.RowKit Go.Shelf
attribute [local go_sem] Oper.semAt_some

set_option maxHeartbeats 8000000 in
set_option maxRecDepth 100000 in
theorem firstInPairs_any {n k : Nat} {L : PL} {PA : Option Addr} {pc : Nat} (hn : n ≤ 12) (hLs : L.Pairwise plt) (hLf : FromQ n 0 L) (hcap : L.length ≤ pc) (hL66 : L.length ≤ 1048576) (h100 : k ≤ 100) (w : World) (hr : CRead w w.heap.size PA (pcells L)) :
    Calls Try.prog 55 #[.agg #[.int .i64 n, .slice PA L.length pc], .int .i64 k] w (GotPairsOk w (firstQ [] 0 (mP L k [] (bitsQ (2 ^ n - 1)))) (decide (0 < (mP L k [] (bitsQ (2 ^ n - 1))).length))) := by
  have hPb : L ≠ [] → ∀ j off, PA = some ⟨j, off, none⟩ → j < w.heap.size := by
    intro hne j off e
    obtain ⟨q, hq⟩ := getSome L 0 (by cases L with | nil => exact absurd rfl hne | cons x l => simp)
    obtain ⟨b', off', e', hb', _⟩ := hr.pair (k := 0) (x := q.1) (y := q.2) hq
    rw [e] at e'
    simp only [Option.some.injEq, Addr.mk.injEq, and_true] at e'
    omega
  have got := fun (X : World) (hX : Below w.heap.size w X) => pairs_got (k := k) hn hLs hLf hcap hL66 h100 X ((hr.below hX (Nat.le_refl _)).more hX.size)
  obtain ⟨QQ, hQ⟩ : ∃ QQ, mP L k [] (bitsQ (2 ^ n - 1)) = QQ := ⟨_, rfl⟩
  simp only [hQ] at got ⊢
  have hq2 : QQ = [] → firstQ [] 0 QQ = [] ∧ decide (0 < QQ.length) = false := by rintro rfl; exact ⟨rfl, rfl⟩
  have hq1 : ∀ q M, q :: M = QQ → firstQ [] 0 QQ = q ∧ decide (0 < QQ.length) = true := by rintro q M rfl; exact ⟨rfl, by simp⟩
  obtain ⟨R, hR⟩ : ∃ R, firstQ [] 0 QQ = R := ⟨_, rfl⟩
  obtain ⟨ok, hok⟩ : ∃ ok, decide (0 < QQ.length) = ok := ⟨_, rfl⟩
  simp only [hR, hok] at hq1 hq2 ⊢
  obtain ⟨K, hK⟩ : ∃ K, ((k : Nat) : Int) = K := ⟨_, rfl⟩
  simp only [hK] at got ⊢
  refine (callsIn_wide (n := 5)).1 ?_
  refine callsIn_of_wp_marks Try.func55 rfl trivial ?_
  simp only [Try.ntmps55, List.size_toArray, List.length_cons, List.length_nil, Nat.reduceAdd, Nat.reduceSub, Array.replicate_succ, Array.replicate_zero, List.push_toArray, List.append_toArray, List.nil_append, List.cons_append]
  refine wpIn_wide.2 ?_
  have Got1 := Lib.hid got
  have Hq1 := Lib.hid hq1
  have Hq2 := Lib.hid hq2
  have HPb := Lib.hid hPb
  clear got hq1 hq2 hPb hQ hR hok hK hr
  go_wp2_with fail
  obtain ⟨W, hW⟩ : ∃ W, (((w.alloc (Obj.cells #[.int .i64 n, .slice PA L.length pc] 24)).alloc (Obj.cells #[.slice none 0 0] 22)).alloc (Obj.cells #[.bool false] 4)) = W := ⟨_, rfl⟩
  have kW : Below w.heap.size w W := by rw [← hW]; go_grown
  have zW : W.heap.size = w.heap.size + 3 := by rw [← hW]; simp
  have bS : W.heap[w.heap.size + 1]? = some (Obj.cells #[.slice none 0 0] 22) := by
    rw [← hW, heap_alloc_lt _ _ _ (by simp)]; have h := heap_alloc_new (w.alloc (Obj.cells #[.int .i64 n, .slice PA L.length pc] 24)) (Obj.cells #[.slice none 0 0] 22); rwa [World.size_alloc] at h
  have bB : W.heap[w.heap.size + 2]? = some (Obj.cells #[.bool false] 4) := by
    rw [← hW]; have h := heap_alloc_new ((w.alloc (Obj.cells #[.int .i64 n, .slice PA L.length pc] 24)).alloc (Obj.cells #[.slice none 0 0] 22)) (Obj.cells #[.bool false] 4); rwa [World.size_alloc, World.size_alloc] at h
  rw [hW]
  clear hW
  refine (Got1.out W kW).mono ?_
  rintro e w1 ⟨lb, rfl, hb1, hseq⟩
  have s1 := hb1.size
  have bS1 := (hb1.block _ (show w.heap.size + 1 < W.heap.size by omega)).trans bS
  have bB1 := (hb1.block _ (show w.heap.size + 2 < W.heap.size by omega)).trans bB
  have k1 : Below w.heap.size w w1 := kW.trans (hb1.mono kW.size)
  have Seq1 := Lib.hid hseq
  have K1 := Lib.hid k1
  have BS := Lib.hid bS1
  have BB := Lib.hid bB1
  clear hseq bS bB bS1 bB1 k1 hb1 kW
  go_wp2_with fail
  have mk1 : Marks [] w1 := Marks.nil _
  have Mk1 := Lib.hid mk1
  clear mk1
  have hnoM' : ∀ j, ¬ isMark [] j := fun j ⟨d, hd, _⟩ => by cases hd
  have hnoM : ∀ j, isMark [] j → j ≠ w1.heap.size := fun j hj => absurd hj (hnoM' j)
  refine wp_rangeFunc_asg rfl (enters_of Try.func94 (by kernel_rfl) rfl) Seq1.out (fun j hj => hj.elim (fun ⟨h1, off, h2⟩ => by have := HPb.out h1 j off h2; have := K1.out.size; omega) (fun h => h.2)) (fun T x args A C h hs => h.stays hs) (fun T x args W h => h.one)
    (fun S pre Y => (∀ j, S j → w1.heap.size ≤ j) ∧ Below w1.heap.size w1 Y ∧ pre = [])
    (fun c pre Y => c = .ret ∧ ∃ (q : PL) (A : Option Addr) (c' : Nat), pre = [q] ∧ Y.cell? ⟨w.heap.size + 1, 0, none⟩ = some (.slice A q.length c') ∧ Y.cell? ⟨w.heap.size + 1 + 1, 0, none⟩ = some (.bool true) ∧ Y.ownsRow w.heap.size 76 2 (.slice A q.length c') q.length (pcells q) ∧ (∀ k, (Value.slice A q.length c').ownBlock = some k → w1.heap.size + 2 ≤ k) ∧ Below w.heap.size w Y ∧ w1.heap.size ≤ Y.heap.size)
    ?held ?heldx ⟨fun _ h => h.elim, Below.refl _ _, rfl⟩ (fun v => { tmps := #[.agg #[.int .i64 n, .slice PA L.length pc], .int .i64 K, .pointer (some ⟨w.heap.size, 0, none⟩), undef, .pointer (some ⟨w.heap.size + 1, 0, none⟩), .pointer (some ⟨w.heap.size + 1 + 1, 0, none⟩), v, .agg #[.int .i64 n, .slice PA L.length pc], .int .i64 K, .func (.func 94) #[] lb, v, undef, undef], defers := [] }) ?assign ?body ?done ?stop
  case held =>
    rintro S S' pre A C ⟨a1, a2, a3⟩ hap hS'
    exact ⟨fun j hj => (hS' j hj).elim (a1 j) (by have := a2.size; omega), a2.trans (hap.below_of a2.size fun j hj => a1 j hj), a3⟩
  case heldx =>
    rintro c pre A C ⟨hc, q, Aq, cq, a1, a2, a2', a3, a4, a5, a6⟩ hap
    refine ⟨hc, q, Aq, cq, a1, hap.cell a2 (by simp; omega), hap.cell a2' (by simp; omega), ?_, a4, a5.trans (hap.below_of (by omega) fun j hj => by omega), Nat.le_trans a6 hap.below.size⟩
    obtain ⟨h1, h2⟩ := a3
    rcases h2 with ⟨hv, h0⟩ | ⟨g, cap, cur, hv, hb, hg, hrest⟩
    · exact ⟨h1, .inl ⟨hv, h0⟩⟩
    · have hk := a4 g (by rw [hv]; rfl)
      exact ⟨h1, .inr ⟨g, cap, cur, hv, hb, (hap.same g (Array.getElem?_eq_some_iff.1 hg).1 (by omega)).trans hg, hrest⟩⟩
  case assign =>
    intro l v Y K hK
    gi_wp2
    exact hK
  case body =>
    rintro l S' S pre x v Y ⟨a1, a2, rfl⟩ hrd hTS hz hS' _
    obtain ⟨A, c, hv, told, hTb, hx100⟩ := hrd
    obtain rfl : v = .slice A x.length c := by simpa using hv
    have Told := Lib.hid told
    have sY := a2.size
    have cY := cell_in ((a2.block _ (show w.heap.size + 1 < w1.heap.size by omega)).trans BS.out)
    have fY := frozen_of_row _ _ 0 _ _ ((a2.block _ (show w.heap.size + 1 < w1.heap.size by omega)).trans BS.out)
    have cY2 := cell_in ((a2.block _ (show w.heap.size + 2 < w1.heap.size by omega)).trans BB.out)
    have fY2 := frozen_of_row _ _ 0 _ _ ((a2.block _ (show w.heap.size + 2 < w1.heap.size by omega)).trans BB.out)
    have A2 := Lib.hid a2
    clear told a2 hTb hv
    gi_wp2_with fail
    refine ⟨trivial, (((callsIn_wide (n := 2)).2 (cloneP_any x A c Y (by omega) (CRead.of_own Told.out))).inRound l).mono ?_⟩
    rintro e w2 ⟨Ac, cc, rfl, own2, hb2⟩
    have c2 := carry hb2 cY (by omega)
    have f2 := (hb2.frozen (p := ⟨w.heap.size + 1, 0, none⟩) (by simp; omega)).trans fY
    have d2 : w2.cell? ⟨w.heap.size + 1 + 1, 0, none⟩ = some (.bool false) := carry hb2 cY2 (by omega)
    have g2 : w2.frozen? ⟨w.heap.size + 1 + 1, 0, none⟩ = false := (hb2.frozen (p := ⟨w.heap.size + 1 + 1, 0, none⟩) (by simp; omega)).trans fY2
    have s2 := hb2.size
    have Own2 := Lib.hid own2
    have Hb2 := Lib.hid hb2
    clear own2 hb2 cY fY cY2 fY2
    gi_wp2
    have kY := K1.out.trans (A2.out.mono (by omega))
    have k2 := kY.trans (Hb2.out.mono (by omega))
    refine ⟨((Stays.of_below Hb2.out).trans (Stays.setCell (p := ⟨w.heap.size + 1, 0, none⟩) (by simp; omega) w2 _)).trans (Stays.setCell (p := ⟨w.heap.size + 1 + 1, 0, none⟩) (by simp; omega) _ _), rfl, x, Ac, cc, rfl, ?_, World.cell?_setCell_same' _ _ _ (by rw [World.cell?_setCell_other _ _ _ _ (by simp), d2]; rfl), own_lower (ownsRow_setCell_below (ownsRow_setCell_below Own2.out (a := ⟨w.heap.size + 1, 0, none⟩) (by simp; omega) _) (a := ⟨w.heap.size + 1 + 1, 0, none⟩) (by simp; omega) _) (by omega), fun k hk => ?_, (k2.setCell (p := ⟨w.heap.size + 1, 0, none⟩) (by simp) _).setCell (p := ⟨w.heap.size + 1 + 1, 0, none⟩) (by simp; omega) _, by simp; omega⟩
    · rw [World.cell?_setCell_other _ _ _ _ (by simp)]
      exact World.cell?_setCell_same' _ _ _ (by rw [c2]; rfl)
    · have := (own_lies Own2.out k hk).1; omega
  case done =>
    rintro S Y ⟨a1, a2, hpre⟩ hD
    obtain ⟨hRe, hoe⟩ := Hq2.out hpre
    subst hoe
    have HRe := Lib.hid hRe
    have sY := a2.size
    have cY := cell_in ((a2.block _ (show w.heap.size + 1 < w1.heap.size by omega)).trans BS.out)
    have fY := frozen_of_row _ _ 0 _ _ ((a2.block _ (show w.heap.size + 1 < w1.heap.size by omega)).trans BS.out)
    have cY2 : Y.cell? ⟨w.heap.size + 1 + 1, 0, none⟩ = some (.bool false) := cell_in ((a2.block _ (show w.heap.size + 2 < w1.heap.size by omega)).trans BB.out)
    have fY2 : Y.frozen? ⟨w.heap.size + 1 + 1, 0, none⟩ = false := frozen_of_row _ _ 0 _ _ ((a2.block _ (show w.heap.size + 2 < w1.heap.size by omega)).trans BB.out)
    have kY := K1.out.trans (a2.mono (by omega))
    have mk2 := (Mk1.out.below a2).cons hD fun j hj => hnoM j hj
    have hge : ∀ j, isMark [{ target := .collected w1.heap.size, args := #[] }] j → W.heap.size ≤ j := fun j ⟨d, hd, ht⟩ => by
      rcases List.mem_cons.1 hd with rfl | hd
      · simp only [Target.collected.injEq] at ht; omega
      · cases hd
    have Mk2 := Lib.hid mk2
    have KY := Lib.hid kY
    clear hpre hRe a2 mk2 kY
    go_wp2
    have hM2 : Marks [{ target := .collected w1.heap.size, args := #[] }] ((Y.setCell ⟨w.heap.size + 1, 0, none⟩ (.slice none 0 0)).setCell ⟨w.heap.size + 1 + 1, 0, none⟩ (.bool false)) := (Mk2.out.same fun j hj => Below.heap_setCell Y _ _ _ (by have := hge j hj; simp; omega)).same fun j hj => Below.heap_setCell _ _ _ _ (by have := hge j hj; simp; omega)
    have kX2 := (KY.out.setCell (p := ⟨w.heap.size + 1, 0, none⟩) (by simp) (.slice none 0 0)).setCell (p := ⟨w.heap.size + 1 + 1, 0, none⟩) (by simp; omega) (.bool false)
    have c9 : ((Y.setCell ⟨w.heap.size + 1, 0, none⟩ (.slice none 0 0)).setCell ⟨w.heap.size + 1 + 1, 0, none⟩ (.bool false)).cell? ⟨w.heap.size + 1, 0, none⟩ = some (.slice none 0 0) := by
      rw [World.cell?_setCell_other _ _ _ _ (by simp)]
      exact World.cell?_setCell_same' _ _ _ (by rw [cY]; rfl)
    have c9' : ((Y.setCell ⟨w.heap.size + 1, 0, none⟩ (.slice none 0 0)).setCell ⟨w.heap.size + 1 + 1, 0, none⟩ (.bool false)).cell? ⟨w.heap.size + 1 + 1, 0, none⟩ = some (.bool false) := World.cell?_setCell_same' _ _ _ (by rw [World.cell?_setCell_other _ _ _ _ (by simp), cY2]; rfl)
    refine leaves_marks _ _ hM2 fun W' ha => ⟨.tuple #[.slice none 0 0, .bool false], ?_, ?_⟩
    · have c10 := ha.cell c9 (fun h => by have := hge _ h; simp at this; omega)
      have c11 := ha.cell c9' (fun h => by have := hge _ h; simp at this; omega)
      simp [results, Try.results55, go_sem, c10, c11]
    · rw [HRe.out]
      exact ⟨none, 0, rfl, World.ownsRow_nil _ _ _ _, kX2.trans (ha.below_of (by simp; omega) fun j hj => by have := hge _ hj; omega)⟩
  case stop =>
    rintro c pre x Y hpre ⟨rfl, q, A, c', hq, cell, cell2, own, hblk, kY, sY⟩ hD
    have hRq : R = q ∧ ok = true := by
      obtain ⟨M, hM⟩ := hpre
      rw [hq] at hM
      exact Hq1.out q M hM
    obtain ⟨rfl, rfl⟩ := hRq
    have Own := Lib.hid own
    clear own
    go_wp2
    have mk2 := (Marks.nil Y).cons hD fun j hj => hnoM j hj
    have hge : ∀ j, isMark [{ target := .collected w1.heap.size, args := #[] }] j → W.heap.size ≤ j := fun j ⟨d, hd, ht⟩ => by
      rcases List.mem_cons.1 hd with rfl | hd
      · simp only [Target.collected.injEq] at ht; omega
      · cases hd
    refine leaves_marks _ _ mk2 fun W' ha => ⟨.tuple #[.slice A R.length c', .bool true], ?_, ?_⟩
    · have c10 := ha.cell cell (fun h => by have := hge _ h; simp at this; omega)
      have c11 := ha.cell cell2 (fun h => by have := hge _ h; simp at this; omega)
      simp [results, Try.results55, go_sem, c10, c11]
    · exact ⟨A, c', rfl, own_at Own.out (mk2.rows ha), kY.trans (ha.below_of (by omega) fun j hj => by have := hge _ hj; omega)⟩
set_option maxHeartbeats 4000000 in
set_option maxRecDepth 100000 in
theorem implFirstPairing_any (p : Int) (l : PL) (A : Option Addr) (c : Nat) (w : World) (hl : l.length ≤ 1048576) (hA : CRead w w.heap.size A (pcells l)) (hd : l.length ≤ c) :
    Calls Try.prog 23 #[.agg #[.int .i64 p, .slice A l.length c]] w (GotPairsOk w (resFirstPairing p l).1 (resFirstPairing p l).2) := by
  have hr : CRead (w.alloc (Obj.cells #[.int .i64 p, .slice A l.length c] 24)) (w.alloc (Obj.cells #[.int .i64 p, .slice A l.length c] 24)).heap.size A (pcells l) := (hA.below (B' := w.heap.size) (by go_grown) (Nat.le_refl _)).more (by go_size)
  cases hp : isP p l with
  | false =>
    have e : resFirstPairing p l = ([], false) := by simp [resFirstPairing, hp]
    rw [e]
    have Hp := Lib.hid hp
    clear hp e
    go_enter Try.func23, Try.ntmps23
    go_wp2_with fail
    refine (isParty_any _ _ _ _ _ hl hr).mono ?_
    rw [Hp.out]
    rintro e w2 ⟨rfl, hb2⟩
    simp only [World.size_alloc] at hb2
    go_wp2
    go_ret2
    exact ⟨none, 0, rfl, World.ownsRow_nil _ _ _ _, Below.trans (b := _) (by go_grown) (hb2.mono (by omega))⟩
  | true =>
    obtain ⟨n, rfl⟩ : ∃ n : Nat, p = n := ⟨p.toNat, by have := isP_range hp; omega⟩
    have hn := isP_range hp
    have hn12 : n ≤ 12 := by omega
    have e : resFirstPairing n l = (firstQ [] 0 (pairQ n l), decide (0 < (pairQ n l).length)) := by simp [resFirstPairing, hp]
    rw [e]
    have call := fun (X : World) (hX : Below w.heap.size w X) => firstInPairs_any (k := pairsK n) hn12 (pairs_sorted hp) (pairs_from hp) hd hl (by unfold pairsK; omega) X ((hA.below hX (Nat.le_refl _)).more hX.size)
    change ∀ X, _ → Calls _ _ _ _ (GotPairsOk X (firstQ [] 0 (pairQ n l)) (decide (0 < (pairQ n l).length))) at call
    have hpf := fun (X : World) => pairsForAll_any n hn12 A l.length c X
    obtain ⟨K, hK⟩ : ∃ K, ((pairsK n : Nat) : Int) = K := ⟨_, rfl⟩
    obtain ⟨R, hR⟩ : ∃ R, firstQ [] 0 (pairQ n l) = R := ⟨_, rfl⟩
    obtain ⟨ok, hok⟩ : ∃ ok, decide (0 < (pairQ n l).length) = ok := ⟨_, rfl⟩
    simp only [hK, hR, hok] at call hpf ⊢
    have Call := Lib.hid call
    have Hpf := Lib.hid hpf
    have Hp := Lib.hid hp
    clear hp e call hpf hK hR hok
    go_enter Try.func23, Try.ntmps23
    go_wp2_with fail
    refine (isParty_any _ _ _ _ _ hl hr).mono ?_
    rw [Hp.out]
    rintro e w2 ⟨rfl, hb2⟩
    have c0 : w2.cell? ⟨w.heap.size, 0, none⟩ = some (.int .i64 n) := carry hb2 (by simp) (by simp)
    have c1 : w2.cell? ⟨w.heap.size, 1, none⟩ = some (.slice A l.length c) := carry hb2 (by simp) (by simp)
    have s2 := hb2.size
    simp only [World.size_alloc] at hb2 s2
    have k2 : Below w.heap.size w w2 := Below.trans (b := _) (by go_grown) (hb2.mono (by omega))
    have k2d : Below w2.heap.size w2 w2.drew := (Below.refl _ _).drew
    clear hb2 hr
    go_wp2
    go_region_held3 (fun w' => w'.cell? ⟨w.heap.size, 0, none⟩ = some (.int .i64 n) ∧ w'.cell? ⟨w.heap.size, 1, none⟩ = some (.slice A l.length c)) (first | exact ⟨c0, c1⟩ | exact ⟨v0, v1⟩ | exact ⟨u0, u1⟩) ((first
      | (go_at_call 56; refine (Hpf.out _).mono ?_; rintro e w3 ⟨rfl, hb3⟩; have k3 : Below w2.heap.size w2 w3 := k2d.trans hb3; have s3 := k3.size; have v0 := carry k3 c0 (by omega); have v1 := carry k3 c1 (by omega))
      | (go_at_call 55; refine (Call.out w3 (k2.trans (k3.mono k2.size))).mono ?_; rintro e w5 ⟨A5, c5, rfl, own5, hb5⟩; have k5 : Below w2.heap.size w2 w5 := k3.trans (hb5.mono s3); have u0 := carry k5 c0 (by omega); have u1 := carry k5 c1 (by omega))))
    have own' := own_lower own5 (show w.heap.size ≤ w3.heap.size by have := k2.size; omega)
    have kk := k2.trans (k5.mono k2.size)
    clear own5
    go_wp2
    go_ret2
    exact ⟨A5, c5, rfl, own', kk⟩
end Go.Proofs.Ytkiobefojckocaa
