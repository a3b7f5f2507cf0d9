/-
  Texts put together for the claims of 'Tables' (pack 5): Nums, NumsW, Colour, ApartP, Fof, DistS, Lists, RowsG, RowsH, Mats.
-/
import Derived.Test.YtmiecebdkadhbaaDoorTablesP1
import Derived.Test.YtmiecebdkadhbaaDoorTablesP2
import Derived.Test.YtmiecebdkadhbaaDoorTablesP3
import Derived.Test.YtmiecebdkadhbaaDoorTablesP4
import Derived.BigQuiet
import Derived.Maps.AppendAt
import Derived.Deep.RegionLaw
/-
  LISTS OF NUMBERS OF FRIENDS AS PLAIN LISTS: what numbers are; sorted so that they are falling; sums; where they fail. Nothing here speaks of the program.
-/
namespace Go.Proofs.YtmiecebdkadhbaaDoor

def isNums (q : List Int) : Bool := decide (q.length ≤ 12) && q.all fun x => decide (0 ≤ x ∧ x < q.length)
theorem isNums_len {q : List Int} (h : isNums q = true) : q.length ≤ 12 := by
  simp only [isNums, Bool.and_eq_true, decide_eq_true_eq] at h
  exact h.1
theorem isNums_mem {q : List Int} (h : isNums q = true) : ∀ x ∈ q, 0 ≤ x ∧ x < q.length := by
  simp only [isNums, Bool.and_eq_true, List.all_eq_true, decide_eq_true_eq] at h
  exact h.2
theorem isNums_at {q : List Int} (h : isNums q = true) {k : Nat} {x : Int} (hx : q[k]? = some x) : 0 ≤ x ∧ x < q.length := isNums_mem h x (List.mem_of_getElem? hx)
theorem isNums_of {q : List Int} (h : q.length ≤ 12) (h2 : ∀ (k : Nat) (x : Int), k < q.length → q[k]? = some x → 0 ≤ x ∧ x < q.length) : isNums q = true := by
  simp only [isNums, Bool.and_eq_true, List.all_eq_true, decide_eq_true_eq]
  refine ⟨h, fun x hx => ?_⟩
  obtain ⟨i, hi, rfl⟩ := List.getElem_of_mem hx
  exact h2 i _ hi (List.getElem?_eq_getElem hi)
theorem isNums_bad {q : List Int} {k : Nat} {x : Int} (hx : q[k]? = some x) (h : ¬ (0 ≤ x ∧ x < q.length)) : isNums q = false := by
  cases he : isNums q with
  | false => rfl
  | true => exact absurd (isNums_at he hx) h
theorem isNums_many {q : List Int} (h : 12 < q.length) : isNums q = false := by
  cases he : isNums q with
  | false => rfl
  | true => have := isNums_len he; omega

/-! ## Falling -/
def fall (q : List Int) : List Int := q.mergeSort fun x y => decide (y ≤ x)
theorem fall_perm (q : List Int) : (fall q).Perm q := List.mergeSort_perm _ _
theorem fall_length (q : List Int) : (fall q).length = q.length := (fall_perm q).length_eq
theorem fall_mem {q : List Int} {x : Int} : x ∈ fall q ↔ x ∈ q := (fall_perm q).mem_iff
theorem fall_sorted (q : List Int) : (fall q).Pairwise fun x y => y ≤ x := by
  have h := List.pairwise_mergeSort (le := fun x y : Int => decide (y ≤ x)) (by intro a b c; simp; omega) (by intro a b; simp; omega) q
  exact h.imp (by simp)
theorem fall_unique {l q : List Int} (hs : l.Pairwise fun x y => y ≤ x) (hp : l.Perm q) : l = fall q :=
  List.Perm.eq_of_pairwise (le := fun x y : Int => y ≤ x) (fun a b _ _ h1 h2 => by omega) hs (fall_sorted q) (hp.trans (fall_perm q).symm)
theorem fall_nums {q : List Int} (h : isNums q = true) : isNums (fall q) = true := by
  refine isNums_of (by rw [fall_length]; exact isNums_len h) fun k x _ hx => ?_
  have := isNums_mem h x (fall_mem.1 (List.mem_of_getElem? hx))
  rw [fall_length]
  exact this

/-- the numbers from n down, j of them, each as often as it is in the list -/
def blockI (q : List Int) (x : Int) : List Int := q.filter fun y => decide (x = y)
def descI (q : List Int) (n j : Nat) : List Int := (List.range j).flatMap fun i : Nat => blockI q ((n : Int) - (i : Int))
theorem descI_zero (q : List Int) (n : Nat) : descI q n 0 = [] := rfl
theorem descI_next (q : List Int) (n j : Nat) : descI q n (j + 1) = descI q n j ++ blockI q ((n : Int) - j) := by
  unfold descI
  rw [List.range_succ, List.flatMap_append]
  simp
theorem blockI_snoc (q : List Int) (x y : Int) : blockI (q ++ [y]) x = blockI q x ++ if x = y then [y] else [] := by
  unfold blockI
  rw [List.filter_append]
  congr 1
  by_cases h : x = y
  · rw [if_pos h, List.filter_cons_of_pos (by simpa using h)]; rfl
  · rw [if_neg h, List.filter_cons_of_neg (by simpa using h)]; rfl
theorem mem_blockI {q : List Int} {x y : Int} : y ∈ blockI q x ↔ y ∈ q ∧ x = y := by simp [blockI]
theorem mem_descI {q : List Int} {n j : Nat} {y : Int} : y ∈ descI q n j ↔ y ∈ q ∧ (n : Int) - j < y ∧ y ≤ n := by
  simp only [descI, List.mem_flatMap, List.mem_range, mem_blockI]
  constructor
  · rintro ⟨i, hi, hy, rfl⟩; exact ⟨hy, by omega, by omega⟩
  · rintro ⟨hy, h1, h2⟩; exact ⟨((n : Int) - y).toNat, by omega, hy, by omega⟩
theorem descI_sorted (q : List Int) (n j : Nat) : (descI q n j).Pairwise fun x y => y ≤ x := by
  induction j with
  | zero => exact List.Pairwise.nil
  | succ j ih =>
    rw [descI_next, List.pairwise_append]
    refine ⟨ih, ?_, fun a ha b hb => ?_⟩
    · rw [List.pairwise_iff_getElem]
      intro a b ha hb _
      have h1 := (mem_blockI.1 (List.getElem_mem ha)).2
      have h2 := (mem_blockI.1 (List.getElem_mem hb)).2
      omega
    · have h1 := mem_descI.1 ha
      have h2 := (mem_blockI.1 hb).2
      omega
theorem count_blockI (q : List Int) (x y : Int) : (blockI q x).count y = if x = y then q.count y else 0 := by
  unfold blockI
  by_cases h : x = y
  · subst h
    rw [if_pos rfl, List.count_filter (by simp)]
  · rw [if_neg h, List.count_eq_zero]
    intro hm
    exact h (by simpa using (List.mem_filter.1 hm).2)
theorem count_descI (q : List Int) (n j : Nat) (y : Int) : (descI q n j).count y = if (n : Int) - j < y ∧ y ≤ n then q.count y else 0 := by
  induction j with
  | zero => rw [descI_zero, if_neg (by omega)]; rfl
  | succ j ih =>
    rw [descI_next, List.count_append, ih, count_blockI]
    by_cases h1 : (n : Int) - j = y
    · rw [if_pos h1, if_neg (by omega), if_pos (by omega), Nat.zero_add]
    · rw [if_neg h1, Nat.add_zero]
      by_cases h2 : (n : Int) - j < y ∧ y ≤ n
      · rw [if_pos h2, if_pos (by omega)]
      · rw [if_neg h2, if_neg (by omega)]
theorem descI_fall {q : List Int} (h : isNums q = true) : descI q q.length (q.length + 1) = fall q := by
  refine fall_unique (descI_sorted _ _ _) (List.perm_iff_count.2 fun y => ?_)
  rw [count_descI]
  split
  · rfl
  · rename_i hn
    symm
    rw [List.count_eq_zero]
    intro hy
    have := isNums_mem h y hy
    omega
theorem descI_le (q : List Int) (n j : Nat) : (descI q n j).length ≤ j * q.length := by
  induction j with
  | zero => simp [descI_zero]
  | succ j ih =>
    rw [descI_next, List.length_append, Nat.add_mul, Nat.one_mul]
    have : (blockI q ((n : Int) - j)).length ≤ q.length := List.length_filter_le _ _
    omega
theorem blockI_le (q : List Int) (x : Int) : (blockI q x).length ≤ q.length := List.length_filter_le _ _

/-! ## Sums -/
def sumI (q : List Int) : Int := q.foldl (· + ·) 0
theorem sumI_snoc (q : List Int) (x : Int) : sumI (q ++ [x]) = sumI q + x := by simp [sumI, List.foldl_append]
theorem sumI_nil : sumI [] = 0 := rfl
/-- a bound of the sum of a beginning -/
theorem sumI_take_bound {q : List Int} {m : Int} (hm : 0 ≤ m) (h : ∀ x ∈ q, 0 ≤ x ∧ x ≤ m) : ∀ k, 0 ≤ sumI (q.take k) ∧ sumI (q.take k) ≤ k * m := by
  intro k
  induction k with
  | zero => simp [sumI_nil]
  | succ k ih =>
    rw [List.take_add_one]
    have e : ((k + 1 : Nat) : Int) * m = k * m + m := by rw [Int.natCast_add, Int.add_mul]; simp
    rw [e]
    cases hx : q[k]? with
    | none => simp; omega
    | some x =>
      have := h x (List.mem_of_getElem? hx)
      rw [Option.toList_some, sumI_snoc]
      omega
theorem sumI_perm {q l : List Int} (h : q.Perm l) : sumI q = sumI l := by
  unfold sumI
  exact h.foldl_eq' (fun x _ y _ z => by omega) 0

/-! ## Where numbers fail -/
def minsI (k : Int) (q : List Int) : List Int := q.map fun x => if k < x then k else x
theorem minsI_snoc (k : Int) (q : List Int) (x : Int) : minsI k (q ++ [x]) = minsI k q ++ [if k < x then k else x] := by simp [minsI]
def mostI (s : List Int) (k : Nat) : Int := (k : Int) * (k - 1) + sumI (minsI k (s.drop k))
def failAt (s : List Int) (k : Nat) : Bool := decide (mostI s k < sumI (s.take k))
def failsI (s : List Int) : Int := match (List.range s.length).find? fun i => failAt s (i + 1) with | none => 0 | some i => (i : Int) + 1
theorem failsI_at {s : List Int} {k : Nat} (hk : k < s.length) (h : ∀ j, j < k → failAt s (j + 1) = false) (hf : failAt s (k + 1) = true) : failsI s = k + 1 := by
  have : (List.range s.length).find? (fun i => failAt s (i + 1)) = some k := by
    rw [List.find?_range_eq_some]
    exact ⟨hf, by simpa using hk, fun j hj => by simp [h j hj]⟩
  unfold failsI
  rw [this]
theorem failsI_none {s : List Int} (h : ∀ j, j < s.length → failAt s (j + 1) = false) : failsI s = 0 := by
  have : (List.range s.length).find? (fun i => failAt s (i + 1)) = none := by
    rw [List.find?_range_eq_none]
    intro j hj
    simp [h j hj]
  unfold failsI
  rw [this]
theorem failsI_range (s : List Int) : 0 ≤ failsI s ∧ failsI s ≤ s.length := by
  unfold failsI
  split
  · omega
  · rename_i i hi
    have := List.mem_of_find?_eq_some hi
    rw [List.mem_range] at this
    omega
theorem minsI_bound {s : List Int} {m k : Int} (hk : 0 ≤ k) (h : ∀ x ∈ s, 0 ≤ x ∧ x ≤ m) : ∀ x ∈ minsI k s, 0 ≤ x ∧ x ≤ m := by
  intro x hx
  obtain ⟨y, hy, rfl⟩ := List.mem_map.1 hx
  have := h y hy
  split <;> omega
/-- they can be -/
def canI (q : List Int) : Bool := decide (sumI q % 2 = 0) && decide (failsI (fall q) = 0)
end Go.Proofs.YtmiecebdkadhbaaDoor
/-
  NUMBERS OF FRIENDS: what they are, by the model's and the program's contracts.
-/
namespace Go.Proofs.YtmiecebdkadhbaaDoor
open Go.RowKit

def l1AllB (q : List Int) (lo hi : Int) : Bool := q.all fun x => decide (lo ≤ x ∧ x ≤ hi)
theorem l1AllB_yes {q : List Int} {lo hi : Int} (h : ∀ (j : Nat) (x : Int), j < q.length → q[j]? = some x → lo ≤ x ∧ x ≤ hi) : l1AllB q lo hi = true := by
  simp only [l1AllB, List.all_eq_true, decide_eq_true_eq]
  intro x hx
  obtain ⟨i, hi, rfl⟩ := List.getElem_of_mem hx
  exact h i _ hi (List.getElem?_eq_getElem hi)
theorem l1AllB_no {q : List Int} {lo hi : Int} {k : Nat} {x : Int} (hx : q[k]? = some x) (h : ¬ (lo ≤ x ∧ x ≤ hi)) : l1AllB q lo hi = false := by
  cases he : l1AllB q lo hi with
  | false => rfl
  | true =>
    simp only [l1AllB, List.all_eq_true, decide_eq_true_eq] at he
    exact absurd (he x (List.mem_of_getElem? hx)) h

theorem isNums_all {q : List Int} (h : q.length ≤ 12) : l1AllB q 0 ((q.length : Int) - 1) = isNums q := by
  unfold l1AllB isNums
  rw [decide_eq_true h, Bool.true_and]
  congr 1
  funext x
  congr 1
  apply propext
  omega

def resIsNumbers (q : List Int) : Bool := isNums q
/-! ## Sums -/
/-! ## Sorted so that they are falling: the model's -/
end Go.Proofs.YtmiecebdkadhbaaDoor
/-
  'IsColouring': the model's and the program's, by their contracts.
-/
namespace Go.Proofs.YtmiecebdkadhbaaDoor
open Go.RowKit

def isColI (p : Int) (q : List Int) : Bool := decide ((q.length : Int) = p) && l1AllB q 0 11
def differAt (q : List Int) (x : Int × Int) : Bool := !(q.getD x.1.toNat 0 == q.getD x.2.toNat 0)
def differI (l : PL) (q : List Int) : Bool := l.all (differAt q)
theorem differI_no {l : PL} {q : List Int} {k : Nat} {x : Int × Int} (hx : l[k]? = some x) (h : differAt q x = false) : differI l q = false := by
  unfold differI
  rw [List.all_eq_false]
  exact ⟨x, List.mem_of_getElem? hx, by simp [h]⟩
theorem differI_of {l : PL} {q : List Int} (h : ∀ (j : Nat) (x : Int × Int), j < l.length → l[j]? = some x → differAt q x = true) : differI l q = true := by
  unfold differI
  rw [List.all_eq_true]
  intro x hx
  obtain ⟨j, hj, e⟩ := List.getElem_of_mem hx
  exact h j x hj (by rw [List.getElem?_eq_getElem hj, e])
theorem pairs_in {n : Nat} {l : PL} (h : isP n l = true) {k : Nat} {x y : Int} (hx : l[k]? = some (x, y)) : 0 ≤ x ∧ x < n ∧ 0 ≤ y ∧ y < n := by
  have := (isP_list h).2.2.1 _ (List.mem_of_getElem? hx)
  simp only at this
  omega
def resIsColouring (p : Int) (l : PL) (q : List Int) : Bool × Bool := if isP p l then (isColI p q && differI l q, true) else (false, false)

set_option maxHeartbeats 4000000 in
set_option maxRecDepth 100000 in
theorem grDiffer_any (n : Nat) (l : PL) (A : Option Addr) (c : Nat) (q : List Int) (B : Option Addr) (d : Nat) (w : World) (hp : isP n l = true) (hlen : q.length = n) (hl : l.length ≤ 1048576) (hA : CRead w w.heap.size A (pcells l)) (hB : CRead w w.heap.size B (icells q)) :
    Calls Tryd.prog 87 #[.agg #[.int .i64 n, .slice A l.length c], .slice B q.length d] w fun e w' => e = .returned (.bool (differI l q)) ∧ Below w.heap.size w w' := by
  obtain ⟨r, hr⟩ : ∃ r, differI l q = r := ⟨_, rfl⟩
  rw [hr]
  have Hr := Lib.hid hr
  have Hp := Lib.hid hp
  have Hlen := Lib.hid hlen
  clear hr hp hlen
  go_enter Tryd.func87, Tryd.ntmps87
  go_wp2
  go_loopw [10] (fun i wr => ∃ k : Nat, k ≤ l.length ∧ i = .int .i64 k ∧ Below w.heap.size w wr ∧ ∀ (j : Nat) (x : Int × Int), j < k → l[j]? = some x → differAt q x = true) (fun i _ => l.length - (intOf i).toNat)
  case atStart => exact ⟨0, Nat.zero_le _, rfl, by go_grown, fun j x hj => by omega⟩
  case round =>
    obtain ⟨k, hk, rfl, hb, hall⟩ := hrel
    have Hall := Lib.hid hall
    clear hall
    have s0 := hb.size
    by_cases hlt : k < l.length
    · obtain ⟨⟨x, y⟩, hx⟩ := getSome l k hlt
      have hxy := pairs_in Hp.out hx
      obtain ⟨a, rfl⟩ : ∃ a : Nat, x = a := ⟨x.toNat, by omega⟩
      obtain ⟨b, rfl⟩ : ∃ b : Nat, y = b := ⟨y.toNat, by omega⟩
      obtain ⟨bb, off, rfl, hbb, c0, c1⟩ := (hA.below hb (Nat.le_refl _)).pair hx
      have hlen := Hlen.out
      have ha : a < q.length := by omega
      have hbq : b < q.length := by omega
      obtain ⟨bq, offq, rfl, hbq2, hcell⟩ := ((hB.below hb (Nat.le_refl _))).ints (show 0 < q.length by omega)
      have d0 := hcell a ha
      have d1 := hcell b hbq
      have hda : differAt q ((a : Int), (b : Int)) = !(q.getD a 0 == q.getD b 0) := by simp [differAt]
      obtain ⟨u, hu⟩ : ∃ u, q.getD a 0 = u := ⟨_, rfl⟩
      obtain ⟨v, hv⟩ : ∃ v, q.getD b 0 = v := ⟨_, rfl⟩
      rw [hu] at d0 hda
      rw [hv] at d1 hda
      have hki : (k : Int) < (l.length : Int) := by omega
      have hai : (a : Int) < (q.length : Int) := by omega
      have hbi : (b : Int) < (q.length : Int) := by omega
      have Hx := Lib.hid hx
      have Hda := Lib.hid hda
      clear hx hda hu hv hcell hlen
      have hn1 : bb ≠ wr.heap.size := by omega
      go_wp2_with fail
      obtain ⟨X, hX⟩ : ∃ X, wr.alloc (Obj.cells #[.int .i64 (a : Int), .int .i64 (b : Int)] 78) = X := ⟨_, rfl⟩
      have kX : Below wr.heap.size wr X := by rw [← hX]; go_grown
      have x0 : X.cell? ⟨wr.heap.size, 0, none⟩ = some (.int .i64 a) := by rw [← hX]; simp
      have x1 : X.cell? ⟨wr.heap.size, 1, none⟩ = some (.int .i64 b) := by rw [← hX]; simp
      have e0 := carry kX d0 (by omega)
      have e1 := carry kX d1 (by omega)
      have KK := Lib.hid (hb.trans (kX.mono s0))
      rw [hX]
      clear hX kX c0 c1 d0 d1 hb
      go_quiet (fail)
      cases hw : (u == v) with
      | true =>
        have Hf := Lib.hid (differI_no Hx.out (by rw [Hda.out, hw]; rfl))
        go_wp2
        go_ret
        exact ⟨by rw [← Hr.out, Hf.out]; rfl, ⟨KK.out.os, KK.out.tape, KK.out.output, KK.out.size, KK.out.block⟩⟩
      | false =>
        have Hd := Lib.hid (show differAt q ((a : Int), (b : Int)) = true by rw [Hda.out, hw]; rfl)
        go_wp2
        go_roundw
        case rel => exact ⟨k + 1, by omega, by go_num, ⟨KK.out.os, KK.out.tape, KK.out.output, KK.out.size, KK.out.block⟩, fun j x hj hxj => by
                      by_cases hjk : j = k
                      · subst hjk
                        rw [Hx.out] at hxj
                        rw [← Option.some.inj hxj]
                        exact Hd.out
                      · exact Hall.out j x (by omega) hxj⟩
        case measure => simp [intOf]; omega
    · have hkl : k = l.length := by omega
      have hge : ¬ ((k : Int) < (l.length : Int)) := by omega
      have He := Lib.hid (differI_of (l := l) (q := q) fun j x hj hx => Hall.out j x (by omega) hx)
      go_wp2
      go_ret
      exact ⟨by rw [← Hr.out, He.out]; rfl, hb⟩
set_option maxHeartbeats 2000000 in
set_option maxRecDepth 100000 in
theorem alike_any (a b g : Nat) (q : List Int) (B : Option Addr) (d : Nat) (W : World) (ha : a < q.length) (hb : b < q.length) (cg : W.cell? ⟨g, 0, none⟩ = some (.slice B q.length d)) (hB : CRead W W.heap.size B (icells q)) :
    Calls Tryd.prog 111 #[.agg #[.int .i64 a, .int .i64 b], .pointer (some ⟨g, 0, none⟩)] W fun e w' => e = .returned (.bool (q.getD a 0 == q.getD b 0)) ∧ Below W.heap.size W w' := by
  obtain ⟨bq, offq, rfl, hbq2, hcell⟩ := hB.ints (show 0 < q.length by omega)
  have d0 := hcell a ha
  have d1 := hcell b hb
  obtain ⟨u, hu⟩ : ∃ u, q.getD a 0 = u := ⟨_, rfl⟩
  obtain ⟨v, hv⟩ : ∃ v, q.getD b 0 = v := ⟨_, rfl⟩
  rw [hu] at d0 ⊢
  rw [hv] at d1 ⊢
  have hai : (a : Int) < (q.length : Int) := by omega
  have hbi : (b : Int) < (q.length : Int) := by omega
  have hg := World.block_lt_of_cell? W _ cg
  simp only at hg
  obtain ⟨X, hX⟩ : ∃ X, W.alloc (Obj.cells #[.int .i64 (a : Int), .int .i64 (b : Int)] 78) = X := ⟨_, rfl⟩
  have kX : Below W.heap.size W X := by rw [← hX]; go_grown
  have x0 : X.cell? ⟨W.heap.size, 0, none⟩ = some (.int .i64 a) := by rw [← hX]; simp
  have x1 : X.cell? ⟨W.heap.size, 1, none⟩ = some (.int .i64 b) := by rw [← hX]; simp
  have xg := carry kX cg (by omega)
  have e0 := carry kX d0 (by omega)
  have e1 := carry kX d1 (by omega)
  have HX := Lib.hid hX
  have KX := Lib.hid kX
  clear hX kX cg d0 d1 hcell hB hu hv
  go_enter Tryd.func111, Tryd.ntmps111
  go_wp2
  rw [HX.out]
  go_quiet (fail)
  go_wp2
  go_ret
  exact ⟨rfl, ⟨KX.out.os, KX.out.tape, KX.out.output, KX.out.size, KX.out.block⟩⟩
set_option maxHeartbeats 4000000 in
set_option maxRecDepth 100000 in
theorem indexAlike_any (n : Nat) (l : PL) (A : Option Addr) (c g : Nat) (q : List Int) (B : Option Addr) (d : Nat) (w : World) (hp : isP n l = true) (hlen : q.length = n) (hl : l.length ≤ 1048576) (hA : CRead w w.heap.size A (pcells l)) (hB : CRead w w.heap.size B (icells q)) (cg : w.cell? ⟨g, 0, none⟩ = some (.slice B q.length d)) :
    Calls Tryd.prog 119 #[.slice A l.length c, .func (.func 111) #[] #[.pointer (some ⟨g, 0, none⟩)]] w fun e w' => ∃ i : Int, e = .returned (.int .i64 i) ∧ decide (0 ≤ i) = !differI l q ∧ Below w.heap.size w w' := by
  have hg := World.block_lt_of_cell? w _ cg
  simp only at hg
  have Hp := Lib.hid hp
  have Hlen := Lib.hid hlen
  clear hp hlen
  go_enter Tryd.func119, Tryd.ntmps119
  go_wp2
  go_loopw [8] (fun i wr => ∃ k : Nat, k ≤ l.length ∧ i = .int .i64 k ∧ Below w.heap.size w wr ∧ ∀ (j : Nat) (x : Int × Int), j < k → l[j]? = some x → differAt q x = true) (fun i _ => l.length - (intOf i).toNat)
  case atStart => exact ⟨0, Nat.zero_le _, rfl, Below.refl _ _, fun j x hj => by omega⟩
  case round =>
    obtain ⟨k, hk, rfl, hb, hall⟩ := hrel
    have Hall := Lib.hid hall
    clear hall
    have s0 := hb.size
    by_cases hlt : k < l.length
    · obtain ⟨⟨x, y⟩, hx⟩ := getSome l k hlt
      have hxy := pairs_in Hp.out hx
      obtain ⟨a, rfl⟩ : ∃ a : Nat, x = a := ⟨x.toNat, by omega⟩
      obtain ⟨b, rfl⟩ : ∃ b : Nat, y = b := ⟨y.toNat, by omega⟩
      obtain ⟨bb, off, rfl, hbb, c0, c1⟩ := (hA.below hb (Nat.le_refl _)).pair hx
      have hlen := Hlen.out
      have call := alike_any a b g q B d wr (by omega) (by omega) (carry hb cg hg) ((hB.below hb (Nat.le_refl _)).more s0)
      have hda : differAt q ((a : Int), (b : Int)) = !(q.getD a 0 == q.getD b 0) := by simp [differAt]
      obtain ⟨r, hr⟩ : ∃ r, (q.getD a 0 == q.getD b 0) = r := ⟨_, rfl⟩
      rw [hr] at call hda
      have hki : (k : Int) < (l.length : Int) := by omega
      have Hx := Lib.hid hx
      have Hda := Lib.hid hda
      have Call := Lib.hid call
      clear hx hda hr call hlen
      go_wp2_with fail
      refine Call.out.mono ?_
      rintro e w2 ⟨rfl, hb2⟩
      have k2 := hb.trans (hb2.mono s0)
      cases r with
      | true =>
        have Hf := Lib.hid (differI_no Hx.out (by rw [Hda.out]; rfl))
        go_wp2
        go_ret
        exact ⟨k, rfl, by rw [Hf.out]; exact decide_eq_true (by omega), k2⟩
      | false =>
        have Hd := Lib.hid (show differAt q ((a : Int), (b : Int)) = true by rw [Hda.out]; rfl)
        go_wp2
        go_roundw
        case rel => exact ⟨k + 1, by omega, by go_num, k2, fun j x hj hxj => by
                      by_cases hjk : j = k
                      · subst hjk
                        rw [Hx.out] at hxj
                        rw [← Option.some.inj hxj]
                        exact Hd.out
                      · exact Hall.out j x (by omega) hxj⟩
        case measure => simp [intOf]; omega
    · have hkl : k = l.length := by omega
      have hge : ¬ ((k : Int) < (l.length : Int)) := by omega
      have He := Lib.hid (differI_of (l := l) (q := q) fun j x hj hx => Hall.out j x (by omega) hx)
      go_wp2
      go_ret
      exact ⟨-1, rfl, by rw [He.out]; rfl, hb⟩
set_option maxHeartbeats 2000000 in
set_option maxRecDepth 100000 in
theorem containsAlike_any (n : Nat) (l : PL) (A : Option Addr) (c g : Nat) (q : List Int) (B : Option Addr) (d : Nat) (w : World) (hp : isP n l = true) (hlen : q.length = n) (hl : l.length ≤ 1048576) (hA : CRead w w.heap.size A (pcells l)) (hB : CRead w w.heap.size B (icells q)) (cg : w.cell? ⟨g, 0, none⟩ = some (.slice B q.length d)) :
    Calls Tryd.prog 112 #[.slice A l.length c, .func (.func 111) #[] #[.pointer (some ⟨g, 0, none⟩)]] w fun e w' => e = .returned (.bool (!differI l q)) ∧ Below w.heap.size w w' := by
  have call := indexAlike_any n l A c g q B d w hp hlen hl hA hB cg
  have Call := Lib.hid call
  clear call hp hlen
  go_enter Tryd.func112, Tryd.ntmps112
  go_wp2_with fail
  refine Call.out.mono ?_
  rintro e w2 ⟨i, rfl, hi, hb2⟩
  have Hi := Lib.hid hi
  clear hi
  go_wp2
  go_ret
  exact ⟨by rw [← Hi.out]; rfl, hb2⟩
theorem isNone_any (x : Int) (w : World) : Calls Tryd.prog 117 #[.int .i64 x] w fun e w' => e = .returned (.bool (!decide (0 ≤ x ∧ x ≤ 11))) ∧ w = w' := by
  by_cases h : x < 0
  · have e : decide (0 ≤ x ∧ x ≤ 11) = false := decide_eq_false (by omega)
    rw [e]
    clear e
    go_enter Tryd.func117, Tryd.ntmps117
    go_wp2
    go_ret
    exact ⟨rfl, rfl⟩
  · by_cases h2 : (12 : Int) ≤ x
    · have e : decide (0 ≤ x ∧ x ≤ 11) = false := decide_eq_false (by omega)
      rw [e]
      clear e
      go_enter Tryd.func117, Tryd.ntmps117
      go_wp2
      go_ret
      exact ⟨rfl, rfl⟩
    · have e : decide (0 ≤ x ∧ x ≤ 11) = true := decide_eq_true (by omega)
      rw [e]
      clear e
      go_enter Tryd.func117, Tryd.ntmps117
      go_wp2
      go_ret
      exact ⟨rfl, rfl⟩
set_option maxHeartbeats 2000000 in
set_option maxRecDepth 100000 in
theorem indexNone_any (q : List Int) (B : Option Addr) (d : Nat) (w : World) (hq : q.length ≤ 1048576) (hB : CRead w w.heap.size B (icells q)) :
    Calls Tryd.prog 126 #[.slice B q.length d, .func (.func 117) #[] #[]] w fun e w' => ∃ i : Int, e = .returned (.int .i64 i) ∧ decide (0 ≤ i) = !l1AllB q 0 11 ∧ w = w' := by
  go_enter Tryd.func126, Tryd.ntmps126
  go_wp2
  go_loopw [8] (fun i wr => ∃ k : Nat, k ≤ q.length ∧ i = .int .i64 k ∧ w = wr ∧ ∀ (j : Nat) (x : Int), j < k → q[j]? = some x → decide ((0 : Int) ≤ x ∧ x ≤ 11) = true) (fun i _ => q.length - (intOf i).toNat)
  case atStart => exact ⟨0, Nat.zero_le _, rfl, rfl, fun j x hj => by omega⟩
  case round =>
    obtain ⟨k, hk, rfl, rfl, hall⟩ := hrel
    have Hall := Lib.hid hall
    clear hall
    by_cases hlt : k < q.length
    · obtain ⟨x, hx⟩ := getSome q k hlt
      obtain ⟨b, off, rfl, hbb, c0⟩ := hB.int hx
      have hki : (k : Int) < (q.length : Int) := by omega
      have call := isNone_any x w
      obtain ⟨r, hr⟩ : ∃ r, decide ((0 : Int) ≤ x ∧ x ≤ 11) = r := ⟨_, rfl⟩
      rw [hr] at call
      have Hx := Lib.hid hx
      have Hr := Lib.hid hr
      have Call := Lib.hid call
      clear hx hr call
      go_wp2_with fail
      refine Call.out.mono ?_
      rintro e w2 ⟨rfl, rfl⟩
      cases r with
      | false =>
        have hf : l1AllB q 0 11 = false := by
          unfold l1AllB
          rw [List.all_eq_false]
          exact ⟨x, List.mem_of_getElem? Hx.out, by rw [Hr.out]; simp⟩
        have Hf := Lib.hid hf
        clear hf
        go_wp2
        go_ret
        exact ⟨k, rfl, by rw [Hf.out]; exact decide_eq_true (by omega), rfl⟩
      | true =>
        go_wp2
        go_roundw
        case rel => exact ⟨k + 1, by omega, by go_num, trivial, fun j y hj hy => by
                      by_cases hjk : j = k
                      · subst hjk
                        rw [Hx.out] at hy
                        rw [← Option.some.inj hy]
                        exact Hr.out
                      · exact Hall.out j y (by omega) hy⟩
        case measure => simp [intOf]; omega
    · have hkl : k = q.length := by omega
      have hge : ¬ ((k : Int) < (q.length : Int)) := by omega
      have he : l1AllB q 0 11 = true := by
        unfold l1AllB
        rw [List.all_eq_true]
        intro x hx
        obtain ⟨j, hj, e⟩ := List.getElem_of_mem hx
        exact Hall.out j x (by omega) (by rw [List.getElem?_eq_getElem hj, e])
      have He := Lib.hid he
      clear he
      go_wp2
      go_ret
      exact ⟨-1, rfl, by rw [He.out]; rfl, rfl⟩
set_option maxHeartbeats 2000000 in
set_option maxRecDepth 100000 in
theorem containsNone_any (q : List Int) (B : Option Addr) (d : Nat) (w : World) (hq : q.length ≤ 1048576) (hB : CRead w w.heap.size B (icells q)) :
    Calls Tryd.prog 118 #[.slice B q.length d, .func (.func 117) #[] #[]] w fun e w' => e = .returned (.bool (!l1AllB q 0 11)) ∧ w = w' := by
  go_enter Tryd.func118, Tryd.ntmps118
  go_wp2_with fail
  refine (indexNone_any q B d w hq hB).mono ?_
  rintro e w2 ⟨i, rfl, hi, rfl⟩
  have Hi := Lib.hid hi
  clear hi
  go_wp2
  go_ret
  exact ⟨by rw [← Hi.out]; rfl, rfl⟩
set_option maxHeartbeats 2000000 in
set_option maxRecDepth 100000 in
theorem areColours_any (p : Int) (l : PL) (A : Option Addr) (c : Nat) (q : List Int) (B : Option Addr) (d : Nat) (w : World) (hq : q.length ≤ 1048576) (hB : CRead w w.heap.size B (icells q)) :
    Calls Tryd.prog 110 #[.agg #[.int .i64 p, .slice A l.length c], .slice B q.length d] w fun e w' => e = .returned (.bool (isColI p q)) ∧ Below w.heap.size w w' := by
  by_cases hlen : (q.length : Int) = p
  · have hb : ((q.length : Int) == p) = true := beq_iff_eq.2 hlen
    have e : isColI p q = l1AllB q 0 11 := by simp [isColI, hlen]
    rw [e]
    have Hb := Lib.hid hb
    clear hlen e
    go_enter Tryd.func110, Tryd.ntmps110
    go_wp2_with fail
    refine (containsNone_any q B d _ hq ((hB.below (B' := w.heap.size) (by go_grown) (Nat.le_refl _)).more (by go_size))).mono ?_
    rintro e w2 ⟨rfl, rfl⟩
    go_wp2
    go_ret
    exact ⟨by simp, by go_grown⟩
  · have hb : ((q.length : Int) == p) = false := by simp [hlen]
    have e : isColI p q = false := by simp [isColI, hlen]
    rw [e]
    clear hlen e
    go_enter Tryd.func110, Tryd.ntmps110
    go_wp2
    go_ret
    exact ⟨rfl, by go_grown⟩
set_option maxHeartbeats 4000000 in
set_option maxRecDepth 100000 in
theorem implIsColouring_any (p : Int) (l : PL) (A : Option Addr) (c : Nat) (q : List Int) (B : Option Addr) (d : Nat) (w : World) (hl : l.length ≤ 1048576) (hA : CRead w w.heap.size A (pcells l)) (hq : q.length ≤ 1048576) (hB : CRead w w.heap.size B (icells q)) :
    Calls Tryd.prog 91 #[.agg #[.int .i64 p, .slice A l.length c], .slice B q.length d] w fun e w' => e = .returned (.tuple #[.bool (resIsColouring p l q).1, .bool (resIsColouring p l q).2]) ∧ Below w.heap.size w w' := by
  have k0 : Below w.heap.size w ((w.alloc (Obj.cells #[.int .i64 p, .slice A l.length c] 31)).alloc (Obj.cells #[.slice B q.length d] 26)) := by go_grown
  have RA : CRead ((w.alloc (Obj.cells #[.int .i64 p, .slice A l.length c] 31)).alloc (Obj.cells #[.slice B q.length d] 26)) ((w.alloc (Obj.cells #[.int .i64 p, .slice A l.length c] 31)).alloc (Obj.cells #[.slice B q.length d] 26)).heap.size A (pcells l) := (hA.below k0 (Nat.le_refl _)).more k0.size
  cases hp : isP p l with
  | false =>
    have e : resIsColouring p l q = (false, false) := by simp [resIsColouring, hp]
    rw [e]
    have Hp := Lib.hid hp
    clear hp e
    go_enter Tryd.func91, Tryd.ntmps91
    go_wp2_with fail
    refine (isParty_any _ _ _ _ _ hl RA).mono ?_
    rw [Hp.out]
    rintro e w2 ⟨rfl, hb2⟩
    simp only [World.size_alloc] at hb2
    go_wp2
    go_ret2
    exact ⟨rfl, Below.trans (b := _) (by go_grown) (hb2.mono (by omega))⟩
  | true =>
    have hn := isP_range hp
    obtain ⟨n, rfl⟩ : ∃ n : Nat, p = n := ⟨p.toNat, by omega⟩
    have Hp := Lib.hid hp
    cases hc : isColI n q with
    | false =>
      have e : resIsColouring n l q = (false, true) := by simp [resIsColouring, hp, hc]
      rw [e]
      have Hc := Lib.hid hc
      clear hp e hc
      go_enter Tryd.func91, Tryd.ntmps91
      go_wp2_with fail
      refine (isParty_any _ _ _ _ _ hl RA).mono ?_
      rw [Hp.out]
      rintro e w2 ⟨rfl, hb2⟩
      have s2 := hb2.size
      simp only [World.size_alloc] at hb2 s2
      have a0 : w2.cell? ⟨w.heap.size, 0, none⟩ = some (.int .i64 n) := carry hb2 ((World.cell?_alloc_lt _ _ _ (by simp)).trans (by simp)) (by omega)
      have a1 : w2.cell? ⟨w.heap.size, 1, none⟩ = some (.slice A l.length c) := carry hb2 ((World.cell?_alloc_lt _ _ _ (by simp)).trans (by simp)) (by omega)
      have a2 : w2.cell? ⟨w.heap.size + 1, 0, none⟩ = some (.slice B q.length d) := carry hb2 (by simp) (by omega)
      have k2 : Below w.heap.size w w2 := Below.trans (b := _) (by go_grown) (hb2.mono (by omega))
      go_wp2_with fail
      refine (areColours_any n l A c q B d _ hq ((hB.below k2 (Nat.le_refl _)).more k2.size)).mono ?_
      rw [Hc.out]
      rintro e w3 ⟨rfl, hb3⟩
      go_wp2
      go_ret2
      exact ⟨rfl, k2.trans (hb3.mono k2.size)⟩
    | true =>
      have hlen : q.length = n := by
        unfold isColI at hc
        rw [Bool.and_eq_true, decide_eq_true_eq] at hc
        omega
      obtain ⟨r, hr⟩ : ∃ r, differI l q = r := ⟨_, rfl⟩
      have e : resIsColouring n l q = (r, true) := by simp [resIsColouring, hp, hc, hr]
      rw [e]
      have Hc := Lib.hid hc
      have Hr := Lib.hid hr
      have Hlen := Lib.hid hlen
      clear hp e hc hr hlen
      go_enter Tryd.func91, Tryd.ntmps91
      go_wp2_with fail
      refine (isParty_any _ _ _ _ _ hl RA).mono ?_
      rw [Hp.out]
      rintro e w2 ⟨rfl, hb2⟩
      have s2 := hb2.size
      simp only [World.size_alloc] at hb2 s2
      have a0 : w2.cell? ⟨w.heap.size, 0, none⟩ = some (.int .i64 n) := carry hb2 ((World.cell?_alloc_lt _ _ _ (by simp)).trans (by simp)) (by omega)
      have a1 : w2.cell? ⟨w.heap.size, 1, none⟩ = some (.slice A l.length c) := carry hb2 ((World.cell?_alloc_lt _ _ _ (by simp)).trans (by simp)) (by omega)
      have a2 : w2.cell? ⟨w.heap.size + 1, 0, none⟩ = some (.slice B q.length d) := carry hb2 (by simp) (by omega)
      have k2 : Below w.heap.size w w2 := Below.trans (b := _) (by go_grown) (hb2.mono (by omega))
      go_wp2_with fail
      refine (areColours_any n l A c q B d _ hq ((hB.below k2 (Nat.le_refl _)).more k2.size)).mono ?_
      rw [Hc.out]
      rintro e w3 ⟨rfl, hb3⟩
      have b0 := carry hb3 a0 (by omega)
      have b1 := carry hb3 a1 (by omega)
      have b2 := carry hb3 a2 (by omega)
      have k3 := k2.trans (hb3.mono k2.size)
      clear a0 a1 a2
      go_wp2_with fail
      refine (containsAlike_any n l A c (w.heap.size + 1) q B d _ Hp.out Hlen.out hl ((hA.below k3 (Nat.le_refl _)).more k3.size) ((hB.below k3 (Nat.le_refl _)).more k3.size) b2).mono ?_
      rw [Hr.out]
      rintro e w4 ⟨rfl, hb4⟩
      go_wp2
      go_ret2
      exact ⟨by simp, k3.trans (hb4.mono k3.size)⟩
end Go.Proofs.YtmiecebdkadhbaaDoor
/-
  TWO TABLES, pure: the tables told by distances, those told by a queue, and that they are the same where friends sit apart.
-/
namespace Go.Proofs.YtmiecebdkadhbaaDoor
open Go.RowKit

/-- a table, 0 or 1, for each person, 0 for the first ones, with friends at different ones -/
structure Apart2 (n : Nat) (l : PL) (c : Nat → Int) : Prop where
  two : ∀ x, x < n → c x = 0 ∨ c x = 1
  first : ∀ x, x < n → lab n l x = x → c x = 0
  differ : ∀ x y, adj l x y = true → c x ≠ c y
theorem Apart2.turn {n : Nat} {l : PL} {c : Nat → Int} (hp : isP n l = true) (h : Apart2 n l c) {x y : Nat} (hxy : adj l x y = true) : c y = 1 - c x := by
  have h1 := adj_of hp hxy
  have h2 := h.two x h1.1
  have h3 := h.two y h1.2.1
  have h4 := h.differ x y hxy
  omega
theorem lab_reach {n : Nat} {l : PL} (hp : isP n l = true) {r a : Nat} (hr : r < n) (ha : a < n) (h : lab n l a = lab n l r) : ∃ d, rch n (adj l) r d a = true := by
  have hS : ∀ q ∈ l, ((∃ d, rch n (adj l) r d q.1.toNat = true) ↔ ∃ d, rch n (adj l) r d q.2.toNat = true) := fun q hq => by
    have hq2 := (isP_list hp).2.2.1 q hq
    have h1 := adj_mem hq (by omega) (by omega)
    have h2 : adj l q.2.toNat q.1.toNat = true := by rw [adj_comm]; exact h1
    exact ⟨fun ⟨d, hd⟩ => ⟨d + 1, rch_succ.2 (.inr ⟨_, by omega, hd, h1⟩)⟩, fun ⟨d, hd⟩ => ⟨d + 1, rch_succ.2 (.inr ⟨_, by omega, hd, h2⟩)⟩⟩
  exact (lab_closed (S := fun x => ∃ d, rch n (adj l) r d x = true) (lab_in hp) hS r a hr ha h.symm).1 ⟨0, by simp [rch]⟩
theorem parity {n r : Nat} {l : PL} {c : Nat → Int} (hp : isP n l = true) (h : Apart2 n l c) (h0 : c r = 0) : ∀ (d x : Nat), rch n (adj l) r d x = true → (∀ e, e < d → rch n (adj l) r e x = false) → c x = ((d % 2 : Nat) : Int) := by
  intro d
  induction d with
  | zero => intro x hx _; simp [rch] at hx; subst hx; exact h0
  | succ d ih =>
    intro x hx hno
    rcases rch_succ.1 hx with h1 | ⟨y, hy, hy1, hyx⟩
    · rw [hno d (by omega)] at h1; cases h1
    · have hyno : ∀ e, e < d → rch n (adj l) r e y = false := fun e he => by
        cases hc : rch n (adj l) r e y with
        | false => rfl
        | true =>
          have := rch_succ.2 (.inr ⟨y, hy, hc, hyx⟩)
          rw [hno (e + 1) (by omega)] at this
          cases this
      have hcy := ih y hy1 hyno
      rw [h.turn hp hyx, hcy]
      omega
def firstN (n : Nat) (l : PL) (a : Nat) : Nat := (lab n l a).toNat
noncomputable def tabD (n : Nat) (l : PL) (a : Nat) : Int := Int.tmod (if distO n (adj l) (firstN n l a) a < 0 then 0 else distO n (adj l) (firstN n l a) a) 2
noncomputable def tabsP (n : Nat) (l : PL) : List Int := (List.range n).map (tabD n l)
theorem tabD_two (n : Nat) (l : PL) (a : Nat) : tabD n l a = 0 ∨ tabD n l a = 1 := by
  unfold tabD
  split
  · left; rfl
  · rename_i h
    rw [Int.tmod_eq_emod_of_nonneg (by omega)]
    omega
theorem tabD_first {n : Nat} {l : PL} {a : Nat} (h : lab n l a = a) : tabD n l a = 0 := by
  unfold tabD firstN
  rw [h, Int.toNat_natCast, distO_self]
  rfl
theorem tabD_at {n : Nat} {l : PL} {c : Nat → Int} (hp : isP n l = true) (h : Apart2 n l c) {a : Nat} (ha : a < n) : tabD n l a = c a := by
  have h1 := lab_own (lab_in hp) a ha
  obtain ⟨r, hr⟩ : ∃ r : Nat, lab n l a = r := ⟨(lab n l a).toNat, by omega⟩
  have hrr : lab n l r = r := by have := h1.2.2; rw [hr, Int.toNat_natCast] at this; exact this
  have hrn : r < n := by omega
  obtain ⟨d, hd⟩ := lab_reach hp hrn ha (hr.trans hrr.symm)
  obtain ⟨m, _, hm1, hm2⟩ := least_rch d hd
  have hdist : distO n (adj l) r a = m := IsDist.eq (.inr ⟨m, rfl, hm1, hm2⟩)
  have hc := parity hp h (h.first r hrn hrr) m a hm1 hm2
  unfold tabD firstN
  rw [hr, Int.toNat_natCast, hdist, if_neg (by omega), Int.tmod_eq_emod_of_nonneg (by omega), hc]
  omega
/-- whether friends sit at different tables -/
theorem differI_map {n : Nat} {l : PL} {c : Nat → Int} (hp : isP n l = true) : differI l ((List.range n).map c) = true ↔ ∀ x y, adj l x y = true → c x ≠ c y := by
  have hat : ∀ x, x < n → ((List.range n).map c).getD x 0 = c x := fun x hx => by
    rw [List.getD_eq_getElem?_getD, List.getElem?_map, List.getElem?_range hx]; rfl
  constructor
  · intro h x y hxy
    unfold differI at h
    rw [List.all_eq_true] at h
    have h1 := adj_of hp hxy
    unfold adj at hxy
    rw [Bool.or_eq_true, List.contains_iff_mem, List.contains_iff_mem] at hxy
    rcases hxy with hm | hm
    · have := h _ hm
      unfold differAt at this
      simp only [Int.toNat_natCast, hat x h1.1, hat y h1.2.1] at this
      simpa using this
    · have := h _ hm
      unfold differAt at this
      simp only [Int.toNat_natCast, hat x h1.1, hat y h1.2.1] at this
      intro e
      simp [e] at this
  · intro h
    unfold differI
    rw [List.all_eq_true]
    intro q hq
    have hq2 := (isP_list hp).2.2.1 q hq
    have := h _ _ (adj_mem hq (by omega) (by omega))
    unfold differAt
    rw [hat _ (by omega), hat _ (by omega)]
    simpa using this
theorem apart_of_two {n : Nat} {l : PL} {c : Nat → Int} (hp : isP n l = true) (h2 : ∀ x, x < n → c x = 0 ∨ c x = 1) (h1 : ∀ x, x < n → lab n l x = x → c x = 0) (h : differI l ((List.range n).map c) = true) : Apart2 n l c :=
  ⟨h2, h1, (differI_map hp).1 h⟩
theorem tabs_apart {n : Nat} {l : PL} (hp : isP n l = true) (h : differI l (tabsP n l) = true) : Apart2 n l (tabD n l) :=
  apart_of_two hp (fun x _ => tabD_two n l x) (fun _ _ => tabD_first) h
/-- tables that are those of all that are told apart -/
theorem tabs_same {n : Nat} {l : PL} {o : Nat → Int} (hp : isP n l = true) (h2 : ∀ x, x < n → o x = 0 ∨ o x = 1) (h1 : ∀ x, x < n → lab n l x = x → o x = 0) (hg : ∀ c, Apart2 n l c → ∀ x, x < n → o x = c x) :
    differI l ((List.range n).map o) = differI l (tabsP n l) ∧ (differI l (tabsP n l) = true → (List.range n).map o = tabsP n l) := by
  have key : differI l (tabsP n l) = true → (List.range n).map o = tabsP n l := fun h =>
    List.map_congr_left fun x hx => hg _ (tabs_apart hp h) x (List.mem_range.1 hx)
  refine ⟨?_, key⟩
  rw [Bool.eq_iff_iff]
  constructor
  · intro h
    have ha := apart_of_two hp h2 h1 h
    have e : tabsP n l = (List.range n).map o := List.map_congr_left fun x hx => tabD_at hp ha (List.mem_range.1 hx)
    rw [e]; exact h
  · intro h; rw [key h]; exact h
noncomputable def resTables (n : Nat) (l : PL) : List Int × Bool := if differI l (tabsP n l) then (tabsP n l, true) else ([], false)
noncomputable def resTablesApart (p : Int) (l : PL) : List Int × Bool := if isP p l then resTables p.toNat l else ([], false)
noncomputable def resTwoTables (p : Int) (l : PL) : List Int × Bool := if isP p l then resTables p.toNat (otherP p.toNat l) else ([], false)
theorem resTables_len (n : Nat) (l : PL) (hn : n ≤ 12) : (resTables n l).1.length ≤ 1048576 := by
  unfold resTables
  split
  · simp [tabsP]; omega
  · simp
theorem resTablesApart_len (p : Int) (l : PL) : (resTablesApart p l).1.length ≤ 1048576 := by
  unfold resTablesApart
  split
  · rename_i h; have := isP_range h; exact resTables_len _ _ (by omega)
  · simp
theorem resTwoTables_len (p : Int) (l : PL) : (resTwoTables p l).1.length ≤ 1048576 := by
  unfold resTwoTables
  split
  · rename_i h; have := isP_range h; exact resTables_len _ _ (by omega)
  · simp

/-! ## The tables that a queue tells -/
structure Tab2 (n : Nat) (l : PL) (a : Nat) (Q : List Nat) (o : Nat → Int) : Prop where
  two : ∀ x, x < n → snQ n l a Q x = true → o x = 0 ∨ o x = 1
  none : ∀ x, x < n → snQ n l a Q x = false → o x = -1
  good : ∀ c, Apart2 n l c → ∀ x, x < n → snQ n l a Q x = true → o x = c x
  first : ∀ x, x < n → snQ n l a Q x = true → lab n l x = x → o x = 0
section
variable {n a : Nat} {l : PL} {Q : List Nat} {o : Nat → Int}
theorem Tab2.congr (h : Tab2 n l a Q o) {a' : Nat} {Q' : List Nat} (e : ∀ x, x < n → snQ n l a Q x = snQ n l a' Q' x) : Tab2 n l a' Q' o :=
  ⟨fun x hx hs => h.two x hx (by rw [e x hx]; exact hs), fun x hx hs => h.none x hx (by rw [e x hx]; exact hs), fun c hc x hx hs => h.good c hc x hx (by rw [e x hx]; exact hs), fun x hx hs => h.first x hx (by rw [e x hx]; exact hs)⟩
theorem Tab2.start (hp : isP n l = true) : Tab2 n l 0 [] (fun _ => -1) := by
  have hno : ∀ x, x < n → snQ n l 0 [] x = true → False := fun x hx hs => by
    rw [snQ_nil, decide_eq_true_eq] at hs
    have := (lab_own (lab_in hp) x hx).1
    omega
  exact ⟨fun x hx hs => (hno x hx hs).elim, fun _ _ _ => rfl, fun c hc x hx hs => (hno x hx hs).elim, fun x hx hs => (hno x hx hs).elim⟩
theorem snQ_add (n : Nat) (l : PL) (a b : Nat) (Q : List Nat) (x : Nat) : snQ n l a (Q ++ [b]) x = if x = b then true else snQ n l a Q x := by rw [← snQ_push]
theorem Tab2.begin (h : Tab2 n l a [] o) (hf : lab n l a = a) : Tab2 n l a [a] (updI o a 0) := by
  have e := fun x => snQ_add n l a a [] x
  simp only [List.nil_append] at e
  refine ⟨fun x hx hs => ?_, fun x hx hs => ?_, fun c hc x hx hs => ?_, fun x hx hs hl => ?_⟩
  · unfold updI; split
    · left; rfl
    · rename_i hxa; rw [e, if_neg hxa] at hs; exact h.two x hx hs
  · unfold updI
    rw [e] at hs
    split at hs
    · cases hs
    · rename_i hxa; rw [if_neg hxa]; exact h.none x hx hs
  · unfold updI; split
    · rename_i hxa; subst hxa; exact (hc.first x hx hf).symm
    · rename_i hxa; rw [e, if_neg hxa] at hs; exact h.good c hc x hx hs
  · unfold updI; split
    · rfl
    · rename_i hxa; rw [e, if_neg hxa] at hs; exact h.first x hx hs hl
theorem Tab2.push {i u b : Nat} (hp : isP n l = true) (h : Tab2 n l a Q o) (hq : Pfs n l a Q i) (hu : u ∈ Q) (hub : adj l u b = true) (hb : b ∉ Q) : Tab2 n l a (Q ++ [b]) (updI o b (1 - o u)) := by
  have e := fun x => snQ_add n l a b Q x
  have hun := hq.inn u hu
  have hsu : snQ n l a Q u = true := by unfold snQ; rw [List.contains_iff_mem.2 hu, Bool.or_true]
  have h2 := h.two u hun hsu
  refine ⟨fun x hx hs => ?_, fun x hx hs => ?_, fun c hc x hx hs => ?_, fun x hx hs hl => ?_⟩
  · unfold updI; split
    · omega
    · rename_i hxa; rw [e, if_neg hxa] at hs; exact h.two x hx hs
  · unfold updI
    rw [e] at hs
    split at hs
    · cases hs
    · rename_i hxa; rw [if_neg hxa]; exact h.none x hx hs
  · unfold updI; split
    · rename_i hxa; subst hxa; rw [h.good c hc u hun hsu, hc.turn hp hub]
    · rename_i hxa; rw [e, if_neg hxa] at hs; exact h.good c hc x hx hs
  · unfold updI; split
    · rename_i hxa
      subst hxa
      exfalso
      have h5 := hq.lab u hu
      rw [lab_adj hp hub, hl] at h5
      have h6 : x = a := by omega
      subst h6
      exact hb hq.start
    · rename_i hxa; rw [e, if_neg hxa] at hs; exact h.first x hx hs hl
end
/-- the first of a part -/
theorem rowOf_first {f : Nat → Int} {r : Nat} (hf : f r = r) (hle : ∀ c, c < r → f c ≤ c) : ∀ m, r < m → (rowOf f m r)[0]? = some (r : Int) := by
  intro m
  induction m with
  | zero => intro h; omega
  | succ m ih =>
    intro hm
    by_cases e : m = r
    · subst e
      rw [parts_own hf hle]
      rfl
    · have h1 := ih (by omega)
      by_cases hr : f m = r
      · rw [rowOf_hit hr, List.getElem?_append_left (List.getElem?_eq_some_iff.1 h1).1]
        exact h1
      · rw [rowOf_miss hr]; exact h1
/-- the first ones before the m-th part -/
def Bnd (n : Nat) (l : PL) (m bnd : Nat) : Prop := ∀ (j r : Nat), (reps (lab n l) n)[j]? = some r → (j < m ↔ r < bnd)
theorem reps_at {n : Nat} {l : PL} (hp : isP n l = true) {x : Nat} (hx : x < n) : ∃ j r : Nat, (reps (lab n l) n)[j]? = some r ∧ lab n l x = r := by
  have h1 := lab_own (lab_in hp) x hx
  obtain ⟨r, hr⟩ : ∃ r : Nat, lab n l x = r := ⟨(lab n l x).toNat, by omega⟩
  have h2 := h1.2.2
  rw [hr, Int.toNat_natCast] at h2
  obtain ⟨j, hj⟩ := List.getElem?_of_mem (mem_reps.2 ⟨by omega, h2⟩ : r ∈ reps (lab n l) n)
  exact ⟨j, r, hj, hr⟩
theorem reps_order {f : Nat → Int} {n i j r s : Nat} (hi : (reps f n)[i]? = some r) (hj : (reps f n)[j]? = some s) : i < j ↔ r < s := by
  have h1 := List.getElem?_eq_some_iff.1 hi
  have h2 := List.getElem?_eq_some_iff.1 hj
  have h3 := List.pairwise_iff_getElem.1 (reps_lt f n)
  constructor
  · intro h; have := h3 i j h1.1 h2.1 h; rw [h1.2, h2.2] at this; exact this
  · intro h
    rcases Nat.lt_trichotomy i j with e | e | e
    · exact e
    · subst e; rw [hi] at hj; have := Option.some.inj hj; omega
    · have := h3 j i h2.1 h1.1 e; rw [h1.2, h2.2] at this; omega
theorem Bnd.same {n m bnd r : Nat} {l : PL} (hp : isP n l = true) (h : Bnd n l m bnd) (hr : (reps (lab n l) n)[m]? = some r) : ∀ x, x < n → snQ n l bnd [] x = snQ n l r [] x := by
  intro x hx
  obtain ⟨j, s, hj, hs⟩ := reps_at hp hx
  rw [snQ_nil, snQ_nil, Bool.eq_iff_iff, decide_eq_true_eq, decide_eq_true_eq, hs]
  have h1 := h j s hj
  have h2 := reps_order hj hr
  omega
theorem Bnd.next {n m bnd r : Nat} {l : PL} (_h : Bnd n l m bnd) (hr : (reps (lab n l) n)[m]? = some r) : Bnd n l (m + 1) (r + 1) := by
  intro j s hj
  have h1 := reps_order hj hr
  have h2 := reps_order hr hj
  by_cases e : j = m
  · subst e; rw [hr] at hj; have := Option.some.inj hj; omega
  · omega
theorem Bnd.all {n m bnd : Nat} {l : PL} (hp : isP n l = true) (h : Bnd n l m bnd) (hm : (reps (lab n l) n).length ≤ m) : ∀ x, x < n → snQ n l bnd [] x = true := by
  intro x hx
  obtain ⟨j, s, hj, hs⟩ := reps_at hp hx
  rw [snQ_nil, decide_eq_true_eq, hs]
  have h1 := (h j s hj).1 (by have := (List.getElem?_eq_some_iff.1 hj).1; omega)
  omega
end Go.Proofs.YtmiecebdkadhbaaDoor
/-
  'FriendsOf': the model's and the program's, by their contracts.
-/
namespace Go.Proofs.YtmiecebdkadhbaaDoor
open Go.RowKit

def friendsI (l : PL) (a : Int) : List Int := l.filterMap fun q => if q.1 = a then some q.2 else if q.2 = a then some q.1 else none
def friendR (n : Nat) (t : Nat → Bool) : List Int := ((List.range n).filter t).map fun b : Nat => (b : Int)
theorem isorted_ext : ∀ {l m : List Int}, l.Pairwise (· < ·) → m.Pairwise (· < ·) → (∀ q, q ∈ l ↔ q ∈ m) → l = m
  | [], [], _, _, _ => rfl
  | [], b :: m, _, _, h => by have := (h b).2 (List.mem_cons_self ..); cases this
  | a :: l, [], _, _, h => by have := (h a).1 (List.mem_cons_self ..); cases this
  | a :: l, b :: m, hl, hm, h => by
    rw [List.pairwise_cons] at hl hm
    have hab : a = b := by
      rcases List.mem_cons.1 ((h a).1 (List.mem_cons_self ..)) with e | e
      · exact e
      · rcases List.mem_cons.1 ((h b).2 (List.mem_cons_self ..)) with e' | e'
        · exact e'.symm
        · have h1 := hm.1 a e; have h2 := hl.1 b e'; omega
    subst hab
    rw [isorted_ext hl.2 hm.2 fun q => ?_]
    constructor
    · intro hq
      rcases List.mem_cons.1 ((h q).1 (List.mem_cons_of_mem _ hq)) with e | e
      · subst e; have := hl.1 q hq; omega
      · exact e
    · intro hq
      rcases List.mem_cons.1 ((h q).2 (List.mem_cons_of_mem _ hq)) with e | e
      · subst e; have := hm.1 q hq; omega
      · exact e
theorem friendR_sorted (n : Nat) (t : Nat → Bool) : (friendR n t).Pairwise (· < ·) := by
  unfold friendR
  rw [List.pairwise_map]
  exact List.Pairwise.imp (fun {a b} h => by omega) ((List.pairwise_lt_range (n := n)).filter _)
theorem friendsI_sorted {p : Int} {l : PL} (h : isP p l = true) (a : Int) : (friendsI l a).Pairwise (· < ·) := by
  obtain ⟨_, _, hm, hs⟩ := isP_list h
  unfold friendsI
  rw [List.pairwise_filterMap]
  refine List.Pairwise.imp_of_mem (fun {q q'} hq hq' hlt u hu v hv => ?_) hs
  have h1 := hm q hq
  have h2 := hm q' hq'
  unfold plt at hlt
  split at hu
  · split at hv
    · simp at hu hv; omega
    · split at hv
      · simp at hu hv; omega
      · cases hv
  · split at hu
    · split at hv
      · simp at hu hv; omega
      · split at hv
        · simp at hu hv; omega
        · cases hv
    · cases hu
theorem friends_same {n : Nat} {l : PL} (h : isP n l = true) (a : Nat) : friendR n (adj l a) = friendsI l a := by
  refine isorted_ext (friendR_sorted _ _) (friendsI_sorted h _) fun x => ?_
  obtain ⟨_, _, hm, _⟩ := isP_list h
  simp only [friendR, friendsI, List.mem_map, List.mem_filter, List.mem_range, List.mem_filterMap, adj, Bool.or_eq_true, List.contains_iff_mem]
  constructor
  · rintro ⟨b, ⟨_, hb | hb⟩, rfl⟩
    · exact ⟨_, hb, by simp⟩
    · refine ⟨_, hb, ?_⟩
      have := hm _ hb
      simp only at this ⊢
      rw [if_neg (by omega)]; simp
  · rintro ⟨q, hq, he⟩
    have := hm q hq
    obtain ⟨u, v⟩ := q
    simp only at this he
    split at he
    · rename_i hu
      simp at he
      subst hu
      refine ⟨x.toNat, ⟨by omega, .inl ?_⟩, by omega⟩
      rw [show ((x.toNat : Nat) : Int) = v from by omega]
      exact hq
    · split at he
      · rename_i hv
        simp at he
        subst hv
        refine ⟨x.toNat, ⟨by omega, .inr ?_⟩, by omega⟩
        rw [show ((x.toNat : Nat) : Int) = u from by omega]
        exact hq
      · cases he
theorem friendsI_le (l : PL) (a : Int) : (friendsI l a).length ≤ l.length := List.length_filterMap_le _ _
theorem friendsI_snoc (l : PL) (x y a : Int) : friendsI (l ++ [(x, y)]) a = friendsI l a ++ if x = a then [y] else if y = a then [x] else [] := by
  unfold friendsI
  rw [List.filterMap_append]
  congr 1
  simp only [List.filterMap_cons, List.filterMap_nil]
  by_cases h1 : x = a
  · simp [h1]
  · by_cases h2 : y = a <;> simp [h1, h2]
theorem friendR_snoc (k : Nat) (t : Nat → Bool) : friendR (k + 1) t = friendR k t ++ if t k = true then [(k : Int)] else [] := by
  unfold friendR
  rw [List.range_succ, List.filter_append, List.map_append]
  congr 1
  by_cases h : t k = true <;> simp [h]
theorem friendR_le (k : Nat) (t : Nat → Bool) : (friendR k t).length ≤ k := by
  unfold friendR
  rw [List.length_map]
  exact Nat.le_trans (List.length_filter_le _ _) (by simp)

set_option maxHeartbeats 1000000 in
set_option maxRecDepth 100000 in
theorem paFriends_any (n a : Nat) (t : Nat → Nat → Bool) (A : Option Addr) (c : Nat) (G : Nat → Nat) (B : Nat) (w : World) (hn : n ≤ 12) (ha : a < n) (tab : TabG w B (.slice A n c) n n G t) :
    Calls Tryd.prog 86 #[.slice A n c, .int .i64 a] w fun e w' => ∃ A' c', e = .returned (.slice A' (friendR n (t a)).length c') ∧
      w'.ownsRow w.heap.size 3 1 (.slice A' (friendR n (t a)).length c') (friendR n (t a)).length (icells (friendR n (t a))) ∧ Below w.heap.size w w' := by
  obtain ⟨i0, hi, hz0, hz1, hz2⟩ := info_parts Tryd.infoInt
  obtain ⟨g, rfl⟩ := own_form tab.own (by omega)
  have d0 := tab.outer ha
  have hai : (a : Int) < n := by omega
  go_enter Tryd.func86, Tryd.ntmps86
  go_wp2
  clear d0
  go_loopw [5, 13] (fun v i wr => ∃ k : Nat, k ≤ n ∧ i = .int .i64 k ∧ wr.ownsRow w.heap.size 3 1 v (friendR k (t a)).length (icells (friendR k (t a))) ∧ Below w.heap.size w wr) (fun _ i _ => n - (intOf i).toNat)
  case atStart => exact ⟨0, Nat.zero_le _, rfl, World.ownsRow_nil _ _ _ _, Below.refl _ _⟩
  case round =>
    obtain ⟨k, hk, rfl, hown, hb⟩ := hrel
    have hs := hb.size
    by_cases hlt : k < n
    · have hki : (k : Int) < n := by omega
      have d1 := (tab.below hb (Nat.le_refl _)).cell ha hlt
      have hle := friendR_le k (t a)
      have Hsn := Lib.hid (friendR_snoc k (t a))
      cases ht : t a k with
      | false =>
        rw [ht] at d1
        have Ht := Lib.hid ht
        clear ht
        go_wp2
        go_roundw
        case rel =>
          refine ⟨k + 1, by omega, by go_num, ?_, hb⟩
          rw [Hsn.out, Ht.out]
          simp only [Bool.false_eq_true, if_false, List.append_nil]
          exact hown
        case measure => simp [intOf]; omega
      | true =>
        rw [ht] at d1
        have Ht := Lib.hid ht
        clear ht
        go_wp2_with (at_builtin; refine wpList_append_own _ rfl _ _ 26 rfl w.heap.size 3 i0 _ 1 8 Tryd.underlying26 hi hz0 hz1 hz2 rfl (by decide) _ _ _ rfl (hown.alloc _) ⟨wr.heap.size, 0, none⟩ 1 1 [.int .i64 k] rfl rfl (one_cell (by simp)) (one_one rfl) (by unfold maxLen; omega) (by omega) (by simp; omega) ?_; intro v1 w3 hown3 hg3 _; obtain ⟨A1, d1', rfl, _⟩ := own_shape hown3)
        go_roundw
        case rel =>
          refine ⟨k + 1, by omega, by go_num, ?_, ?_⟩
          · rw [Hsn.out, Ht.out]
            simp only [if_true]
            rw [icells_append, List.length_append]
            exact hown3
          · exact (hb.alloc hs _).grown hg3 (by simp; omega) (fun k hk => (hown.lt k hk).1)
        case measure => simp [intOf]; omega
    · have hkl : n = k := by omega
      subst hkl
      have hge : ¬ ((n : Int) < n) := by omega
      obtain ⟨A', c', rfl, _⟩ := own_shape hown
      have Hown := Lib.hid hown
      clear hown
      go_wp2
      go_ret
      exact ⟨A', c', rfl, Hown.out, hb⟩

def resFriendsOf (p : Int) (l : PL) (a : Int) : List Int × Bool := if isP p l && isMan p a then (friendsI l a, true) else ([], false)
theorem resFriendsOf_len (p : Int) (l : PL) (a : Int) : (resFriendsOf p l a).1.length ≤ 1048576 := by
  unfold resFriendsOf
  split
  · rename_i h
    simp only [Bool.and_eq_true] at h
    have h1 := isP_length h.1
    have h2 := isP_range h.1
    have h3 := people_sq h2.1 h2.2
    have h4 := friendsI_le l a
    show (friendsI l a).length ≤ 1048576
    omega
  · simp

end Go.Proofs.YtmiecebdkadhbaaDoor
/-
  THE MODEL's DISTANCES of all people from one, by contract.
-/
namespace Go.Proofs.YtmiecebdkadhbaaDoor
open Go.RowKit

theorem own_built1 (w : World) (a : Int) : (w.alloc (Obj.cells #[.int .i64 a] 3)).ownsRow w.heap.size 3 1 (.slice (some ⟨w.heap.size, 0, none⟩) 1 1) 1 (icells [a]) :=
  ⟨by simp [icells], .inr ⟨w.heap.size, 1, #[.int .i64 a], rfl, Nat.le_refl _, heap_alloc_new w _, Nat.le_refl _, by unfold maxLen; omega, rfl, by simp [icells]⟩⟩
def qcells (Q : List Nat) : List Value := icells (Q.map fun b : Nat => (b : Int))
theorem friendR_at {n j : Nat} {f : Nat → Bool} {x : Int} (h : (friendR n f)[j]? = some x) : ∃ y : Nat, x = y ∧ y < n ∧ f y = true := by
  have := List.mem_of_getElem? h
  unfold friendR at this
  obtain ⟨y, hy, rfl⟩ := List.mem_map.1 this
  obtain ⟨h1, h2⟩ := List.mem_filter.1 hy
  exact ⟨y, rfl, List.mem_range.1 h1, h2⟩
theorem friendR_all {n b : Nat} {f : Nat → Bool} (hb : b < n) (hf : f b = true) : ∃ j : Nat, (friendR n f)[j]? = some (b : Int) := by
  refine List.getElem?_of_mem ?_
  unfold friendR
  exact List.mem_map.2 ⟨b, List.mem_filter.2 ⟨List.mem_range.2 hb, hf⟩, rfl⟩
theorem index_row {gq i m c : Nat} (hi : i < m) (v : World) : (Instr.indexAt 26 (.slice (some ⟨gq, 0, none⟩) m c) (.int .i64 i)).run Tryd.prog v = .ok (.pointer (some ⟨gq, i, none⟩)) v := by
  have h0 : (0 : Int) ≤ i ∧ (i : Int) < m := by omega
  simp [go_sem, Tryd.underlying26, h0, Addr.add]
  omega
set_option maxHeartbeats 1000000 in
set_option maxRecDepth 100000 in
theorem cfDistances_any (n a : Nat) (t : Nat → Nat → Bool) (A : Option Addr) (c : Nat) (G : Nat → Nat) (B : Nat) (w : World) (hn : n ≤ 12) (ha : a < n) (ht : ∀ y x, t y x = true → x < n) (tab : TabG w B (.slice A n c) n n G t) :
    Calls Tryd.prog 67 #[.slice A n c, .int .i64 a] w fun e w' => ∃ g, e = .returned (.slice (some ⟨g, 0, none⟩) n n) ∧
      w'.ownsRow w.heap.size 3 1 (.slice (some ⟨g, 0, none⟩) n n) n (icells ((List.range n).map (distO n t a))) ∧ Below w.heap.size w w' := by
  obtain ⟨i0, hi, hz0, hz1, hz2⟩ := info_parts Tryd.infoInt
  have hai : (a : Int) < n := by omega
  have Tab := Lib.hid tab
  have Ht := Lib.hid ht
  clear tab ht
  go_enter Tryd.func67, Tryd.ntmps67
  go_wp2_with (at_make; refine wpList_make_full _ rfl _ _ 26 rfl w.heap.size 3 i0 _ 1 Tryd.underlying26 hi hz0 hz1 _ _ _ _ n rfl rfl (by omega) (by omega) (by rw [hz2]; omega) (by unfold maxLen; omega) (by go_size) ?_; intro w1 hown1 hgr1)
  rw [show Value.cells (.int .i64 0) = #[.int .i64 0] from rfl, made_ints] at hown1
  have k1 : Below w.heap.size w w1 := below_of_gb hgr1 (Nat.le_refl _)
  go_loopw [16] (fun i wr => ∃ k : Nat, k ≤ n ∧ i = .int .i64 k ∧ wr.ownsRow w.heap.size 3 1 (.slice (some ⟨w.heap.size, 0, none⟩) n n) n (icells ((List.range n).map fun x => if x < k then -1 else 0)) ∧ Below w.heap.size w wr) (fun i _ => n - (intOf i).toNat)
  case atStart =>
    refine ⟨0, Nat.zero_le _, rfl, ?_, k1⟩
    have e : (List.range n).map (fun x => if x < 0 then (-1 : Int) else 0) = List.replicate n 0 := by
      rw [List.eq_replicate_iff]
      exact ⟨by simp, fun x hx => by obtain ⟨y, _, rfl⟩ := List.mem_map.1 hx; simp⟩
    rw [e]
    exact hown1
  case round =>
    obtain ⟨k, hk, rfl, own, hb⟩ := hrel
    have sb := hb.size
    by_cases hlt : k < n
    · have hki : (k : Int) < n := by omega
      have c0 := own_intAt own (k := k) (x := 0) (by rw [List.getElem?_map, List.getElem?_range hlt]; simp)
      have f0 := own.frozenAt k
      have own2 := own_setInt own k (-1)
      rw [range_set, show updI (fun x => if x < k then (-1 : Int) else 0) k (-1) = fun x => if x < k + 1 then (-1 : Int) else 0 from by
        funext x
        simp only [updI]
        by_cases h : x = k
        · rw [if_pos h, if_pos (by omega)]
        · rw [if_neg h]
          by_cases h2 : x < k
          · rw [if_pos h2, if_pos (by omega)]
          · rw [if_neg h2, if_neg (by omega)]] at own2
      have Own2 := Lib.hid own2
      clear own own2
      go_wp2
      go_roundw
      case rel => exact ⟨k + 1, by omega, by go_num, Own2.out, hb.setCell (by simp) _⟩
      case measure => simp [intOf]; omega
    · have hkn : n = k := by omega
      subst hkn
      have hge : ¬ ((n : Int) < (n : Int)) := by omega
      rw [List.map_congr_left (g := fun _ => (-1 : Int)) fun x hx => if_pos (List.mem_range.1 hx)] at own
      have c0 := own_intAt own (k := a) (x := -1) (by rw [List.getElem?_map, List.getElem?_range ha]; simp)
      have f0 := own.frozenAt a
      have own2 := own_setInt own a 0
      rw [range_set] at own2
      have Own2 := Lib.hid own2
      have hb2 : Below w.heap.size w (wr.setCell ⟨w.heap.size, a, none⟩ (.int .i64 0)) := hb.setCell (by simp) _
      have Hb2 := Lib.hid hb2
      clear own own2 hb2 hb
      go_wp2
      have sz : (wr.setCell ⟨w.heap.size, a, none⟩ (.int .i64 0)).heap.size = wr.heap.size := by simp
      have gW : w.heap.size < wr.heap.size := by have h := (own_lt Own2.out).2; simpa using h
      obtain ⟨N0, hN0⟩ : ∃ N, wr.heap.size = N := ⟨_, rfl⟩
      rw [hN0] at sz gW
      go_loopw [7, 8] (fun q kv w2 => ∃ (Q : List Nat) (o : Nat → Int) (i : Nat), kv = .int .i64 i ∧ i ≤ Q.length ∧ Bfs n t a Q o i ∧ w2.ownsRow N0 3 1 q Q.length (qcells Q) ∧ w2.ownsRow w.heap.size 3 1 (.slice (some ⟨w.heap.size, 0, none⟩) n n) n (icells ((List.range n).map o)) ∧ N0 ≤ w2.heap.size ∧ Below w.heap.size w w2) (fun _ kv _ => n - (intOf kv).toNat)
      case atStart =>
        have own3 := own_built1 (wr.setCell ⟨w.heap.size, a, none⟩ (.int .i64 0)) a
        rw [sz] at own3
        exact ⟨[a], updI (fun _ => -1) a 0, 0, rfl, by simp, Bfs.begin ha, by rw [hN0]; exact own3, Own2.out.alloc _, by simp; omega, Hb2.out.alloc Hb2.out.size _⟩
      case round =>
        obtain ⟨Q, o, i, rfl, hiQ, hbfs, hq, hout, hsz, hb⟩ := hrel
        have hfew := hbfs.few
        have Hbfs := Lib.hid hbfs
        clear hbfs
        by_cases hlt2 : i < Q.length
        · obtain ⟨u, hu⟩ := getSome Q i hlt2
          have hun := Hbfs.out.inn u (List.mem_of_getElem? hu)
          obtain ⟨Aq, cq, rfl, _⟩ := own_shape hq
          obtain ⟨gq, rfl⟩ := own_form hq (by omega)
          have hcu : ∀ v : World, v.ownsRow N0 3 1 (.slice (some ⟨gq, 0, none⟩) Q.length cq) Q.length (qcells Q) → v.cell? ⟨gq, i, none⟩ = some (.int .i64 u) := fun v h => own_intAt h (by rw [List.getElem?_map, hu]; rfl)
          have cu := hcu _ hq
          have call := paFriends_any n u t A c G B wr hn hun (Tab.out.below hb (Nat.le_refl _))
          obtain ⟨fs, hfs⟩ : ∃ fs, friendR n (t u) = fs := ⟨_, rfl⟩
          have hfat : ∀ (j : Nat) (x : Int), fs[j]? = some x → ∃ y : Nat, x = y ∧ y < n ∧ t u y = true := fun j x h => by rw [← hfs] at h; exact friendR_at h
          have hfall : ∀ b, b < n → t u b = true → ∃ j : Nat, fs[j]? = some (b : Int) := fun b hb1 hb2 => by rw [← hfs]; exact friendR_all hb1 hb2
          have hflen : fs.length ≤ 12 := by rw [← hfs]; exact Nat.le_trans (friendR_le n _) hn
          rw [hfs] at call
          have Call := Lib.hid call
          have Hu := Lib.hid hu
          have Hfat := Lib.hid hfat
          have Hfall := Lib.hid hfall
          have hii : (i : Int) < (Q.length : Int) := by omega
          have hq0 := hq
          have hout0 := hout
          have Hq := Lib.hid hq
          have Hout := Lib.hid hout
          clear hcu call hu hfat hfall hfs hq hout hq0 hout0
          go_wp2_with fail
          refine Call.out.mono ?_
          rintro e w3 ⟨A3, c3, rfl, own3, hb3⟩
          have s3 := hb3.size
          have Own3 := Lib.hid own3
          clear own3 cu Call
          go_wp2
          have k3 := hb.trans (hb3.mono hb.size)
          have q3 := own_below Hq.out hb3 (Nat.le_refl _)
          have o3 := own_below Hout.out hb3 (Nat.le_refl _)
          obtain ⟨S2, hS2⟩ : ∃ N, wr.heap.size = N := ⟨_, rfl⟩
          rw [hS2] at hsz s3
          have Own3' := Lib.hid (show w3.ownsRow S2 3 1 (.slice A3 fs.length c3) fs.length (icells fs) from hS2 ▸ Own3.out)
          have hqS : gq < S2 := by have := (own_lt Hq.out).2; omega
          clear Own3 hb3 hb Hq Hout
          go_loopw [7, 41] (fun q jv wi => ∃ (Q' : List Nat) (o' : Nat → Int) (j : Nat), jv = .int .i64 j ∧ j ≤ fs.length ∧ Bfs n t a Q' o' i ∧ Q'[i]? = some u ∧ (∀ (j' : Nat) (y : Nat), j' < j → fs[j']? = some (y : Int) → y ∈ Q') ∧
            wi.ownsRow N0 3 1 q Q'.length (qcells Q') ∧ wi.ownsRow w.heap.size 3 1 (.slice (some ⟨w.heap.size, 0, none⟩) n n) n (icells ((List.range n).map o')) ∧
            wi.ownsRow S2 3 1 (.slice A3 fs.length c3) fs.length (icells fs) ∧ (∀ bq, q.ownBlock = some bq → bq < S2 ∨ w3.heap.size ≤ bq) ∧ w3.heap.size ≤ wi.heap.size ∧ Below w.heap.size w wi) (fun _ jv _ => fs.length - (intOf jv).toNat)
          case atStart => exact ⟨Q, o, 0, rfl, Nat.zero_le _, Hbfs.out, Hu.out, fun j' y hj => by omega, q3, o3, Own3'.out, fun bq hbq => by simp [Value.ownBlock] at hbq; omega, Nat.le_refl _, k3⟩
          case round =>
            obtain ⟨Q', o', j, rfl, hj, hbf, hu', hdone, hq, hout, hfs, hap, hsz3, hb⟩ := hrel
            have hfew' := hbf.few
            have Hbf := Lib.hid hbf
            have Hu' := Lib.hid hu'
            have Hdone := Lib.hid hdone
            have Hap := Lib.hid hap
            clear hbf hu' hdone hap
            have hiQ' : i < Q'.length := (List.getElem?_eq_some_iff.1 Hu'.out).1
            by_cases hlt3 : j < fs.length
            · obtain ⟨x, hx⟩ := getSome fs j hlt3
              obtain ⟨y, rfl, hyn, hty⟩ := Hfat.out j x hx
              obtain ⟨bb, off, rfl, hbb, c0⟩ := (CRead.of_own hfs).int hx
              have cy := own_intAt hout (k := y) (x := o' y) (by rw [List.getElem?_map, List.getElem?_range hyn]; rfl)
              have fy := hout.frozenAt y
              have hji : (j : Int) < (fs.length : Int) := by omega
              have hyi : (y : Int) < (n : Int) := by omega
              have Hx := Lib.hid hx
              by_cases hneg : o' y < 0
              · obtain ⟨Aq', cq', hqe, _⟩ := own_shape hq
                have hqf := hq
                rw [hqe] at hqf
                obtain ⟨gq', rfl⟩ := own_form hqf (by omega)
                have hidx : ∀ v : World, (Instr.indexAt 26 u7 (.int .i64 i)).run Tryd.prog v = .ok (.pointer (some ⟨gq', i, none⟩)) v := fun v => by rw [hqe]; exact index_row hiQ' v
                have cu := own_intAt hqf (k := i) (x := (u : Int)) (by rw [List.getElem?_map, Hu'.out]; rfl)
                have hun : u < n := Hbf.out.inn u (List.mem_of_getElem? Hu'.out)
                have co := own_intAt hout (k := u) (x := o' u) (by rw [List.getElem?_map, List.getElem?_range hun]; rfl)
                have hk1 := Hbf.out.known u (List.mem_of_getElem? Hu'.out)
                have hk2 := Hbf.out.small u (List.mem_of_getElem? Hu'.out)
                have hpush := Hbf.out.push Hu'.out hyn hty hneg
                have hout2 := own_setInt hout y (o' u + 1)
                rw [range_set] at hout2
                have hq2 := ownsRow_setCell_below hq (a := ⟨w.heap.size, y, none⟩) gW (.int .i64 (o' u + 1))
                have hfs2 := ownsRow_setCell_below hfs (a := ⟨w.heap.size, y, none⟩) (by show w.heap.size < S2; omega) (.int .i64 (o' u + 1))
                have hb2 : Below w.heap.size w (wr.setCell ⟨w.heap.size, y, none⟩ (.int .i64 (o' u + 1))) := hb.setCell (by simp) _
                have Hpush := Lib.hid hpush
                have Hout2 := Lib.hid hout2
                have Hq2 := Lib.hid hq2
                have Hfs2 := Lib.hid hfs2
                have Hb2' := Lib.hid hb2
                obtain ⟨ou, hou⟩ : ∃ z, o' u = z := ⟨_, rfl⟩
                obtain ⟨oy, hoy⟩ : ∃ z, o' y = z := ⟨_, rfl⟩
                rw [hou] at co hk1 hk2 Hpush Hout2 Hq2 Hfs2 Hb2'
                rw [hoy] at cy hneg
                have hui : (u : Int) < (n : Int) := by omega
                have hiQi : (i : Int) < (Q'.length : Int) := by omega
                have hsq : N0 ≤ wr.heap.size := by omega
                clear hx hpush hout2 hq2 hfs2 hb2 hou hoy hout hq hqf hqe hfs hb
                have hbox : ((wr.setCell ⟨w.heap.size, y, none⟩ (.int .i64 (ou + 1))).alloc (Obj.cells #[.int .i64 y] 3)).cell? ⟨wr.heap.size, 0, none⟩ = some (.int .i64 y) := by
                  have h := heap_alloc_new (wr.setCell ⟨w.heap.size, y, none⟩ (.int .i64 (ou + 1))) (Obj.cells #[.int .i64 y] 3)
                  rw [show (wr.setCell ⟨w.heap.size, y, none⟩ (.int .i64 (ou + 1))).heap.size = wr.heap.size by simp] at h
                  rw [cell_of_row _ _ _ _ _ _ h]
                  rfl
                have Hbox := Lib.hid hbox
                clear hbox
                go_wp2_with (at_builtin; refine Go.wpList_append_own_at _ rfl _ _ 26 rfl N0 3 i0 _ 1 8 Tryd.underlying26 hi hz0 hz1 hz2 rfl (by decide) _ _ _ rfl (Hq2.out.alloc _) ⟨wr.heap.size, 0, none⟩ 1 1 [.int .i64 y] rfl rfl (one_cell Hbox.out) (one_one rfl) (by unfold maxLen; omega) (by omega) (by simp; omega) ?_; intro v1 w4 hown4 hg4 _ hloc; obtain ⟨A1, d1', rfl, _⟩ := own_shape hown4)
                go_roundw
                case rel =>
                  refine ⟨Q' ++ [y], updI o' y (ou + 1), j + 1, by go_num, by omega, Hpush.out, ?_, ?_, ?_, ?_, ?_, ?_, ?_, ?_⟩
                  · rw [List.getElem?_append_left hiQ']; exact Hu'.out
                  · intro j' z hj' hz
                    by_cases hjj : j' = j
                    · subst hjj
                      rw [Hx.out] at hz
                      have hzy := Option.some.inj hz
                      exact List.mem_append_right _ (by simp; omega)
                    · exact List.mem_append_left _ (Hdone.out j' z (by omega) hz)
                  · rw [List.length_append, List.length_singleton]
                    unfold qcells
                    rw [List.map_append, List.map_singleton, icells_append]
                    exact hown4
                  · refine (Hout2.out.alloc _).kept hg4 (.inr fun e => ?_)
                    have := (Hq2.out.lt w.heap.size e.symm).1
                    omega
                  · refine (Hfs2.out.alloc _).kept hg4 (.inr fun e => ?_)
                    have h1 := Hap.out bb e.symm
                    have h2 := Own3'.out.lt bb rfl
                    omega
                  · intro bq hbq
                    rcases hloc with h | h
                    · rw [h] at hbq; exact Hap.out bq hbq
                    · rw [h] at hbq
                      simp at hbq
                      omega
                  · have h := hg4.size
                    simp at h
                    omega
                  · exact (Hb2'.out.alloc (by simp; omega) _).grown hg4 (by simp; omega) fun b hb => by have := (Hq2.out.lt b hb).1; omega
                case measure => simp [intOf]; omega
              · have hyQ : y ∈ Q' := by
                  by_cases h : y ∈ Q'
                  · exact h
                  · have := Hbf.out.out y h; omega
                have HyQ := Lib.hid hyQ
                obtain ⟨oy, hoy⟩ : ∃ z, o' y = z := ⟨_, rfl⟩
                rw [hoy] at cy hneg
                have Hout2 := Lib.hid hout
                clear hx hyQ hoy hout
                go_wp2
                go_roundw
                case rel =>
                  refine ⟨Q', o', j + 1, by go_num, by omega, Hbf.out, Hu'.out, ?_, hq, Hout2.out, hfs, Hap.out, hsz3, hb⟩
                  intro j' z hj' hz
                  by_cases hjj : j' = j
                  · subst hjj
                    rw [Hx.out] at hz
                    have hzy := Option.some.inj hz
                    rw [show z = y by omega]
                    exact HyQ.out
                  · exact Hdone.out j' z (by omega) hz
                case measure => simp [intOf]; omega
            · have hge : ¬ ((j : Int) < (fs.length : Int)) := by omega
              have hnx := Hbf.out.next Hu'.out fun b hb1 hb2 => by
                obtain ⟨j', hj'⟩ := Hfall.out b hb1 hb2
                exact Hdone.out j' b (by have := (List.getElem?_eq_some_iff.1 hj').1; omega) hj'
              have Hnx := Lib.hid hnx
              clear hnx
              have Hb := Lib.hid hb
              clear hb
              go_wp2
              go_roundw
              case rel => exact ⟨Q', o', i + 1, by go_num, by omega, Hnx.out, hq, hout, by omega, Hb.out⟩
              case measure => simp [intOf]; omega
        · obtain ⟨Aq, cq, rfl, _⟩ := own_shape hq
          have hii : ¬ ((i : Int) < (Q.length : Int)) := by omega
          rw [List.map_congr_left (g := distO n t a) fun x _ => Hbfs.out.done (by omega) Ht.out x] at hout
          have Hout := Lib.hid hout
          clear hout hq
          go_wp2
          go_ret
          exact ⟨w.heap.size, rfl, Hout.out, hb⟩
end Go.Proofs.YtmiecebdkadhbaaDoor
/-
  LISTS OF LISTS OF NUMBERS, read; the laws' own comparison of two that are equal.
-/
namespace Go.Proofs.YtmiecebdkadhbaaDoor
open Go.RowKit

/-- a slice of slices of numbers can be read: its headers, and the rows that they name, lie below B -/
def SRead (w : World) (B : Nat) (A : Option Addr) (LL : List (List Int)) : Prop :=
  ∀ i l, LL[i]? = some l → ∃ b off A' c', A = some ⟨b, off, none⟩ ∧ b < B ∧ w.cell? ⟨b, off + i, none⟩ = some (.slice A' l.length c') ∧ CRead w B A' (icells l)
theorem SRead.below {w w' : World} {B B' : Nat} {A : Option Addr} {LL : List (List Int)} (h : SRead w B A LL) (hb : Below B w w') (hB : B ≤ B') : SRead w' B' A LL := by
  intro i l hi
  obtain ⟨b, off, A', c', e, hlt, hc, hr⟩ := h i l hi
  exact ⟨b, off, A', c', e, by omega, carry hb hc hlt, (hr.below hb (Nat.le_refl _)).more hB⟩

/-- how many numbers lie in the first rows -/
def lens (ns : List Nat) (k : Nat) : Nat := (ns.take k).sum
theorem lens_succ {ns : List Nat} {k n : Nat} (h : ns[k]? = some n) : lens ns (k + 1) = lens ns k + n := by
  unfold lens
  rw [List.take_add_one, h, Option.toList_some, List.sum_append]
  simp
theorem lens_le (ns : List Nat) : ∀ k, lens ns k ≤ ns.sum := by
  intro k
  unfold lens
  have h := congrArg List.sum (List.take_append_drop k ns)
  rw [List.sum_append] at h
  omega
/-- the marks of rows of such lengths, counted on from row to row -/
def rowMarks (k0 : Int) (ns : List Nat) : List (List Int) := (List.range ns.length).map fun i => imarks (k0 + lens ns i) (ns.getD i 0)
theorem rowMarks_length (k0 : Int) (ns : List Nat) : (rowMarks k0 ns).length = ns.length := by simp [rowMarks]
theorem rowMarks_at {k0 : Int} {ns : List Nat} {k n : Nat} (h : ns[k]? = some n) : (rowMarks k0 ns)[k]? = some (imarks (k0 + lens ns k) n) := by
  have hk := (List.getElem?_eq_some_iff.1 h).1
  simp [rowMarks, hk, List.getD_eq_getElem?_getD]
  have := (List.getElem?_eq_some_iff.1 h).2
  rw [this]

end Go.Proofs.YtmiecebdkadhbaaDoor
/-
  A LIST OF LISTS OF NUMBERS OF THE CALL's OWN: its headers a row, each of its rows a row, all in blocks of their own; 'laws.markIntSS' by its contract.
-/
namespace Go.Proofs.YtmiecebdkadhbaaDoor
open Go.RowKit

theorem own_apart {w : World} {B B' : Nat} {e e' : TypeId} {s s' n n' : Nat} {v v' : Value} {xs xs' : List Value} (h1 : w.ownsRow B e s v n xs) (h2 : w.ownsRow B' e' s' v' n' xs') (hne : e ≠ e') : v.ownBlock = none ∨ v.ownBlock ≠ v'.ownBlock := by
  rcases h1.2 with ⟨rfl, _⟩ | ⟨g, cap, cur, rfl, _, hh, _⟩
  · left; simp [Value.ownBlock]
  · right
    rcases h2.2 with ⟨rfl, _⟩ | ⟨g', cap', cur', rfl, _, hh', _⟩
    · simp [Value.ownBlock]
    · intro e3
      have e4 : g = g' := by simpa [Value.ownBlock] using e3
      subst e4
      rw [hh] at hh'
      injection hh' with h
      injection h with _ ht
      exact hne ht

/-- n rows of numbers, row i under the slice (R i, N i, C i) -/
structure RowsG (w : World) (B : Nat) (v : Value) (n : Nat) (R : Nat → Option Addr) (C N : Nat → Nat) (F : Nat → List Int) : Prop where
  own : w.ownsRow B 26 1 v n ((List.range n).map fun i => Value.slice (R i) (N i) (C i))
  row : ∀ i, i < n → (F i).length = N i ∧ w.ownsRow B 3 1 (.slice (R i) (N i) (C i)) (N i) (icells (F i))
  apart : ∀ i j, i < n → j < n → i ≠ j → (Value.slice (R i) (N i) (C i)).ownBlock = none ∨ (Value.slice (R i) (N i) (C i)).ownBlock ≠ (Value.slice (R j) (N j) (C j)).ownBlock
section
variable {w w' : World} {B n : Nat} {v : Value} {R : Nat → Option Addr} {C N : Nat → Nat} {F F' : Nat → List Int}
theorem RowsG.congr (h : RowsG w B v n R C N F) (e : ∀ i, i < n → F i = F' i) : RowsG w B v n R C N F' :=
  ⟨h.own, fun i hi => by rw [← e i hi]; exact h.row i hi, h.apart⟩
theorem RowsG.kept (h : RowsG w B v n R C N F) (hg : w.grownBy w' none) : RowsG w' B v n R C N F :=
  ⟨h.own.kept hg (by cases v.ownBlock <;> simp), fun i hi => ⟨(h.row i hi).1, (h.row i hi).2.kept hg (by cases (Value.slice (R i) (N i) (C i)).ownBlock <;> simp)⟩, h.apart⟩
/-- another row i of the same length -/
theorem RowsG.set (h : RowsG w B v n R C N F) {k : Nat} (hk : k < n) {l : List Int} (hl : l.length = N k) (hg : w.grownBy w' (Value.slice (R k) (N k) (C k)).ownBlock) (ho : w'.ownsRow B 3 1 (.slice (R k) (N k) (C k)) (N k) (icells l)) :
    RowsG w' B v n R C N (fun i => if i = k then l else F i) := by
  refine ⟨h.own.kept hg (own_apart h.own (h.row k hk).2 (by decide)), fun i hi => ?_, h.apart⟩
  by_cases e : i = k
  · subst e
    simp only [if_true]
    exact ⟨hl, ho⟩
  · simp only [if_neg e]
    exact ⟨(h.row i hi).1, (h.row i hi).2.kept hg (h.apart i k hi hk e)⟩
theorem RowsG.read {A : Option Addr} {c : Nat} {LL : List (List Int)} (h : RowsG w B (.slice A n c) n R C N F) (hn : LL.length = n) (hL : ∀ i l, LL[i]? = some l → F i = l) : SRead w w.heap.size A LL := by
  intro i l hi
  have hin : i < n := by have := (List.getElem?_eq_some_iff.1 hi).1; omega
  obtain ⟨g, rfl⟩ := own_form h.own (by omega)
  obtain ⟨h1, h2⟩ := h.row i hin
  rw [hL i l hi] at h1 h2
  refine ⟨g, 0, R i, C i, rfl, (own_lt h.own).2, ?_, CRead.of_own h2⟩
  rw [Nat.zero_add, h.own.cellAt i (by omega)]
  simp [hin, h1]
end

end Go.Proofs.YtmiecebdkadhbaaDoor
/-
  A LIST OF LISTS OF NUMBERS OF THE CALL's OWN: a row of none put behind it, and a number put behind one of its rows.
-/
namespace Go.Proofs.YtmiecebdkadhbaaDoor
open Go.RowKit

section
variable {w w' w2 : World} {B n : Nat} {v v' : Value} {R : Nat → Option Addr} {C N : Nat → Nat} {F : Nat → List Int}
def upN {α : Type} (f : Nat → α) (k : Nat) (x : α) : Nat → α := fun i => if i = k then x else f i
theorem upN_self {α : Type} (f : Nat → α) (k : Nat) (x : α) : upN f k x k = x := by simp [upN]
theorem upN_ne {α : Type} (f : Nat → α) {k i : Nat} (x : α) (h : i ≠ k) : upN f k x i = f i := by simp [upN, h]
/-- behind an append of one header, nil -/
theorem RowsG.push (h : RowsG w B v n R C N F) (hg : w.grownBy w' v.ownBlock) (ho : w'.ownsRow B 26 1 v' (n + 1) (((List.range n).map fun i => Value.slice (R i) (N i) (C i)) ++ [.slice none 0 0])) :
    RowsG w' B v' (n + 1) (upN R n none) (upN C n 0) (upN N n 0) (upN F n []) := by
  refine ⟨?_, fun i hi => ?_, fun i j hi hj hij => ?_⟩
  · rw [List.range_succ, List.map_append, List.map_singleton, upN_self, upN_self, upN_self]
    rw [List.map_congr_left (g := fun i => Value.slice (R i) (N i) (C i)) fun i hi => by
      have : i ≠ n := by have := List.mem_range.1 hi; omega
      rw [upN_ne _ _ this, upN_ne _ _ this, upN_ne _ _ this]]
    exact ho
  · by_cases e : i = n
    · subst e
      simp only [upN_self]
      exact ⟨rfl, World.ownsRow_nil _ _ _ _⟩
    · simp only [upN_ne _ _ e]
      have hin : i < n := by omega
      exact ⟨(h.row i hin).1, (h.row i hin).2.kept hg (own_apart (h.row i hin).2 h.own (by decide))⟩
  · by_cases e : i = n
    · subst e
      simp only [upN_self]
      left; simp [Value.ownBlock]
    · simp only [upN_ne _ _ e]
      by_cases e2 : j = n
      · subst e2
        simp only [upN_self]
        cases hq : (Value.slice (R i) (N i) (C i)).ownBlock with
        | none => exact .inl rfl
        | some b => right; simp [Value.ownBlock]
      · simp only [upN_ne _ _ e2]
        exact h.apart i j (by omega) (by omega) hij
theorem map_range_set {α : Type} (f : Nat → α) (k : Nat) (x : α) (n : Nat) : ((List.range n).map f).set k x = (List.range n).map (upN f k x) := by
  apply List.ext_getElem (by simp)
  intro j h1 h2
  rw [List.getElem_set]
  simp only [List.getElem_map, List.getElem_range]
  by_cases e : k = j
  · subst e; simp [upN]
  · rw [if_neg e, upN_ne _ _ (fun h => e h.symm)]
/-- behind an append of a number to row k and the store of its header -/
theorem RowsG.grow {g c : Nat} (h : RowsG w B (.slice (some ⟨g, 0, none⟩) n c) n R C N F) {k : Nat} (hk : k < n) {x : Int} {b d : Nat}
    (hg : w.grownBy w2 (Value.slice (R k) (N k) (C k)).ownBlock) (ho : w2.ownsRow B 3 1 (.slice (some ⟨b, 0, none⟩) (N k + 1) d) (N k + 1) (icells (F k) ++ [.int .i64 x]))
    (hat : (Value.slice (R k) (N k) (C k)).ownBlock = some b ∨ b = w.heap.size) :
    RowsG (w2.setCell ⟨g, k, none⟩ (.slice (some ⟨b, 0, none⟩) (N k + 1) d)) B (.slice (some ⟨g, 0, none⟩) n c) n (upN R k (some ⟨b, 0, none⟩)) (upN C k d) (upN N k (N k + 1)) (upN F k (F k ++ [x])) := by
  have own2 := h.own.kept hg (own_apart h.own (h.row k hk).2 (by decide))
  have hst := own2.stored k (.slice (some ⟨b, 0, none⟩) (N k + 1) d)
  have hob : (Value.slice (some ⟨g, 0, none⟩) n c).ownBlock = some g := by simp [Value.ownBlock]
  refine ⟨?_, fun i hi => ?_, fun i j hi hj hij => ?_⟩
  · have h1 := hst.1
    rw [map_range_set] at h1
    rw [List.map_congr_left (g := upN (fun i => Value.slice (R i) (N i) (C i)) k (.slice (some ⟨b, 0, none⟩) (N k + 1) d)) fun i _ => by
      by_cases e : i = k
      · subst e; simp only [upN_self]
      · simp only [upN_ne _ _ e]]
    exact h1
  · by_cases e : i = k
    · subst e
      simp only [upN_self]
      refine ⟨by rw [List.length_append, (h.row i hi).1]; rfl, ?_⟩
      rw [icells_append]
      refine World.ownsRow.kept ho hst.2 ?_
      rw [← hob]
      exact own_apart ho own2 (by decide)
    · simp only [upN_ne _ _ e]
      have hr := (h.row i hi).2.kept hg (h.apart i k hi hk e)
      refine ⟨(h.row i hi).1, hr.kept hst.2 ?_⟩
      rw [← hob]
      exact own_apart hr own2 (by decide)
  · have hlt : ∀ i, i < n → ∀ m, (Value.slice (R i) (N i) (C i)).ownBlock = some m → m < w.heap.size := fun i hi m hm => ((h.row i hi).2.lt m hm).2
    have hbn : (Value.slice (some ⟨b, 0, none⟩) (N k + 1) d).ownBlock = some b := by simp [Value.ownBlock]
    by_cases e : i = k
    · subst e
      simp only [upN_self, upN_ne _ _ (fun h => hij h.symm), hbn]
      right
      intro e2
      rcases hat with h1 | h1
      · rcases h.apart i j hi hj hij with h2 | h2
        · rw [h1] at h2; cases h2
        · exact h2 (h1.trans e2)
      · have := hlt j hj b e2.symm
        omega
    · by_cases e2 : j = k
      · subst e2
        simp only [upN_self, upN_ne _ _ e, hbn]
        cases hq : (Value.slice (R i) (N i) (C i)).ownBlock with
        | none => exact .inl rfl
        | some m =>
          right
          intro e3
          have e4 : m = b := by simpa using e3
          subst e4
          rcases hat with h1 | h1
          · rcases h.apart i j hi hj hij with h2 | h2
            · rw [hq] at h2; cases h2
            · exact h2 (hq.trans h1.symm)
          · have := hlt i hi m hq
            omega
      · simp only [upN_ne _ _ e, upN_ne _ _ e2]
        exact h.apart i j hi hj hij
end
end Go.Proofs.YtmiecebdkadhbaaDoor
/-
  LISTS OF LISTS OF NUMBERS AS RESULTS: rows of the call's own, apart from each other; what the laws' marking and counting need of them.
-/
namespace Go.Proofs.YtmiecebdkadhbaaDoor
open Go.RowKit

/-- the rows of a list of lists, each in a block of its own -/
def RowsL (w : World) (B : Nat) (v : Value) (LL : List (List Int)) (R : Nat → Option Addr) (C : Nat → Nat) : Prop :=
  RowsG w B v LL.length R C (fun i => (LL.getD i []).length) (fun i => LL.getD i [])
section
variable {w w' : World} {B n : Nat} {v v' : Value} {R : Nat → Option Addr} {C N : Nat → Nat} {F F' : Nat → List Int} {LL : List (List Int)}
theorem RowsG.below (h : RowsG w B v n R C N F) (hb : Below w.heap.size w w') : RowsG w' B v n R C N F :=
  ⟨own_below h.own hb (Nat.le_refl _), fun i hi => ⟨(h.row i hi).1, own_below (h.row i hi).2 hb (Nat.le_refl _)⟩, h.apart⟩
theorem RowsG.lower {B' : Nat} (h : RowsG w B v n R C N F) (hB : B' ≤ B) : RowsG w B' v n R C N F :=
  ⟨own_lower h.own hB, fun i hi => ⟨(h.row i hi).1, own_lower (h.row i hi).2 hB⟩, h.apart⟩
theorem own_from {e : TypeId} {s m : Nat} {u : Value} {xs : List Value} (h : w.ownsRow B e s u m xs) {x : Value} {lo hi : Nat} (hl : Lies x lo hi) (hB : hi ≤ B) : u.ownBlock = none ∨ u.ownBlock ≠ x.ownBlock := by
  cases e1 : u.ownBlock with
  | none => exact .inl rfl
  | some k =>
    right
    intro e2
    have h1 := (h.lt k e1).1
    have h2 := (hl k e2.symm).2
    omega
theorem RowsG.keptG (h : RowsG w B v n R C N F) {x : Value} {lo hi : Nat} (hg : w.grownBy w' x.ownBlock) (hl : Lies x lo hi) (hB : hi ≤ B) : RowsG w' B v n R C N F :=
  ⟨h.own.kept hg (own_from h.own hl hB), fun i hi => ⟨(h.row i hi).1, (h.row i hi).2.kept hg (own_from (h.row i hi).2 hl hB)⟩, h.apart⟩
theorem RowsL.none (w : World) (B : Nat) : RowsL w B (Value.slice Option.none 0 0) [] (fun _ => Option.none) (fun _ => 0) :=
  ⟨World.ownsRow_nil _ _ _ _, fun _ hi => absurd hi (Nat.not_lt_zero _), fun _ _ hi => absurd hi (Nat.not_lt_zero _)⟩
theorem getD_of {i : Nat} {l : List Int} (h : LL[i]? = some l) : LL.getD i [] = l := by rw [List.getD_eq_getElem?_getD, h]; rfl
theorem RowsL.below (h : RowsL w B v LL R C) (hb : Below w.heap.size w w') : RowsL w' B v LL R C := RowsG.below h hb
theorem RowsL.lower {B' : Nat} (h : RowsL w B v LL R C) (hB : B' ≤ B) : RowsL w B' v LL R C := RowsG.lower h hB
theorem RowsL.keptG (h : RowsL w B v LL R C) {x : Value} {lo hi : Nat} (hg : w.grownBy w' x.ownBlock) (hl : Lies x lo hi) (hB : hi ≤ B) : RowsL w' B v LL R C := RowsG.keptG h hg hl hB
theorem SRead.more {A : Option Addr} {B' : Nat} (h : SRead w B A LL) (hB : B ≤ B') : SRead w B' A LL := by
  intro i l hi
  obtain ⟨b, off, A', c', e, hlt, hc, hr⟩ := h i l hi
  exact ⟨b, off, A', c', e, by omega, hc, hr.more hB⟩
theorem RowsL.read {A : Option Addr} {c : Nat} (h : RowsL w B (.slice A LL.length c) LL R C) : SRead w w.heap.size A LL := RowsG.read h rfl fun _ _ hi => getD_of hi
/-- a row of its own put behind them, and its header -/
theorem RowsL.push (h : RowsL w B v LL R C) {l : List Int} {A : Option Addr} {c : Nat} (hr : w.ownsRow B 3 1 (.slice A l.length c) l.length (icells l))
    (hap : ∀ i, i < LL.length → (Value.slice (R i) (LL.getD i []).length (C i)).ownBlock = Option.none ∨ (Value.slice (R i) (LL.getD i []).length (C i)).ownBlock ≠ (Value.slice A l.length c).ownBlock)
    (hg : w.grownBy w' v.ownBlock) (ho : w'.ownsRow B 26 1 v' (LL.length + 1) (((List.range LL.length).map fun i => Value.slice (R i) (LL.getD i []).length (C i)) ++ [.slice A l.length c])) :
    RowsL w' B v' (LL ++ [l]) (upN R LL.length A) (upN C LL.length c) := by
  have hne : ∀ i, i < LL.length → (LL ++ [l]).getD i [] = LL.getD i [] := fun i hi => by
    rw [List.getD_eq_getElem?_getD, List.getD_eq_getElem?_getD, List.getElem?_append_left hi]
  have heq : (LL ++ [l]).getD LL.length [] = l := by rw [List.getD_eq_getElem?_getD]; simp
  unfold RowsL
  rw [List.length_append, List.length_singleton]
  refine ⟨?_, fun i hi => ?_, fun i j hi hj hij => ?_⟩
  · rw [List.range_succ, List.map_append, List.map_singleton, upN_self, upN_self, heq]
    rw [List.map_congr_left (g := fun i => Value.slice (R i) (LL.getD i []).length (C i)) fun i hi => by
      have := List.mem_range.1 hi
      rw [upN_ne _ _ (by omega), upN_ne _ _ (by omega), hne i this]]
    exact ho
  · by_cases e : i = LL.length
    · subst e
      simp only [upN_self, heq]
      exact ⟨trivial, hr.kept hg (own_apart hr h.own (by decide))⟩
    · have hin : i < LL.length := by omega
      simp only [upN_ne _ _ e, hne i hin]
      exact ⟨trivial, (h.row i hin).2.kept hg (own_apart (h.row i hin).2 h.own (by decide))⟩
  · by_cases e : i = LL.length
    · subst e
      have hjn : j < LL.length := by omega
      simp only [upN_self, upN_ne _ _ (show j ≠ LL.length by omega), heq, hne j hjn]
      cases hq : (Value.slice A l.length c).ownBlock with
      | none => exact .inl rfl
      | some b =>
        right
        intro e2
        rcases hap j hjn with h3 | h3
        · rw [h3] at e2; cases e2
        · rw [hq] at h3; exact h3 e2.symm
    · have hin : i < LL.length := by omega
      by_cases e2 : j = LL.length
      · subst e2
        simp only [upN_self, upN_ne _ _ e, heq, hne i hin]
        exact hap i hin
      · have hjn : j < LL.length := by omega
        simp only [upN_ne _ _ e, upN_ne _ _ e2, hne i hin, hne j hjn]
        exact h.apart i j hin hjn hij
/-- a row made behind a world is apart from the rows of that world -/
theorem RowsL.fresh (h : RowsL w B v LL R C) {x : Value} {lo hi : Nat} (hx : Lies x lo hi) (hlo : w.heap.size ≤ lo) : ∀ i, i < LL.length → (Value.slice (R i) (LL.getD i []).length (C i)).ownBlock = Option.none ∨ (Value.slice (R i) (LL.getD i []).length (C i)).ownBlock ≠ x.ownBlock := by
  intro i hi
  cases e1 : (Value.slice (R i) (LL.getD i []).length (C i)).ownBlock with
  | none => exact .inl rfl
  | some k =>
    right
    intro e2
    have h1 := ((h.row i hi).2.lt k e1).2
    have h2 := (hx k e2.symm).1
    omega
theorem LRows.read {A : Option Addr} {c : Nat} {hs : List Value} (h : LRows w B (.slice A LL.length c) LL hs) : SRead w w.heap.size A LL := by
  intro i l hi
  have hin : i < LL.length := (List.getElem?_eq_some_iff.1 hi).1
  obtain ⟨g, rfl⟩ := own_form h.own (by omega)
  obtain ⟨A', c', e, o⟩ := h.row i l hi
  refine ⟨g, 0, A', c', rfl, (own_lt h.own).2, ?_, CRead.of_own o⟩
  rw [Nat.zero_add, h.own.cellAt i (by omega)]
  exact e
end
/-- how many numbers lie in all rows -/
def sumL (LL : List (List Int)) : Nat := (LL.map List.length).sum
theorem sumL_row {LL : List (List Int)} {l : List Int} (h : l ∈ LL) : l.length ≤ sumL LL := by
  unfold sumL
  induction LL with
  | nil => cases h
  | cons x LL ih =>
    simp only [List.map_cons, List.sum_cons]
    rcases List.mem_cons.1 h with rfl | h
    · omega
    · have := ih h; omega
theorem sumL_le {LL : List (List Int)} {m : Nat} (h : ∀ l ∈ LL, l.length ≤ m) : sumL LL ≤ LL.length * m := by
  unfold sumL
  induction LL with
  | nil => simp
  | cons x LL ih =>
    simp only [List.map_cons, List.sum_cons, List.length_cons]
    have h1 := h x List.mem_cons_self
    have h2 := ih fun l hl => h l (List.mem_cons_of_mem _ hl)
    rw [Nat.add_mul]
    omega
theorem lens_at (LL : List (List Int)) (i : Nat) : (LL.map List.length).getD i 0 = (LL.getD i []).length := by
  rw [List.getD_eq_getElem?_getD, List.getD_eq_getElem?_getD, List.getElem?_map]
  cases LL[i]? <;> rfl
/-- the rows are marked, counted on from k0 -/
def MarkedL (w : World) (B : Nat) (v : Value) (LL : List (List Int)) (k0 : Int) (R : Nat → Option Addr) (C : Nat → Nat) : Prop :=
  RowsG w B v LL.length R C (fun i => (LL.getD i []).length) (fun i => imarks (k0 + lens (LL.map List.length) i) (LL.getD i []).length)
theorem MarkedL.below {w w' : World} {B : Nat} {v : Value} {LL : List (List Int)} {k0 : Int} {R : Nat → Option Addr} {C : Nat → Nat} (h : MarkedL w B v LL k0 R C) (hb : Below w.heap.size w w') : MarkedL w' B v LL k0 R C := RowsG.below h hb
/-- A call came back with lists of numbers, and whether it did. -/
def GotRowsOk (w : World) (LL : List (List Int)) (ok : Bool) (e : Ending) (w' : World) : Prop :=
  ∃ A c R C, e = .returned (.tuple #[.slice A LL.length c, .bool ok]) ∧ RowsL w' w.heap.size (.slice A LL.length c) LL R C ∧ Below w.heap.size w w'
/-- the same of the model's: that they can be read is enough -/
def ReadRowsOk (w : World) (LL : List (List Int)) (ok : Bool) (e : Ending) (w' : World) : Prop :=
  ∃ A c, e = .returned (.tuple #[.slice A LL.length c, .bool ok]) ∧ SRead w' w'.heap.size A LL ∧ Below w.heap.size w w'
theorem SRead.nil (w : World) (B : Nat) (A : Option Addr) : SRead w B A [] := fun i l h => by simp at h
end Go.Proofs.YtmiecebdkadhbaaDoor
