/-
  Texts put together for the claim of 'WidestDistance' (pack 5): Nums, NumsW, PaintP, SzI, Paint, PaintG, Every, Wide, LawWidestDistance, Said, Head, Facts, Door.
-/
import Derived.Test.YthpapkfpcijpoaaDoorWidestDistanceP1
import Derived.Test.YthpapkfpcijpoaaDoorWidestDistanceP2
import Derived.Test.YthpapkfpcijpoaaDoorWidestDistanceP3
import Derived.Test.YthpapkfpcijpoaaDoorWidestDistanceP4
import Derived.BigQuiet
import Derived.Deep.RegionHeld3
import Derived.Test.YthpapkfpcijpoaaDoorRows
import Derived.ProofKit
import Derived.OpenShut
import Derived.Deep.SlicePairs
import Derived.Lib.SmallJoins
import Derived.Test.YthpapkfpcijpoaaDoorTie
import Derived.Test.YthpapkfpcijpoaaDoorCards
import Derived.Lib.LaidTab
import Derived.LaidHandle
import Derived.SevenTiedAt
/-
  LISTS OF NUMBERS OF FRIENDS AS PLAIN LISTS: what numbers are; sorted so that they are falling; sums; where they fail. Nothing here speaks of the program.
-/
namespace Go.Proofs.YthpapkfpcijpoaaDoor

def isNums (q : List Int) : Bool := decide (q.length ≤ 12) && q.all fun x => decide (0 ≤ x ∧ x < q.length)
theorem isNums_len {q : List Int} (h : isNums q = true) : q.length ≤ 12 := by
  simp only [isNums, Bool.and_eq_true, decide_eq_true_eq] at h
  exact h.1
theorem isNums_mem {q : List Int} (h : isNums q = true) : ∀ x ∈ q, 0 ≤ x ∧ x < q.length := by
  simp only [isNums, Bool.and_eq_true, List.all_eq_true, decide_eq_true_eq] at h
  exact h.2
theorem isNums_at {q : List Int} (h : isNums q = true) {k : Nat} {x : Int} (hx : q[k]? = some x) : 0 ≤ x ∧ x < q.length := isNums_mem h x (List.mem_of_getElem? hx)
theorem isNums_of {q : List Int} (h : q.length ≤ 12) (h2 : ∀ (k : Nat) (x : Int), k < q.length → q[k]? = some x → 0 ≤ x ∧ x < q.length) : isNums q = true := by
  simp only [isNums, Bool.and_eq_true, List.all_eq_true, decide_eq_true_eq]
  refine ⟨h, fun x hx => ?_⟩
  obtain ⟨i, hi, rfl⟩ := List.getElem_of_mem hx
  exact h2 i _ hi (List.getElem?_eq_getElem hi)
theorem isNums_bad {q : List Int} {k : Nat} {x : Int} (hx : q[k]? = some x) (h : ¬ (0 ≤ x ∧ x < q.length)) : isNums q = false := by
  cases he : isNums q with
  | false => rfl
  | true => exact absurd (isNums_at he hx) h
theorem isNums_many {q : List Int} (h : 12 < q.length) : isNums q = false := by
  cases he : isNums q with
  | false => rfl
  | true => have := isNums_len he; omega

/-! ## Falling -/
def fall (q : List Int) : List Int := q.mergeSort fun x y => decide (y ≤ x)
theorem fall_perm (q : List Int) : (fall q).Perm q := List.mergeSort_perm _ _
theorem fall_length (q : List Int) : (fall q).length = q.length := (fall_perm q).length_eq
theorem fall_mem {q : List Int} {x : Int} : x ∈ fall q ↔ x ∈ q := (fall_perm q).mem_iff
theorem fall_sorted (q : List Int) : (fall q).Pairwise fun x y => y ≤ x := by
  have h := List.pairwise_mergeSort (le := fun x y : Int => decide (y ≤ x)) (by intro a b c; simp; omega) (by intro a b; simp; omega) q
  exact h.imp (by simp)
theorem fall_unique {l q : List Int} (hs : l.Pairwise fun x y => y ≤ x) (hp : l.Perm q) : l = fall q :=
  List.Perm.eq_of_pairwise (le := fun x y : Int => y ≤ x) (fun a b _ _ h1 h2 => by omega) hs (fall_sorted q) (hp.trans (fall_perm q).symm)
theorem fall_nums {q : List Int} (h : isNums q = true) : isNums (fall q) = true := by
  refine isNums_of (by rw [fall_length]; exact isNums_len h) fun k x _ hx => ?_
  have := isNums_mem h x (fall_mem.1 (List.mem_of_getElem? hx))
  rw [fall_length]
  exact this

/-- the numbers from n down, j of them, each as often as it is in the list -/
def blockI (q : List Int) (x : Int) : List Int := q.filter fun y => decide (x = y)
def descI (q : List Int) (n j : Nat) : List Int := (List.range j).flatMap fun i : Nat => blockI q ((n : Int) - (i : Int))
theorem descI_zero (q : List Int) (n : Nat) : descI q n 0 = [] := rfl
theorem descI_next (q : List Int) (n j : Nat) : descI q n (j + 1) = descI q n j ++ blockI q ((n : Int) - j) := by
  unfold descI
  rw [List.range_succ, List.flatMap_append]
  simp
theorem blockI_snoc (q : List Int) (x y : Int) : blockI (q ++ [y]) x = blockI q x ++ if x = y then [y] else [] := by
  unfold blockI
  rw [List.filter_append]
  congr 1
  by_cases h : x = y
  · rw [if_pos h, List.filter_cons_of_pos (by simpa using h)]; rfl
  · rw [if_neg h, List.filter_cons_of_neg (by simpa using h)]; rfl
theorem mem_blockI {q : List Int} {x y : Int} : y ∈ blockI q x ↔ y ∈ q ∧ x = y := by simp [blockI]
theorem mem_descI {q : List Int} {n j : Nat} {y : Int} : y ∈ descI q n j ↔ y ∈ q ∧ (n : Int) - j < y ∧ y ≤ n := by
  simp only [descI, List.mem_flatMap, List.mem_range, mem_blockI]
  constructor
  · rintro ⟨i, hi, hy, rfl⟩; exact ⟨hy, by omega, by omega⟩
  · rintro ⟨hy, h1, h2⟩; exact ⟨((n : Int) - y).toNat, by omega, hy, by omega⟩
theorem descI_sorted (q : List Int) (n j : Nat) : (descI q n j).Pairwise fun x y => y ≤ x := by
  induction j with
  | zero => exact List.Pairwise.nil
  | succ j ih =>
    rw [descI_next, List.pairwise_append]
    refine ⟨ih, ?_, fun a ha b hb => ?_⟩
    · rw [List.pairwise_iff_getElem]
      intro a b ha hb _
      have h1 := (mem_blockI.1 (List.getElem_mem ha)).2
      have h2 := (mem_blockI.1 (List.getElem_mem hb)).2
      omega
    · have h1 := mem_descI.1 ha
      have h2 := (mem_blockI.1 hb).2
      omega
theorem count_blockI (q : List Int) (x y : Int) : (blockI q x).count y = if x = y then q.count y else 0 := by
  unfold blockI
  by_cases h : x = y
  · subst h
    rw [if_pos rfl, List.count_filter (by simp)]
  · rw [if_neg h, List.count_eq_zero]
    intro hm
    exact h (by simpa using (List.mem_filter.1 hm).2)
theorem count_descI (q : List Int) (n j : Nat) (y : Int) : (descI q n j).count y = if (n : Int) - j < y ∧ y ≤ n then q.count y else 0 := by
  induction j with
  | zero => rw [descI_zero, if_neg (by omega)]; rfl
  | succ j ih =>
    rw [descI_next, List.count_append, ih, count_blockI]
    by_cases h1 : (n : Int) - j = y
    · rw [if_pos h1, if_neg (by omega), if_pos (by omega), Nat.zero_add]
    · rw [if_neg h1, Nat.add_zero]
      by_cases h2 : (n : Int) - j < y ∧ y ≤ n
      · rw [if_pos h2, if_pos (by omega)]
      · rw [if_neg h2, if_neg (by omega)]
theorem descI_fall {q : List Int} (h : isNums q = true) : descI q q.length (q.length + 1) = fall q := by
  refine fall_unique (descI_sorted _ _ _) (List.perm_iff_count.2 fun y => ?_)
  rw [count_descI]
  split
  · rfl
  · rename_i hn
    symm
    rw [List.count_eq_zero]
    intro hy
    have := isNums_mem h y hy
    omega
theorem descI_le (q : List Int) (n j : Nat) : (descI q n j).length ≤ j * q.length := by
  induction j with
  | zero => simp [descI_zero]
  | succ j ih =>
    rw [descI_next, List.length_append, Nat.add_mul, Nat.one_mul]
    have : (blockI q ((n : Int) - j)).length ≤ q.length := List.length_filter_le _ _
    omega
theorem blockI_le (q : List Int) (x : Int) : (blockI q x).length ≤ q.length := List.length_filter_le _ _

/-! ## Sums -/
def sumI (q : List Int) : Int := q.foldl (· + ·) 0
theorem sumI_snoc (q : List Int) (x : Int) : sumI (q ++ [x]) = sumI q + x := by simp [sumI, List.foldl_append]
theorem sumI_nil : sumI [] = 0 := rfl
/-- a bound of the sum of a beginning -/
theorem sumI_take_bound {q : List Int} {m : Int} (hm : 0 ≤ m) (h : ∀ x ∈ q, 0 ≤ x ∧ x ≤ m) : ∀ k, 0 ≤ sumI (q.take k) ∧ sumI (q.take k) ≤ k * m := by
  intro k
  induction k with
  | zero => simp [sumI_nil]
  | succ k ih =>
    rw [List.take_add_one]
    have e : ((k + 1 : Nat) : Int) * m = k * m + m := by rw [Int.natCast_add, Int.add_mul]; simp
    rw [e]
    cases hx : q[k]? with
    | none => simp; omega
    | some x =>
      have := h x (List.mem_of_getElem? hx)
      rw [Option.toList_some, sumI_snoc]
      omega
theorem sumI_perm {q l : List Int} (h : q.Perm l) : sumI q = sumI l := by
  unfold sumI
  exact h.foldl_eq' (fun x _ y _ z => by omega) 0

/-! ## Where numbers fail -/
def minsI (k : Int) (q : List Int) : List Int := q.map fun x => if k < x then k else x
theorem minsI_snoc (k : Int) (q : List Int) (x : Int) : minsI k (q ++ [x]) = minsI k q ++ [if k < x then k else x] := by simp [minsI]
def mostI (s : List Int) (k : Nat) : Int := (k : Int) * (k - 1) + sumI (minsI k (s.drop k))
def failAt (s : List Int) (k : Nat) : Bool := decide (mostI s k < sumI (s.take k))
def failsI (s : List Int) : Int := match (List.range s.length).find? fun i => failAt s (i + 1) with | none => 0 | some i => (i : Int) + 1
theorem failsI_at {s : List Int} {k : Nat} (hk : k < s.length) (h : ∀ j, j < k → failAt s (j + 1) = false) (hf : failAt s (k + 1) = true) : failsI s = k + 1 := by
  have : (List.range s.length).find? (fun i => failAt s (i + 1)) = some k := by
    rw [List.find?_range_eq_some]
    exact ⟨hf, by simpa using hk, fun j hj => by simp [h j hj]⟩
  unfold failsI
  rw [this]
theorem failsI_none {s : List Int} (h : ∀ j, j < s.length → failAt s (j + 1) = false) : failsI s = 0 := by
  have : (List.range s.length).find? (fun i => failAt s (i + 1)) = none := by
    rw [List.find?_range_eq_none]
    intro j hj
    simp [h j hj]
  unfold failsI
  rw [this]
theorem failsI_range (s : List Int) : 0 ≤ failsI s ∧ failsI s ≤ s.length := by
  unfold failsI
  split
  · omega
  · rename_i i hi
    have := List.mem_of_find?_eq_some hi
    rw [List.mem_range] at this
    omega
theorem minsI_bound {s : List Int} {m k : Int} (hk : 0 ≤ k) (h : ∀ x ∈ s, 0 ≤ x ∧ x ≤ m) : ∀ x ∈ minsI k s, 0 ≤ x ∧ x ≤ m := by
  intro x hx
  obtain ⟨y, hy, rfl⟩ := List.mem_map.1 hx
  have := h y hy
  split <;> omega
/-- they can be -/
def canI (q : List Int) : Bool := decide (sumI q % 2 = 0) && decide (failsI (fall q) = 0)
end Go.Proofs.YthpapkfpcijpoaaDoor
/-
  NUMBERS OF FRIENDS: what they are, by the model's and the program's contracts.
-/
namespace Go.Proofs.YthpapkfpcijpoaaDoor
open Go.RowKit

def l1AllB (q : List Int) (lo hi : Int) : Bool := q.all fun x => decide (lo ≤ x ∧ x ≤ hi)
theorem l1AllB_yes {q : List Int} {lo hi : Int} (h : ∀ (j : Nat) (x : Int), j < q.length → q[j]? = some x → lo ≤ x ∧ x ≤ hi) : l1AllB q lo hi = true := by
  simp only [l1AllB, List.all_eq_true, decide_eq_true_eq]
  intro x hx
  obtain ⟨i, hi, rfl⟩ := List.getElem_of_mem hx
  exact h i _ hi (List.getElem?_eq_getElem hi)
theorem l1AllB_no {q : List Int} {lo hi : Int} {k : Nat} {x : Int} (hx : q[k]? = some x) (h : ¬ (lo ≤ x ∧ x ≤ hi)) : l1AllB q lo hi = false := by
  cases he : l1AllB q lo hi with
  | false => rfl
  | true =>
    simp only [l1AllB, List.all_eq_true, decide_eq_true_eq] at he
    exact absurd (he x (List.mem_of_getElem? hx)) h

set_option maxHeartbeats 1000000 in
theorem l1All_any (q : List Int) (A : Option Addr) (c : Nat) (lo hi : Int) (w : World) (hl : q.length ≤ 1048576) (hA : CRead w w.heap.size A (icells q)) :
    Calls Tryd.prog 97 #[.slice A q.length c, .int .i64 lo, .int .i64 hi] w fun e w' => e = .returned (.bool (l1AllB q lo hi)) ∧ w = w' := by
  go_enter Tryd.func97, Tryd.ntmps97
  go_wp2
  go_loop [11] (fun i => ∃ k : Nat, k ≤ q.length ∧ i = .int .i64 k ∧ ∀ (j : Nat) (x : Int), j < k → q[j]? = some x → lo ≤ x ∧ x ≤ hi) (fun i => q.length - (intOf i).toNat)
  case atStart => exact ⟨0, Nat.zero_le _, rfl, fun j x hj => by omega⟩
  case round =>
    obtain ⟨k, hk, rfl, hg⟩ := hrel
    have Hg := Lib.hid hg
    clear hg
    by_cases hlt : k < q.length
    · obtain ⟨x, hx⟩ := getSome q k hlt
      obtain ⟨b, off, rfl, hbb, c0⟩ := hA.int hx
      have hki : (k : Int) < (q.length : Int) := by omega
      have Hx := Lib.hid hx
      clear hx
      by_cases hin : lo ≤ x ∧ x ≤ hi
      · go_wp2_with (go_at_call 50; refine (l1In_yes _ _ _ hin.1 hin.2 _).mono ?_; rintro e w' ⟨rfl, rfl⟩)
        go_round
        case rel =>
          refine ⟨k + 1, by omega, by go_num, fun j y hj hy => ?_⟩
          by_cases hjk : j = k
          · subst hjk
            rw [Hx.out] at hy
            simp only [Option.some.injEq] at hy
            subst hy
            exact hin
          · exact Hg.out j y (by omega) hy
        case measure => simp [intOf]; omega
      · have e : l1AllB q lo hi = false := l1AllB_no Hx.out hin
        have He := Lib.hid e
        clear e
        go_wp2_with (go_at_call 50; refine (l1In_no _ _ _ (by omega) _).mono ?_; rintro e w' ⟨rfl, rfl⟩)
        go_ret
        exact ⟨by rw [He.out]; rfl, rfl⟩
    · have hkl : k = q.length := by omega
      have e : l1AllB q lo hi = true := l1AllB_yes fun j x hj hx => Hg.out j x (by omega) hx
      have He := Lib.hid e
      clear e
      have hge : ¬ ((k : Int) < (q.length : Int)) := by omega
      go_wp2
      go_ret
      exact ⟨by rw [He.out]; rfl, rfl⟩

theorem isNums_all {q : List Int} (h : q.length ≤ 12) : l1AllB q 0 ((q.length : Int) - 1) = isNums q := by
  unfold l1AllB isNums
  rw [decide_eq_true h, Bool.true_and]
  congr 1
  funext x
  congr 1
  apply propext
  omega

def resIsNumbers (q : List Int) : Bool := isNums q
/-! ## Sums -/
/-! ## Sorted so that they are falling: the model's -/
end Go.Proofs.YthpapkfpcijpoaaDoor
/-
  PAINTINGS, PURE: when there is one, the place of a pair among all, the colour of a pair.
-/
namespace Go.Proofs.YthpapkfpcijpoaaDoor

/-- there is a painting -/
def isX (p k : Int) (l : List Int) : Bool := (decide (0 ≤ p ∧ p ≤ 8) && decide (1 ≤ k ∧ k ≤ 3)) && (decide ((l.length : Int) = (p * (p - 1)).tdiv 2) && l1AllB l 0 (k - 1))
theorem isX_parts {p k : Int} {l : List Int} (h : isX p k l = true) : (0 ≤ p ∧ p ≤ 8) ∧ (1 ≤ k ∧ k ≤ 3) ∧ (l.length : Int) = (p * (p - 1)).tdiv 2 ∧ l1AllB l 0 (k - 1) = true := by
  simp only [isX, Bool.and_eq_true, decide_eq_true_eq] at h
  exact ⟨h.1.1, h.1.2, h.2.1, h.2.2⟩
theorem allP_count : ∀ n : Fin 9, ((allP n.val).length : Int) = ((n.val : Int) * ((n.val : Int) - 1)).tdiv 2 ∧ (allP n.val).length ≤ 28 ∧ waysI (n.val : Int) 2 = ((n.val : Int) * ((n.val : Int) - 1)).tdiv 2 := by decide +kernel
theorem count_of {p : Int} (h : 0 ≤ p ∧ p ≤ 8) : ((allP p.toNat).length : Int) = (p * (p - 1)).tdiv 2 ∧ (allP p.toNat).length ≤ 28 ∧ waysI p 2 = (p * (p - 1)).tdiv 2 := by
  have := allP_count ⟨p.toNat, by omega⟩
  simp only [show ((p.toNat : Nat) : Int) = p from by omega] at this
  exact this
theorem isX_len {p k : Int} {l : List Int} (h : isX p k l = true) : l.length = (allP p.toNat).length := by
  have h1 := isX_parts h
  have h2 := (count_of h1.1).1
  omega
theorem isX_small {p k : Int} {l : List Int} (h : isX p k l = true) : l.length ≤ 28 := by
  rw [isX_len h]
  exact (count_of (isX_parts h).1).2.1
theorem isX_at {p k : Int} {l : List Int} (h : isX p k l = true) {i : Nat} {x : Int} (hx : l[i]? = some x) : 0 ≤ x ∧ x < k := by
  have h1 := (isX_parts h).2.2.2
  simp only [l1AllB, List.all_eq_true, decide_eq_true_eq] at h1
  have := h1 x (List.mem_of_getElem? hx)
  omega
/-- the place of the pair of a and b, a < b, among those of n people -/
def atP (n a b : Nat) : Nat := a * (2 * n - a - 1) / 2 + b - a - 1
theorem atP_all : ∀ n : Fin 9, ∀ a : Fin 8, ∀ b : Fin 8, a.val < b.val → b.val < n.val → (allP n.val)[atP n.val a.val b.val]? = some ((a.val : Int), (b.val : Int)) := by decide +kernel
theorem atP_get {n a b : Nat} (hn : n ≤ 8) (hab : a < b) (hb : b < n) : (allP n)[atP n a b]? = some ((a : Int), (b : Int)) := atP_all ⟨n, by omega⟩ ⟨a, by omega⟩ ⟨b, by omega⟩ hab hb
theorem atP_lt {n a b : Nat} (hn : n ≤ 8) (hab : a < b) (hb : b < n) : atP n a b < (allP n).length := (List.getElem?_eq_some_iff.1 (atP_get hn hab hb)).1
theorem atP_of_all : ∀ n : Fin 9, ∀ i : Fin 28, i.val < (allP n.val).length → ∃ a : Fin 8, ∃ b : Fin 8, a.val < b.val ∧ b.val < n.val ∧ i.val = atP n.val a.val b.val := by decide +kernel
/-- each pair of all is at its place -/
theorem atP_of {n i : Nat} (hn : n ≤ 8) (hi : i < (allP n).length) : ∃ a b : Nat, a < b ∧ b < n ∧ i = atP n a b := by
  have h1 := (count_of (p := (n : Int)) (by omega)).2.1
  rw [Int.toNat_natCast] at h1
  obtain ⟨a, b, h⟩ := atP_of_all ⟨n, by omega⟩ ⟨i, by omega⟩ hi
  exact ⟨a.val, b.val, h⟩
/-- the colour of a pair, in whichever order -/
def colX (n : Nat) (l : List Int) (a b : Nat) : Int := l.getD (atP n (min a b) (max a b)) 0
theorem colX_comm (n : Nat) (l : List Int) (a b : Nat) : colX n l a b = colX n l b a := by unfold colX; rw [Nat.min_comm, Nat.max_comm]
end Go.Proofs.YthpapkfpcijpoaaDoor
/-
  THE SIZE OF A LIST OF NUMBERS, by the contract of the laws' helper.
-/
namespace Go.Proofs.YthpapkfpcijpoaaDoor
open Go.RowKit

end Go.Proofs.YthpapkfpcijpoaaDoor
/-
  PAINTINGS: the laws' own small functions at them (size, copy, comparison, marks), by their contracts.
-/
namespace Go.Proofs.YthpapkfpcijpoaaDoor
open Go.RowKit

/-- A call came back with a painting and a bool; its colours lie in memory of its own. -/
def GotPaintOk (w : World) (p k : Int) (l : List Int) (ok : Bool) (e : Ending) (w' : World) : Prop :=
  ∃ A c, e = .returned (.tuple #[.agg #[.int .i64 p, .int .i64 k, .slice A l.length c], .bool ok]) ∧ w'.ownsRow w.heap.size 3 1 (.slice A l.length c) l.length (icells l) ∧ Below w.heap.size w w'
/-- A call came back with a painting whose colours lie in memory of its own. -/
def GotPaint (w : World) (p k : Int) (l : List Int) (e : Ending) (w' : World) : Prop :=
  ∃ A c, e = .returned (.agg #[.int .i64 p, .int .i64 k, .slice A l.length c]) ∧ w'.ownsRow w.heap.size 3 1 (.slice A l.length c) l.length (icells l) ∧ Below w.heap.size w w'

set_option maxHeartbeats 1000000 in
theorem eqPainting_any (p q k j : Int) (l m : List Int) (A B : Option Addr) (c d : Nat) (w : World) (hl : l.length ≤ maxLen) (hm : m.length ≤ maxLen)
    (hA : CRead w w.heap.size A (icells l)) (hB : CRead w w.heap.size B (icells m)) :
    Calls Tryd.prog 32 #[.agg #[.int .i64 p, .int .i64 k, .slice A l.length c], .agg #[.int .i64 q, .int .i64 j, .slice B m.length d]] w fun e w' =>
      e = .returned (.bool (decide (p = q ∧ k = j ∧ l = m))) ∧ Below w.heap.size w w' := by
  by_cases hpq : p = q
  · subst hpq
    by_cases hkj : k = j
    · subst hkj
      by_cases hlm : l = m
      · have e : decide (p = p ∧ k = k ∧ l = m) = true := by simp [hlm]
        rw [e]
        clear e
        have Hlm := Lib.hid hlm
        clear hlm
        go_enter Tryd.func32, Tryd.ntmps32
        go_wp2_with (go_at_call 15; refine (eqIntS_any l m _ _ _ _ _ hl hm ((hA.below (B' := w.heap.size) (by go_grown) (Nat.le_refl _)).more (by go_size)) ((hB.below (B' := w.heap.size) (by go_grown) (Nat.le_refl _)).more (by go_size))).mono ?_; rw [decide_eq_true Hlm.out]; rintro e w2 ⟨rfl, hb2⟩; simp only [World.size_alloc] at hb2)
        go_ret
        exact ⟨rfl, Below.trans (b := _) (by go_grown) (hb2.mono (by omega))⟩
      · have e : decide (p = p ∧ k = k ∧ l = m) = false := by simp [hlm]
        rw [e]
        clear e
        have Hlm := Lib.hid hlm
        clear hlm
        go_enter Tryd.func32, Tryd.ntmps32
        go_wp2_with (go_at_call 15; refine (eqIntS_any l m _ _ _ _ _ hl hm ((hA.below (B' := w.heap.size) (by go_grown) (Nat.le_refl _)).more (by go_size)) ((hB.below (B' := w.heap.size) (by go_grown) (Nat.le_refl _)).more (by go_size))).mono ?_; rw [decide_eq_false Hlm.out]; rintro e w2 ⟨rfl, hb2⟩; simp only [World.size_alloc] at hb2)
        go_ret
        exact ⟨rfl, Below.trans (b := _) (by go_grown) (hb2.mono (by omega))⟩
    · have e : decide (p = p ∧ k = j ∧ l = m) = false := by simp [hkj]
      rw [e]
      clear e
      go_enter Tryd.func32, Tryd.ntmps32
      go_wp2
      go_ret
      exact ⟨rfl, by go_grown⟩
  · have e : decide (p = q ∧ k = j ∧ l = m) = false := by simp [hpq]
    rw [e]
    clear e
    go_enter Tryd.func32, Tryd.ntmps32
    go_wp2
    go_ret
    exact ⟨rfl, by go_grown⟩

set_option maxHeartbeats 1000000 in
theorem markPainting_any (p k : Int) (l : List Int) (A : Option Addr) (n c : Nat) (k0 : Int) (base : Nat) (w : World) (hn : l.length = n) (hl : n ≤ 1048576) (hk0 : 0 ≤ k0 ∧ k0 ≤ 16777216) (hown0 : w.ownsRow base 3 1 (.slice A n c) n (icells l)) :
    Calls Tryd.prog 33 #[.agg #[.int .i64 p, .int .i64 k, .slice A n c], .int .i64 k0] w fun e w' =>
      e = .returned (.int .i64 (k0 + n)) ∧ w'.ownsRow base 3 1 (.slice A n c) n (icells (imarks k0 n)) ∧ w.grownBy w' (Value.ownBlock (.slice A n c)) := by
  have Hn := Lib.hid hn
  clear hn
  have hk1 : 0 ≤ k0 + (n : Int) := by omega
  go_enter Tryd.func33, Tryd.ntmps33
  go_wp2_with (go_at_call 18; refine (markIntS_any l _ _ _ _ _ _ Hn.out hl hk0 (hown0.alloc _)).mono ?_; rintro e w2 ⟨rfl, hown2, hb2⟩)
  go_ret
  exact ⟨rfl, hown2, below_gb (B := w.heap.size) (by go_grown) hb2 (Nat.le_refl _)⟩

set_option maxHeartbeats 1000000 in
theorem heldPainting_any (p k : Int) (A : Option Addr) (n c : Nat) (k0 : Int) (w : World) (hl : n ≤ 1048576) (hk0 : 0 ≤ k0 ∧ k0 ≤ 16777216) (hA : CRead w w.heap.size A (icells (imarks k0 n))) :
    Calls Tryd.prog 34 #[.agg #[.int .i64 p, .int .i64 k, .slice A n c], .int .i64 k0] w fun e w' => e = .returned (.int .i64 (k0 + n)) ∧ Below w.heap.size w w' := by
  have hk1 : 0 ≤ k0 + (n : Int) := by omega
  go_enter Tryd.func34, Tryd.ntmps34
  go_wp2_with (go_at_call 19; refine (heldIntS_any _ _ _ _ _ hl hk0 ((hA.below (B' := w.heap.size) (by go_grown) (Nat.le_refl _)).more (by go_size))).mono ?_; rintro e w2 ⟨rfl, rfl⟩)
  go_ret
  exact ⟨rfl, by go_grown⟩
end Go.Proofs.YthpapkfpcijpoaaDoor
/-
  'IsPainting': the model's and the program's, by their contracts.
-/
namespace Go.Proofs.YthpapkfpcijpoaaDoor
open Go.RowKit

theorem isX_p {p k : Int} {l : List Int} (h : ¬ (0 ≤ p ∧ p ≤ 8)) : isX p k l = false := by simp [isX, h]
theorem isX_k {p k : Int} {l : List Int} (h : ¬ (1 ≤ k ∧ k ≤ 3)) : isX p k l = false := by simp [isX, h]
theorem isX_l {p k : Int} {l : List Int} (h : ¬ ((l.length : Int) = (p * (p - 1)).tdiv 2)) : isX p k l = false := by simp [isX, h]
theorem isX_else {p k : Int} {l : List Int} (h : 0 ≤ p ∧ p ≤ 8) (h1 : 1 ≤ k ∧ k ≤ 3) (h2 : (l.length : Int) = (p * (p - 1)).tdiv 2) : isX p k l = l1AllB l 0 (k - 1) := by simp [isX, h, h1, h2]
theorem sq_in {p : Int} (h : 0 ≤ p ∧ p ≤ 8) : 0 ≤ p * (p - 1) ∧ p * (p - 1) ≤ 1000 ∧ 0 ≤ (p * (p - 1)).tdiv 2 ∧ (p * (p - 1)).tdiv 2 ≤ 1000 := by
  have all : ∀ n : Fin 9, 0 ≤ (n.val : Int) * ((n.val : Int) - 1) ∧ (n.val : Int) * ((n.val : Int) - 1) ≤ 1000 ∧ 0 ≤ ((n.val : Int) * ((n.val : Int) - 1)).tdiv 2 ∧ ((n.val : Int) * ((n.val : Int) - 1)).tdiv 2 ≤ 1000 := by decide +kernel
  have := all ⟨p.toNat, by omega⟩
  simpa only [show ((p.toNat : Nat) : Int) = p from by omega] using this

set_option maxHeartbeats 2000000 in
set_option maxRecDepth 100000 in
theorem ptGood_any (p k : Int) (l : List Int) (A : Option Addr) (c : Nat) (w : World) (hl : l.length ≤ 1048576) (hA : CRead w w.heap.size A (icells l)) :
    Calls Tryd.prog 84 #[.agg #[.int .i64 p, .int .i64 k, .slice A l.length c]] w fun e w' => e = .returned (.bool (isX p k l)) ∧ Below w.heap.size w w' := by
  by_cases hp : 0 ≤ p ∧ p ≤ 8
  · obtain ⟨hp0, hp1⟩ := hp
    by_cases hk : 1 ≤ k ∧ k ≤ 3
    · obtain ⟨hk0, hk1⟩ := hk
      obtain ⟨q0, q1, r0, r1⟩ := sq_in ⟨hp0, hp1⟩
      have w1 : IntKind.i64.wrap (p * (p - 1)) = p * (p - 1) := wrap_small (by omega)
      have w2 : IntKind.i64.wrap ((p * (p - 1)).tdiv 2) = (p * (p - 1)).tdiv 2 := wrap_small (by omega)
      by_cases hlen : (l.length : Int) = (p * (p - 1)).tdiv 2
      · rw [isX_else ⟨hp0, hp1⟩ ⟨hk0, hk1⟩ hlen]
        have hb : ((l.length : Int) == (p * (p - 1)).tdiv 2) = true := beq_iff_eq.2 hlen
        clear hlen
        go_enter Tryd.func84, Tryd.ntmps84
        go_wp2_with fail
        refine (l1In_yes p 0 8 hp0 hp1 _).mono ?_
        rintro e w' ⟨rfl, rfl⟩
        go_wp2_with fail
        refine (l1In_yes k 1 3 hk0 hk1 _).mono ?_
        rintro e w' ⟨rfl, rfl⟩
        go_wp2_with fail
        refine (l1All_any l A c 0 (k - 1) _ hl ((hA.below (B' := w.heap.size) (by go_grown) (Nat.le_refl _)).more (by go_size))).mono ?_
        rintro e w2 ⟨rfl, rfl⟩
        go_wp2
        go_ret
        exact ⟨rfl, by go_grown⟩
      · rw [isX_l hlen]
        have hb : ((l.length : Int) == (p * (p - 1)).tdiv 2) = false := by simp [hlen]
        clear hlen
        go_enter Tryd.func84, Tryd.ntmps84
        go_wp2_with fail
        refine (l1In_yes p 0 8 hp0 hp1 _).mono ?_
        rintro e w' ⟨rfl, rfl⟩
        go_wp2_with fail
        refine (l1In_yes k 1 3 hk0 hk1 _).mono ?_
        rintro e w' ⟨rfl, rfl⟩
        go_wp2
        go_ret
        exact ⟨rfl, by go_grown⟩
    · rw [isX_k hk]
      go_enter Tryd.func84, Tryd.ntmps84
      go_wp2_with fail
      refine (l1In_yes p 0 8 hp0 hp1 _).mono ?_
      rintro e w' ⟨rfl, rfl⟩
      go_wp2_with fail
      refine (l1In_no k 1 3 (by omega) _).mono ?_
      rintro e w' ⟨rfl, rfl⟩
      go_wp2
      go_ret
      exact ⟨rfl, by go_grown⟩
  · rw [isX_p hp]
    go_enter Tryd.func84, Tryd.ntmps84
    go_wp2_with fail
    refine (l1In_no p 0 8 (by omega) _).mono ?_
    rintro e w' ⟨rfl, rfl⟩
    go_wp2
    go_ret
    exact ⟨rfl, by go_grown⟩
def resIsPainting (p k : Int) (l : List Int) : Bool := isX p k l

/-- what the program asks of a colour -/
def isColB (k x : Int) : Bool := decide (0 ≤ x) && decide (x < k)
set_option maxHeartbeats 1000000 in
theorem isColour_any (p k : Int) (l : List Int) (A : Option Addr) (c : Nat) (x : Int) (w : World) :
    Calls Tryd.prog 102 #[.agg #[.int .i64 p, .int .i64 k, .slice A l.length c], .int .i64 x] w fun e w' => e = .returned (.bool (isColB k x)) ∧ Below w.heap.size w w' := by
  by_cases h0 : 0 ≤ x
  · by_cases h1 : x < k
    · have e : isColB k x = true := by simp [isColB, h0, h1]
      rw [e]
      clear e
      go_enter Tryd.func102, Tryd.ntmps102
      go_wp2
      go_ret
      exact ⟨rfl, by go_grown⟩
    · have e : isColB k x = false := by simp [isColB, h1]
      rw [e]
      clear e
      go_enter Tryd.func102, Tryd.ntmps102
      go_wp2
      go_ret
      exact ⟨rfl, by go_grown⟩
  · have e : isColB k x = false := by simp [isColB, h0]
    rw [e]
    clear e
    go_enter Tryd.func102, Tryd.ntmps102
    go_wp2
    go_ret
    exact ⟨rfl, by go_grown⟩
set_option maxHeartbeats 1000000 in
theorem isNone_any (p k : Int) (l : List Int) (A : Option Addr) (c g : Nat) (x : Int) (w : World) (g0 : w.cell? ⟨g, 0, none⟩ = some (.int .i64 p)) (g1 : w.cell? ⟨g, 1, none⟩ = some (.int .i64 k)) (g2 : w.cell? ⟨g, 2, none⟩ = some (.slice A l.length c)) :
    Calls Tryd.prog 101 #[.int .i64 x, .pointer (some ⟨g, 0, none⟩)] w fun e w' => e = .returned (.bool (!isColB k x)) ∧ Below w.heap.size w w' := by
  go_enter Tryd.func101, Tryd.ntmps101
  go_wp2_with fail
  refine (isColour_any p k l A c x _).mono ?_
  rintro e w2 ⟨rfl, hb2⟩
  go_wp2
  go_ret
  exact ⟨rfl, hb2⟩
theorem any_noI {l : List Int} {f : Int → Bool} (h : ∀ (j : Nat) (x : Int), j < l.length → l[j]? = some x → f x = false) : l.any f = false := by
  rw [List.any_eq_false]
  intro x hx
  obtain ⟨j, hj, e⟩ := List.getElem_of_mem hx
  rw [h j x hj (by rw [List.getElem?_eq_getElem hj, e])]
  simp
set_option maxHeartbeats 4000000 in
set_option maxRecDepth 100000 in
theorem indexNone_any (p k : Int) (l : List Int) (A : Option Addr) (c g : Nat) (w : World) (hl : l.length ≤ 1048576) (hg : g < w.heap.size) (g0 : w.cell? ⟨g, 0, none⟩ = some (.int .i64 p)) (g1 : w.cell? ⟨g, 1, none⟩ = some (.int .i64 k)) (g2 : w.cell? ⟨g, 2, none⟩ = some (.slice A l.length c)) (hA : CRead w w.heap.size A (icells l)) :
    Calls Tryd.prog 115 #[.slice A l.length c, .func (.func 101) #[] #[.pointer (some ⟨g, 0, none⟩)]] w fun e w' => ∃ i : Int, e = .returned (.int .i64 i) ∧ decide (0 ≤ i) = l.any (fun x => !isColB k x) ∧ Below w.heap.size w w' := by
  go_enter Tryd.func115, Tryd.ntmps115
  go_wp2
  go_loopw [8] (fun i wr => ∃ j : Nat, j ≤ l.length ∧ i = .int .i64 j ∧ Below w.heap.size w wr ∧ ∀ (m : Nat) (x : Int), m < j → l[m]? = some x → (!isColB k x) = false) (fun i _ => l.length - (intOf i).toNat)
  case atStart => exact ⟨0, Nat.zero_le _, rfl, Below.refl _ _, fun m x hm => by omega⟩
  case round =>
    obtain ⟨j, hj, rfl, hb, hall⟩ := hrel
    have Hall := Lib.hid hall
    clear hall
    have s0 := hb.size
    have g0' := carry hb g0 hg
    have g1' := carry hb g1 hg
    have g2' := carry hb g2 hg
    by_cases hlt : j < l.length
    · obtain ⟨x, hx⟩ := getSome l j hlt
      obtain ⟨bb, off, rfl, hbb, c0⟩ := (hA.below hb (Nat.le_refl _)).int hx
      have call := isNone_any p k l (some ⟨bb, off, none⟩) c g x wr g0' g1' g2'
      obtain ⟨r, hr⟩ : ∃ r, (!isColB k x) = r := ⟨_, rfl⟩
      rw [hr] at call
      have hki : (j : Int) < (l.length : Int) := by omega
      have Hx := Lib.hid hx
      have Hr := Lib.hid hr
      have Call := Lib.hid call
      clear hx hr call
      go_wp2_with fail
      refine Call.out.mono ?_
      rintro e w2 ⟨rfl, hb2⟩
      have k2 := hb.trans (hb2.mono s0)
      cases r with
      | true =>
        have Hf := Lib.hid (show l.any (fun x => !isColB k x) = true from List.any_eq_true.2 ⟨_, List.mem_of_getElem? Hx.out, Hr.out⟩)
        go_wp2
        go_ret
        exact ⟨(j : Int), rfl, by rw [Hf.out]; exact decide_eq_true (by omega), k2⟩
      | false =>
        go_wp2
        go_roundw
        case rel => exact ⟨j + 1, by omega, by go_num, k2, fun m y hm hy => by
                      by_cases hmj : m = j
                      · subst hmj
                        rw [Hx.out] at hy
                        rw [← Option.some.inj hy]
                        exact Hr.out
                      · exact Hall.out m y (by omega) hy⟩
        case measure => simp [intOf]; omega
    · have hjl : j = l.length := by omega
      have hge : ¬ ((j : Int) < (l.length : Int)) := by omega
      have Hf := Lib.hid (any_noI (l := l) (f := fun x => !isColB k x) fun m x hm hx => Hall.out m x (by omega) hx)
      go_wp2
      go_ret
      exact ⟨-1, rfl, by rw [Hf.out]; rfl, hb⟩
set_option maxHeartbeats 1000000 in
theorem hasNone_any (p k : Int) (l : List Int) (A : Option Addr) (c g : Nat) (w : World) (hl : l.length ≤ 1048576) (hg : g < w.heap.size) (g0 : w.cell? ⟨g, 0, none⟩ = some (.int .i64 p)) (g1 : w.cell? ⟨g, 1, none⟩ = some (.int .i64 k)) (g2 : w.cell? ⟨g, 2, none⟩ = some (.slice A l.length c)) (hA : CRead w w.heap.size A (icells l)) :
    Calls Tryd.prog 104 #[.slice A l.length c, .func (.func 101) #[] #[.pointer (some ⟨g, 0, none⟩)]] w fun e w' => e = .returned (.bool (l.any (fun x => !isColB k x))) ∧ Below w.heap.size w w' := by
  obtain ⟨r, hr⟩ : ∃ r, (l.any fun x => !isColB k x) = r := ⟨_, rfl⟩
  rw [hr]
  have Hr := Lib.hid hr
  clear hr
  go_enter Tryd.func104, Tryd.ntmps104
  go_wp2_with fail
  refine (indexNone_any p k l A c g _ hl hg g0 g1 g2 hA).mono ?_
  rintro e w2 ⟨i, rfl, hi, hb2⟩
  rw [Hr.out] at hi
  by_cases h : 0 ≤ i
  · rw [decide_eq_true h] at hi
    subst hi
    go_wp2
    go_ret
    exact ⟨rfl, hb2⟩
  · rw [decide_eq_false h] at hi
    subst hi
    go_wp2
    go_ret
    exact ⟨by show Ending.returned (Value.bool (decide (0 ≤ i))) = _; rw [decide_eq_false (by omega)], hb2⟩
theorem none_all {k : Int} {l : List Int} : (!l.any fun x => !isColB k x) = l1AllB l 0 (k - 1) := by
  unfold l1AllB
  induction l with
  | nil => rfl
  | cons x l ih =>
    rw [List.any_cons, List.all_cons, ← ih]
    have : decide (0 ≤ x ∧ x ≤ k - 1) = isColB k x := by
      unfold isColB
      by_cases h0 : 0 ≤ x <;> by_cases h1 : x < k <;> simp [h0, h1] <;> omega
    rw [this]
    cases isColB k x <;> simp
set_option maxHeartbeats 4000000 in
set_option maxRecDepth 100000 in
theorem isPainting_any (p k : Int) (l : List Int) (A : Option Addr) (c : Nat) (w : World) (hl : l.length ≤ 1048576) (hA : CRead w w.heap.size A (icells l)) :
    Calls Tryd.prog 87 #[.agg #[.int .i64 p, .int .i64 k, .slice A l.length c]] w fun e w' => e = .returned (.bool (isX p k l)) ∧ Below w.heap.size w w' := by
  have hmf : ∀ (fn : Fn) (first cap : Array Value) (w : World), (Instr.makeFunc fn first cap).run Tryd.prog w = .ok (.func fn first cap) w := fun _ _ _ _ => rfl
  by_cases hp0 : p < 0
  · rw [isX_p (by omega)]
    go_enter Tryd.func87, Tryd.ntmps87
    go_wp2
    go_ret
    exact ⟨rfl, by go_grown⟩
  · by_cases hp1 : 8 < p
    · rw [isX_p (by omega)]
      go_enter Tryd.func87, Tryd.ntmps87
      go_wp2
      go_ret
      exact ⟨rfl, by go_grown⟩
    · by_cases hk0 : k < 1
      · rw [isX_k (by omega)]
        go_enter Tryd.func87, Tryd.ntmps87
        go_wp2
        go_ret
        exact ⟨rfl, by go_grown⟩
      · by_cases hk1 : 3 < k
        · rw [isX_k (by omega)]
          go_enter Tryd.func87, Tryd.ntmps87
          go_wp2
          go_ret
          exact ⟨rfl, by go_grown⟩
        · have hp : 0 ≤ p ∧ p ≤ 8 := by omega
          have hiw : InWays p 2 := .inr (by omega)
          obtain ⟨M, hM⟩ : ∃ M, waysI p 2 = M := ⟨_, rfl⟩
          have hcnt := (count_of hp).2.2
          have ways := fun X : World => waysToChoose_any p 2 X hiw
          simp only [hM] at hcnt ways
          obtain ⟨X, hX⟩ : ∃ X, w.alloc (Obj.cells #[.int .i64 p, .int .i64 k, .slice A l.length c] 47) = X := ⟨_, rfl⟩
          have x0 : X.cell? ⟨w.heap.size, 0, none⟩ = some (.int .i64 p) := by rw [← hX]; simp
          have x1 : X.cell? ⟨w.heap.size, 1, none⟩ = some (.int .i64 k) := by rw [← hX]; simp
          have x2 : X.cell? ⟨w.heap.size, 2, none⟩ = some (.slice A l.length c) := by rw [← hX]; simp
          have kX : Below w.heap.size w X := by rw [← hX]; go_grown
          have sX : w.heap.size < X.heap.size := by rw [← hX]; simp
          have RA : CRead X X.heap.size A (icells l) := (hA.below kX (Nat.le_refl _)).more kX.size
          have e0 : ∀ z : Ext X.heap.size X, z.val.cell? ⟨w.heap.size, 0, none⟩ = some (.int .i64 p) := fun z => z.cell x0 sX
          have e1 : ∀ z : Ext X.heap.size X, z.val.cell? ⟨w.heap.size, 1, none⟩ = some (.int .i64 k) := fun z => z.cell x1 sX
          have e2 : ∀ z : Ext X.heap.size X, z.val.cell? ⟨w.heap.size, 2, none⟩ = some (.slice A l.length c) := fun z => z.cell x2 sX
          obtain ⟨r, hr⟩ : ∃ r, (l.any fun x => !isColB k x) = r := ⟨_, rfl⟩
          have call := fun z : Ext X.heap.size X => hasNone_any p k l A c w.heap.size z.val hl (Nat.lt_of_lt_of_le sX z.2.size) (e0 z) (e1 z) (e2 z) ((RA.below z.2 (Nat.le_refl _)).more z.2.size)
          simp only [hr] at call
          have Ways := Lib.hid ways
          have Call := Lib.hid call
          have HX := Lib.hid hX
          have Hcnt := Lib.hid hcnt
          clear hX ways hM hcnt call RA
          by_cases hlen : (l.length : Int) = M
          · have e : isX p k l = !r := by rw [isX_else hp (by omega) (by rw [hlen, Hcnt.out]), ← none_all, hr]
            have hb : ((l.length : Int) == M) = true := beq_iff_eq.2 hlen
            rw [e]
            clear hlen e hr
            go_enter Tryd.func87, Tryd.ntmps87
            go_wp2_with fail
            rw [HX.out]
            refine wp_region_ext X.heap.size (by kernel_rfl) (by kernel_rfl) ?_
            repeat (go_big_quiet_step ((first | (go_at_call 103; exact Calls.ext_of ((Ways.out _).mono fun _ _ h => ⟨h.1, h.2 ▸ Below.refl _ _⟩)) | (go_at_call 104; exact Calls.ext_of ((Call.out _).mono fun _ _ h => ⟨h.1, h.2.mono (Ext.size _)⟩)))))
            refine wpQuiet_nil ?_
            rintro w1 ⟨⟨_, hb1⟩, rfl⟩
            clear e0 e1 e2
            go_wp2
            go_ret
            exact ⟨rfl, kX.trans (hb1.mono kX.size)⟩
          · have e : isX p k l = false := isX_l (by rw [← Hcnt.out]; exact hlen)
            have hb : ((l.length : Int) == M) = false := by simp [hlen]
            rw [e]
            clear hlen e hr
            go_enter Tryd.func87, Tryd.ntmps87
            go_wp2_with fail
            rw [HX.out]
            refine wp_region_ext X.heap.size (by kernel_rfl) (by kernel_rfl) ?_
            repeat (go_big_quiet_step ((first | (go_at_call 103; exact Calls.ext_of ((Ways.out _).mono fun _ _ h => ⟨h.1, h.2 ▸ Below.refl _ _⟩)) | (go_at_call 104; exact Calls.ext_of ((Call.out _).mono fun _ _ h => ⟨h.1, h.2.mono (Ext.size _)⟩)))))
            refine wpQuiet_nil ?_
            rintro w1 ⟨⟨_, hb1⟩, rfl⟩
            clear e0 e1 e2
            go_wp2
            go_ret
            exact ⟨rfl, kX.trans (hb1.mono kX.size)⟩
theorem implIsPainting_any (p k : Int) (l : List Int) (A : Option Addr) (c : Nat) (w : World) (hl : l.length ≤ 1048576) (hA : CRead w w.heap.size A (icells l)) :
    Calls Tryd.prog 87 #[.agg #[.int .i64 p, .int .i64 k, .slice A l.length c]] w fun e w' => e = .returned (.bool (resIsPainting p k l)) ∧ Below w.heap.size w w' := isPainting_any p k l A c w hl hA
end Go.Proofs.YthpapkfpcijpoaaDoor
/-
  ALL PAIRS: 'everyPair', by its contract.
-/
namespace Go.Proofs.YthpapkfpcijpoaaDoor
open Go.RowKit

theorem otherP_nil (n : Nat) : otherP n [] = allP n := by
  unfold otherP
  rw [List.filter_eq_self]
  intro q _
  rfl
theorem Tryd.run_pairsE (a b : Value) (X : World) : (Instr.field 31 (.agg #[a, b]) 1).run Tryd.prog X = .ok b X := by
  simp [Instr.field, go_sem]
  rfl
set_option maxHeartbeats 1000000 in
set_option maxRecDepth 100000 in
theorem everyPair_any (n : Nat) (hn : n ≤ 12) (w : World) :
    Calls Tryd.prog 61 #[.int .i64 n] w fun e w' => ∃ A c, e = .returned (.slice A (allP n).length c) ∧ w'.ownsRow w.heap.size 85 2 (.slice A (allP n).length c) (allP n).length (pcells (allP n)) ∧ Below w.heap.size w w' := by
  have hp : isP (n : Int) [] = true := by unfold isP; simp; omega
  have call := fun X : World => other_any (n : Int) [] none 0 X hp CRead.nil
  rw [Int.toNat_natCast, otherP_nil] at call
  have Call := Lib.hid call
  have hf := Tryd.run_pairsE
  clear call hp
  go_enter Tryd.func61, Tryd.ntmps61
  go_wp2_with fail
  refine (Call.out _).mono ?_
  rintro e w2 ⟨A2, c2, rfl, own2, hb2⟩
  go_wp2
  go_ret
  exact ⟨A2, c2, rfl, own2, hb2⟩
end Go.Proofs.YthpapkfpcijpoaaDoor
/-
  'WidestDistance': the model's and the program's, by their contracts.
-/
namespace Go.Proofs.YthpapkfpcijpoaaDoor
open Go.RowKit

set_option maxHeartbeats 1000000 in
set_option maxRecDepth 100000 in
theorem specWidestDistance_any (p : Int) (l : PL) (A : Option Addr) (c : Nat) (w : World) (hl : l.length ≤ 1048576) (hA : CRead w w.heap.size A (pcells l)) :
    Calls Tryd.prog 26 #[.agg #[.int .i64 p, .slice A l.length c]] w fun e w' => e = .returned (.tuple #[.int .i64 (resWidestDistance p l).1, .bool (resWidestDistance p l).2]) ∧ Below w.heap.size w w' := by
  have hr : CRead (w.alloc (Obj.cells #[.int .i64 p, .slice A l.length c] 31)) (w.alloc (Obj.cells #[.int .i64 p, .slice A l.length c] 31)).heap.size A (pcells l) := (hA.below (B' := w.heap.size) (by go_grown) (Nat.le_refl _)).more (by go_size)
  obtain ⟨⟨rv, rok⟩, hres⟩ : ∃ x, resWidestDistance p l = x := ⟨_, rfl⟩
  rw [hres]
  cases hs : isP p l && decide (0 < p) with
  | false =>
    have e : (rv, rok) = (0, false) := by rw [← hres]; unfold resWidestDistance; rw [hs, Bool.false_and]; rfl
    simp only [Prod.mk.injEq] at e
    obtain ⟨rfl, rfl⟩ := e
    have call := cfSome_any p l A c _ hl hr
    rw [hs] at call
    have Call := Lib.hid call
    clear call hs hres
    go_enter Tryd.func26, Tryd.ntmps26
    go_wp2_with fail
    refine Call.out.mono ?_
    rintro e w2 ⟨rfl, hb2⟩
    simp only [World.size_alloc] at hb2
    go_wp2
    go_ret2
    exact ⟨rfl, Below.trans (b := _) (by go_grown) (hb2.mono (by omega))⟩
  | true =>
    have call := cfSome_any p l A c _ hl hr
    have hs2 := hs
    rw [Bool.and_eq_true] at hs2
    obtain ⟨hp, h0⟩ := hs2
    have h0 : 0 < p := of_decide_eq_true h0
    obtain ⟨n, rfl⟩ : ∃ n : Nat, p = n := ⟨p.toNat, by omega⟩
    have hn := isP_range hp
    have hn12 : n ≤ 12 := by omega
    have e : (rv, rok) = if hangB n (adj l) then (wideL (distO n (adj l)) (allP n), true) else (0, false) := by rw [← hres]; unfold resWidestDistance; rw [hs, Bool.true_and]; rfl
    have hwide := wide_all (adj_comm l) (adj_lt hp)
    have hno := fun (x y : Nat) => hang_no (x := x) (y := y) (adj_comm l) (adj_lt hp)
    have hyes := hang_yes (n := n) (t := adj l)
    have Hlt := Lib.hid (adj_lt hp)
    have htab := fun (X : World) (hX : CRead X X.heap.size A (pcells l)) => paTable_any n l A c X hp hX
    have hcf := fun (x : Nat) (hx : x < n) (A : Option Addr) (c : Nat) (G : Nat → Nat) (B : Nat) (X : World) (tab : TabG X B (.slice A n c) n n G (adj l)) => cfDistances_any n x (adj l) A c G B X hn12 hx Hlt.out tab
    have hge := fun x y => distO_ge n (adj l) x y
    obtain ⟨D, hD⟩ : ∃ D, distO n (adj l) = D := ⟨_, rfl⟩
    rw [hD] at hwide e hge
    simp only [hD] at hno hyes hcf
    have E := Lib.hid e
    have Hwide := Lib.hid hwide
    have Hno := Lib.hid hno
    have Hyes := Lib.hid hyes
    have Htab := Lib.hid htab
    have Hcf := Lib.hid hcf
    have Hge := Lib.hid hge
    rw [hs] at call
    have Call := Lib.hid call
    clear call hs hres hp e hwide hno hyes hD htab hcf hge
    go_enter Tryd.func26, Tryd.ntmps26
    go_wp2_with fail
    refine Call.out.mono ?_
    rintro e w2 ⟨rfl, hb2⟩
    have s2 := hb2.size
    have k2 : Below w.heap.size w w2 := Below.trans (b := _) (by go_grown) (hb2.mono (by simp))
    have c0 : w2.cell? ⟨w.heap.size, 0, none⟩ = some (.int .i64 n) := carry hb2 (by simp) (by simp)
    have c1 : w2.cell? ⟨w.heap.size, 1, none⟩ = some (.slice A l.length c) := carry hb2 (by simp) (by simp)
    simp only [World.size_alloc] at s2
    go_wp2_with fail
    refine (Htab.out _ ((hA.below k2 (Nat.le_refl _)).more k2.size)).mono ?_
    rw [Int.toNat_natCast]
    rintro e w3 ⟨A3, c3, G, rfl, tab, hb3⟩
    have k3 := k2.trans (hb3.mono k2.size)
    have Tab := Lib.hid tab
    clear tab hb3 hb2 k2 c0 c1
    go_wp2
    go_loopw [5, 16] (fun m i wr => ∃ (M : Int) (k : Nat), k ≤ n ∧ i = .int .i64 k ∧ m = .int .i64 M ∧ 0 ≤ M ∧ (∀ x y, x < k → y < n → 0 ≤ D x y ∧ D x y ≤ M) ∧ (M = 0 ∨ ∃ x y, x < n ∧ y < n ∧ D x y = M) ∧ Below w3.heap.size w3 wr) (fun _ i _ => n - (intOf i).toNat)
    case atStart => exact ⟨0, 0, Nat.zero_le _, rfl, rfl, Int.le_refl _, fun x y hx => by omega, .inl rfl, Below.refl _ _⟩
    case round =>
      obtain ⟨M, k, hk, rfl, rfl, hM, hall, hat, hb⟩ := hrel
      have Hall := Lib.hid hall
      have Hat := Lib.hid hat
      clear hall hat
      by_cases hlt : k < n
      · have hki : (k : Int) < (n : Int) := by omega
        have Hb := Lib.hid hb
        clear hb
        go_wp2_with fail
        refine (Hcf.out k hlt A3 c3 G _ _ (Tab.out.below Hb.out (Nat.le_refl _))).mono ?_
        rintro e w4 ⟨g4, rfl, own4, hb4⟩
        have k4 := Hb.out.trans (hb4.mono Hb.out.size)
        have hc : ∀ j, j < n → w4.cell? ⟨g4, j, none⟩ = some (.int .i64 (D k j)) := fun j hj => own_intAt own4 (by rw [List.getElem?_map, List.getElem?_range hj]; rfl)
        have Hc := Lib.hid hc
        have K4 := Lib.hid k4
        clear hc own4 k4 hb4
        go_wp2
        go_loop [5, 23] (fun m i => ∃ (M' : Int) (j : Nat), j ≤ n ∧ i = .int .i64 j ∧ m = .int .i64 M' ∧ M ≤ M' ∧ (∀ y, y < j → 0 ≤ D k y ∧ D k y ≤ M') ∧ (M' = 0 ∨ ∃ x y, x < n ∧ y < n ∧ D x y = M')) (fun _ i => n - (intOf i).toNat)
        case atStart => exact ⟨M, 0, Nat.zero_le _, rfl, rfl, Int.le_refl _, fun y hy => by omega, Hat.out⟩
        case round =>
          obtain ⟨M', j, hj, rfl, rfl, hMM, hall2, hat2⟩ := hrel
          have Hall2 := Lib.hid hall2
          have Hat2 := Lib.hid hat2
          clear hall2 hat2
          by_cases hlt2 : j < n
          · have hji : (j : Int) < (n : Int) := by omega
            have cj := Hc.out j hlt2
            by_cases hneg : D k j < 0
            · have e := E.out
              rw [Hno.out k j hlt hlt2 hneg, if_neg (by decide)] at e
              simp only [Prod.mk.injEq] at e
              obtain ⟨rfl, rfl⟩ := e
              obtain ⟨d, hd⟩ : ∃ d, D k j = d := ⟨_, rfl⟩
              rw [hd] at cj hneg
              clear hd
              go_wp2
              go_ret2
              exact ⟨rfl, k3.trans (K4.out.mono k3.size)⟩
            · have hnx : (∀ y, y < j + 1 → 0 ≤ D k y ∧ D k y ≤ max M' (D k j)) := fun y hy => by
                by_cases hyj : y = j
                · subst hyj; omega
                · have := Hall2.out y (by omega); omega
              have hna : (max M' (D k j) = 0 ∨ ∃ x y, x < n ∧ y < n ∧ D x y = max M' (D k j)) := by
                by_cases hm : M' ≤ D k j
                · right; exact ⟨k, j, hlt, hlt2, by omega⟩
                · rw [show max M' (D k j) = M' by omega]; exact Hat2.out
              obtain ⟨d, hd⟩ : ∃ d, D k j = d := ⟨_, rfl⟩
              rw [hd] at cj hneg hnx hna
              have Hnx := Lib.hid hnx
              have Hna := Lib.hid hna
              clear hd hnx hna
              go_wp2_with fail
              refine (l1Most_any M' d _).mono ?_
              rintro e w5 ⟨rfl, rfl⟩
              obtain ⟨M2, hM2⟩ : ∃ M2, max M' d = M2 := ⟨_, rfl⟩
              have hMM2 : M ≤ M2 := by omega
              rw [hM2] at Hnx Hna ⊢
              clear hM2
              go_wp2
              go_round
              case rel => exact ⟨M2, j + 1, by omega, by go_num, rfl, hMM2, Hnx.out, Hna.out⟩
              case measure => simp [intOf]; omega
          · have e : j = n := by omega
            subst e
            have hge2 : ¬ ((j : Int) < (j : Int)) := by omega
            have hnx : ∀ x y, x < k + 1 → y < j → 0 ≤ D x y ∧ D x y ≤ M' := fun x y hx hy => by
              by_cases hxk : x = k
              · subst hxk; exact Hall2.out y hy
              · have := Hall.out x y (by omega) hy; omega
            have Hnx := Lib.hid hnx
            clear hnx
            go_wp2
            go_roundw
            case rel => exact ⟨M', k + 1, by omega, by go_num, rfl, by omega, Hnx.out, Hat2.out, K4.out⟩
            case measure => simp [intOf]; omega
      · have e : k = n := by omega
        subst e
        have hge : ¬ ((k : Int) < (k : Int)) := by omega
        have hw : IsWide k D M := ⟨hM, fun x y hx hy => (Hall.out x y hx hy).2, Hat.out⟩
        have e := E.out
        rw [Hyes.out (fun x y hx hy => (Hall.out x y hx hy).1), if_pos rfl, Hwide.out.unique hw] at e
        simp only [Prod.mk.injEq] at e
        obtain ⟨rfl, rfl⟩ := e
        clear hw
        go_wp2
        go_ret2
        exact ⟨rfl, k3.trans (hb.mono k3.size)⟩
set_option maxHeartbeats 1000000 in
set_option maxRecDepth 100000 in
theorem implWidestDistance_any (p : Int) (l : PL) (A : Option Addr) (c : Nat) (w : World) (hl : l.length ≤ 1048576) (hA : CRead w w.heap.size A (pcells l)) (htab : TabW w) :
    Calls Tryd.prog 27 #[.agg #[.int .i64 p, .slice A l.length c]] w fun e w' => e = .returned (.tuple #[.int .i64 (resWidestDistance p l).1, .bool (resWidestDistance p l).2]) ∧ Below w.heap.size w w' := by
  have hr : CRead (w.alloc (Obj.cells #[.int .i64 p, .slice A l.length c] 31)) (w.alloc (Obj.cells #[.int .i64 p, .slice A l.length c] 31)).heap.size A (pcells l) := (hA.below (B' := w.heap.size) (by go_grown) (Nat.le_refl _)).more (by go_size)
  obtain ⟨⟨rv, rok⟩, hres⟩ : ∃ x, resWidestDistance p l = x := ⟨_, rfl⟩
  rw [hres]
  have HTab := Lib.hid htab
  have hpos := htab.pos
  clear htab
  cases hp : isP p l with
  | false =>
    have e : (rv, rok) = (0, false) := by rw [← hres]; unfold resWidestDistance; rw [hp]; rfl
    simp only [Prod.mk.injEq] at e
    obtain ⟨rfl, rfl⟩ := e
    have Hp := Lib.hid hp
    clear hp hres
    go_enter Tryd.func27, Tryd.ntmps27
    go_wp2_with fail
    refine (isParty_any _ _ _ _ _ hl hr).mono ?_
    rw [Hp.out]
    rintro e w2 ⟨rfl, hb2⟩
    simp only [World.size_alloc] at hb2
    go_wp2
    go_ret2
    exact ⟨rfl, Below.trans (b := _) (by go_grown) (hb2.mono (by omega))⟩
  | true =>
    obtain ⟨n, rfl⟩ : ∃ n : Nat, p = n := ⟨p.toNat, by have := isP_range hp; omega⟩
    have hn := isP_range hp
    have hn12 : n ≤ 12 := by omega
    by_cases h0 : n = 0
    · have e : (rv, rok) = (0, false) := by rw [← hres]; unfold resWidestDistance; rw [decide_eq_false (show ¬ ((0 : Int) < (n : Int)) by omega)]; simp
      simp only [Prod.mk.injEq] at e
      obtain ⟨rfl, rfl⟩ := e
      have Hp := Lib.hid hp
      have Hz := Lib.hid h0
      clear hp hres h0
      go_enter Tryd.func27, Tryd.ntmps27
      go_wp2_with fail
      refine (isParty_any _ _ _ _ _ hl hr).mono ?_
      rw [Hp.out]
      rintro e w2 ⟨rfl, hb2⟩
      have c0 : w2.cell? ⟨w.heap.size, 0, none⟩ = some (.int .i64 n) := carry hb2 (by simp) (by simp)
      have hz : ((n : Int) == 0) = true := by have := Hz.out; rw [this]; rfl
      simp only [World.size_alloc] at hb2
      go_wp2
      go_ret2
      exact ⟨rfl, Below.trans (b := _) (by go_grown) (hb2.mono (by omega))⟩
    · have hz : ((n : Int) == 0) = false := by simp only [beq_eq_false_iff_ne, ne_eq]; omega
      have e : (rv, rok) = if hangB n (adj l) then (wideL (distO n (adj l)) (allP n), true) else (0, false) := by
        rw [← hres]; unfold resWidestDistance; rw [hp, decide_eq_true (show (0 : Int) < n by omega)]; rfl
      have hno := fun (x y : Nat) => hang_no (n := n) (x := x) (y := y) (adj_comm l) (adj_lt hp)
      have hdist := fun (x y : Nat) (hx : x < n) (hy : y < n) (v : World) (hv : TabW v) => distance_any (friendsT_of hp) (n := n) hn12 hx hy (adj_lt hp) v hv
      have hyes : (∀ q ∈ allP n, 0 ≤ distO n (adj l) q.1.toNat q.2.toNat) → hangB n (adj l) = true := fun h => by
        unfold hangB; rw [List.all_eq_true]; exact fun q hq => decide_eq_true (h q hq)
      have hpl : ∀ q ∈ allP n, 0 ≤ q.1 ∧ q.1 < q.2 ∧ q.2 < n := fun q hq => mem_allP.1 hq
      have hlen := allP_length_le (n := n) hn12
      have hev := fun X : World => everyPair_any n hn12 X
      obtain ⟨D, hD⟩ : ∃ D, distO n (adj l) = D := ⟨_, rfl⟩
      rw [hD] at e
      simp only [hD] at hno hyes hdist
      obtain ⟨L, hL⟩ : ∃ L, allP n = L := ⟨_, rfl⟩
      rw [hL] at e hyes hpl hlen
      simp only [hL] at hev
      unfold tcells at hdist
      have E := Lib.hid e
      have Hno := Lib.hid hno
      have Hyes := Lib.hid hyes
      have Hpl := Lib.hid hpl
      have Hev := Lib.hid hev
      have Hdist := Lib.hid hdist
      have Hp := Lib.hid hp
      clear hp hres e hno hyes hpl hev hdist hD hL
      go_enter Tryd.func27, Tryd.ntmps27
      go_wp2_with fail
      refine (isParty_any _ _ _ _ _ hl hr).mono ?_
      rw [Hp.out]
      rintro e w2 ⟨rfl, hb2⟩
      have s2 := hb2.size
      have k2 : Below w.heap.size w w2 := Below.trans (b := _) (by go_grown) (hb2.mono (by simp))
      have c0 : w2.cell? ⟨w.heap.size, 0, none⟩ = some (.int .i64 n) := carry hb2 (by simp) (by simp)
      have c1 : w2.cell? ⟨w.heap.size, 1, none⟩ = some (.slice A l.length c) := carry hb2 (by simp) (by simp)
      simp only [World.size_alloc] at s2
      go_wp2_with fail
      refine (friendsIn_any _ l A c _ Hp.out ((hA.below k2 (Nat.le_refl _)).more k2.size)).mono ?_
      rintro e w3 ⟨rfl, _, hb3⟩
      have k3 := k2.trans (hb3.mono k2.size)
      have d0 : w3.cell? ⟨w.heap.size, 0, none⟩ = some (.int .i64 n) := carry hb3 c0 (by omega)
      obtain ⟨X, hX⟩ : ∃ X, w3.alloc (Obj.cells (tcells (friendsT l)) 66) = X := ⟨_, rfl⟩
      have row0 : X.rowIs w3.heap.size 66 12 (fun j => .int .u16 (friendsT l j)) := by rw [← hX]; exact rowIs_u16 w3 _ _
      have zX : w3.heap.size < X.heap.size := by rw [← hX]; simp
      have kX : Below w.heap.size w X := by rw [← hX]; exact k3.alloc k3.size _
      have d0X : X.cell? ⟨w.heap.size, 0, none⟩ = some (.int .i64 n) := by rw [← hX]; exact (World.cell?_alloc_lt _ _ _ (by have := hb3.size; show w.heap.size < w3.heap.size; omega)).trans d0
      unfold tcells at hX ⊢
      have HX := Lib.hid hX
      have Row := Lib.hid row0
      have KX := Lib.hid kX
      have s3 : w.heap.size < w3.heap.size := by have := hb3.size; omega
      clear hX row0 kX c0 c1 hb2 hb3 k2
      go_wp2_with fail
      rw [HX.out]
      refine (Hev.out X).mono ?_
      rintro e w4 ⟨A4, c4, rfl, own4, hb4⟩
      have rd := CRead.of_own own4
      have Rd := Lib.hid rd
      have z4 : X.heap.size ≤ w4.heap.size := hb4.size
      have K4 := Lib.hid hb4
      clear rd own4 hb4 d0X d0
      go_wp2
      go_loopw [5, 24] (fun m i wr => ∃ k : Nat, k ≤ L.length ∧ i = .int .i64 k ∧ m = .int .i64 (wideL D (L.take k)) ∧ (∀ q ∈ L.take k, 0 ≤ D q.1.toNat q.2.toNat) ∧ Below w4.heap.size w4 wr) (fun _ i _ => L.length - (intOf i).toNat)
      case atStart => exact ⟨0, Nat.zero_le _, rfl, rfl, fun q hq => by simp at hq, Below.refl _ _⟩
      case round =>
        obtain ⟨k, hk, rfl, rfl, hall, hb⟩ := hrel
        have Hall := Lib.hid hall
        have Hb := Lib.hid hb
        have sb := hb.size
        clear hall hb
        by_cases hlt : k < L.length
        · obtain ⟨⟨x', y'⟩, hx⟩ := getSome L k hlt
          have hq := Hpl.out _ (List.mem_of_getElem? hx)
          simp only at hq
          obtain ⟨x, rfl⟩ : ∃ x : Nat, x' = x := ⟨x'.toNat, by omega⟩
          obtain ⟨y, rfl⟩ : ∃ x : Nat, y' = x := ⟨y'.toNat, by omega⟩
          obtain ⟨bb, off, rfl, hbb, c0, c1⟩ := (Rd.out.below Hb.out (Nat.le_refl _)).pair hx
          have hki : (k : Int) < (L.length : Int) := by omega
          have hXr : Below X.heap.size X wr := K4.out.trans (Hb.out.mono z4)
          have hrow : wr.rowIs w3.heap.size 66 12 (fun j => .int .u16 (friendsT l j)) := by obtain ⟨cc, h1, h2⟩ := Row.out; exact ⟨cc, (hXr.block _ zX).trans h1, h2⟩
          have t0 := hrow.cell (i := 0) (by omega)
          have t1 := hrow.cell (i := 1) (by omega)
          have t2 := hrow.cell (i := 2) (by omega)
          have t3 := hrow.cell (i := 3) (by omega)
          have t4 := hrow.cell (i := 4) (by omega)
          have t5 := hrow.cell (i := 5) (by omega)
          have t6 := hrow.cell (i := 6) (by omega)
          have t7 := hrow.cell (i := 7) (by omega)
          have t8 := hrow.cell (i := 8) (by omega)
          have t9 := hrow.cell (i := 9) (by omega)
          have t10 := hrow.cell (i := 10) (by omega)
          have t11 := hrow.cell (i := 11) (by omega)
          have hxy := Hdist.out x y (by omega) (by omega)
          have hw1 : wideL D (L.take (k + 1)) = max (wideL D (L.take k)) (D x y) := by rw [List.take_add_one, hx, Option.toList_some, wideL_snoc]; rfl
          have hmem : ∀ q, q ∈ L.take (k + 1) → q ∈ L.take k ∨ q = ((x : Int), (y : Int)) := fun q hq => by
            rw [List.take_add_one, hx, Option.toList_some, List.mem_append, List.mem_singleton] at hq; exact hq
          have hnn := fun h => Hno.out x y (by omega) (by omega) h
          have hkw : TabW wr := HTab.out.below (KX.out.trans (hXr.mono KX.out.size)) hpos
          obtain ⟨d, hd⟩ : ∃ d, D x y = d := ⟨_, rfl⟩
          simp only [hd] at hxy
          rw [hd] at hw1 hnn
          obtain ⟨M, hM⟩ : ∃ M, wideL D (L.take k) = M := ⟨_, rfl⟩
          rw [hM] at hw1 ⊢
          have Hw1 := Lib.hid hw1
          have Hmem := Lib.hid hmem
          have Hxy := Lib.hid (hxy (wr.alloc (Obj.cells #[.int .i64 x, .int .i64 y] 85)) (hkw.below ((Below.refl wr.heap.size wr).alloc (Nat.le_refl _) _) (by omega)))
          have Hd := Lib.hid hd
          have Hnn := Lib.hid hnn
          clear hxy hw1 hmem hrow hx hM hd hnn hkw hq
          have tm : ∀ (i : Nat) (v : Value), i < 12 → wr.cell? ⟨w3.heap.size, i, none⟩ = some v → (wr.alloc (Obj.cells #[.int .i64 x, .int .i64 y] 85)).cell? ⟨w3.heap.size, i, none⟩ = some v := fun i v _ h => (World.cell?_alloc_lt _ _ _ (by show w3.heap.size < wr.heap.size; omega)).trans h
          have T0 := tm 0 _ (by omega) t0
          have T1 := tm 1 _ (by omega) t1
          have T2 := tm 2 _ (by omega) t2
          have T3 := tm 3 _ (by omega) t3
          have T4 := tm 4 _ (by omega) t4
          have T5 := tm 5 _ (by omega) t5
          have T6 := tm 6 _ (by omega) t6
          have T7 := tm 7 _ (by omega) t7
          have T8 := tm 8 _ (by omega) t8
          have T9 := tm 9 _ (by omega) t9
          have T10 := tm 10 _ (by omega) t10
          have T11 := tm 11 _ (by omega) t11
          clear tm t0 t1 t2 t3 t4 t5 t6 t7 t8 t9 t10 t11
          go_wp2_with fail
          refine Hxy.out.mono ?_
          rintro e w5 ⟨rfl, hb5⟩
          have k5 : Below w4.heap.size w4 w5 := (Hb.out.alloc Hb.out.size _).trans (hb5.mono (by simp; omega))
          have K5 := Lib.hid k5
          clear k5 hb5 T0 T1 T2 T3 T4 T5 T6 T7 T8 T9 T10 T11
          by_cases hneg : d < 0
          · have e := E.out
            rw [Hnn.out hneg, if_neg (by decide)] at e
            simp only [Prod.mk.injEq] at e
            obtain ⟨rfl, rfl⟩ := e
            have e2 : distR d = (0, false) := if_pos hneg
            rw [e2]
            go_wp2
            go_ret2
            exact ⟨rfl, KX.out.trans ((K4.out.trans (K5.out.mono z4)).mono KX.out.size)⟩
          · have e2 : distR d = (d, true) := if_neg hneg
            have hall2 : ∀ q ∈ L.take (k + 1), 0 ≤ D q.1.toNat q.2.toNat := fun q hq => by
              rcases Hmem.out q hq with h | rfl
              · exact Hall.out q h
              · show 0 ≤ D ((x : Int)).toNat ((y : Int)).toNat
                rw [Int.toNat_natCast, Int.toNat_natCast, Hd.out]; omega
            have Hall2 := Lib.hid hall2
            rw [e2]
            clear hall2 e2
            go_wp2
            all_goals
              go_roundw
              case rel => exact ⟨k + 1, by omega, by go_num, by rw [Hw1.out, show max M d = (if M < d then d else M) from by split <;> omega], Hall2.out, K5.out⟩
              case measure => simp [intOf]; omega
        · have e : k = L.length := by omega
          subst e
          have hge : ¬ ((L.length : Int) < (L.length : Int)) := by omega
          rw [List.take_length]
          have e := E.out
          rw [Hyes.out (fun q hq => Hall.out q (by rw [List.take_length]; exact hq)), if_pos rfl] at e
          simp only [Prod.mk.injEq] at e
          obtain ⟨rfl, rfl⟩ := e
          go_wp2
          go_ret2
          exact ⟨rfl, KX.out.trans ((K4.out.trans (Hb.out.mono z4)).mono KX.out.size)⟩
end Go.Proofs.YthpapkfpcijpoaaDoor
/-
  'laws.FnExactWidestDistance' returns true, whatever its arguments: out of the contracts of the model's function and of the program's.
-/
namespace Go.Proofs.YthpapkfpcijpoaaDoor
open Go.RowKit

set_option maxHeartbeats 4000000 in
set_option maxRecDepth 100000 in
theorem lawWidestDistance_any (p0 : Int) (l0 : PL) (A0 : Option Addr) (c0 : Nat) (W : World) (hl0 : l0.length ≤ maxLen) (hA0 : CRead W W.heap.size A0 (pcells l0)) (htab : TabW W) :
    Calls Tryd.prog 7 #[.agg #[.int .i64 p0, .slice A0 l0.length c0]] W fun e w' => e = .returned (.bool true) ∧ Below W.heap.size W w' := by
  have hone : (0 : Int) ≤ 1 ∧ (1 : Int) ≤ 16777216 := by omega
  have HTab := Lib.hid htab
  clear htab
  by_cases hz0 : szI (1048576) l0.length < 0
  · go_enter Tryd.func7, Tryd.ntmps7
    go_wp2_with fail
    refine (szParty_any _ _ _ _ _ hl0 (by omega) (by omega) _).mono ?_
    rintro e w1 ⟨rfl, hb1⟩
    simp only [World.size_alloc] at hb1
    have g1 : Below W.heap.size W w1 := Below.trans (b := _) (by go_grown) (hb1.mono (by omega))
    have s1 := hb1.size
    simp only [World.size_alloc] at s1
    have f1_0 : w1.cell? ⟨W.heap.size, 0, none⟩ = some (.int .i64 p0) := carry hb1 (by simp) (by omega)
    have f1_1 : w1.cell? ⟨W.heap.size, 1, none⟩ = some (.slice A0 l0.length c0) := carry hb1 (by simp) (by omega)
    have k1 : Below W.heap.size W w1 := g1
    go_wp2
    go_ret
    exact ⟨rfl, k1⟩
  have hn0 : l0.length ≤ 1048576 := by have h1 := szI_len _ _ hz0; have h2 := szI_hi (1048576) l0.length (by omega); omega
  have hz0' : 0 ≤ szI (1048576) l0.length := by omega
  have hz0'' : szI (1048576) l0.length ≤ 1048576 := by have h2 := szI_hi (1048576) l0.length (by omega); omega
  obtain ⟨⟨rb, rok⟩, hres⟩ : ∃ r, resWidestDistance p0 l0 = r := ⟨_, rfl⟩
  have Hres := Lib.hid hres
  clear hres
  go_enter Tryd.func7, Tryd.ntmps7
  go_wp2_with fail
  refine (szParty_any _ _ _ _ _ hl0 (by omega) (by omega) _).mono ?_
  rintro e w1 ⟨rfl, hb1⟩
  simp only [World.size_alloc] at hb1
  have g1 : Below W.heap.size W w1 := Below.trans (b := _) (by go_grown) (hb1.mono (by omega))
  have s1 := hb1.size
  simp only [World.size_alloc] at s1
  have f1_0 : w1.cell? ⟨W.heap.size, 0, none⟩ = some (.int .i64 p0) := carry hb1 (by simp) (by omega)
  have f1_1 : w1.cell? ⟨W.heap.size, 1, none⟩ = some (.slice A0 l0.length c0) := carry hb1 (by simp) (by omega)
  have k1 : Below W.heap.size W w1 := g1
  go_wp2_with fail
  refine (toParty_any p0 l0 A0 c0 _ hn0 ((hA0.below k1 (Nat.le_refl _)).more k1.size)).mono ?_
  rintro e w2 ⟨T2, d2, rfl, n2, hb2⟩
  have g2 : Below w1.heap.size w1 w2 := hb2
  have s2 := hb2.size
  have f2_0 := carry g2 f1_0 (by omega)
  have f2_1 := carry g2 f1_1 (by omega)
  have k2 := k1.trans (g2.mono k1.size)
  clear f1_0 f1_1
  have r2 : Lies (.slice T2 l0.length d2) (w1.heap.size) w2.heap.size := own_lies n2
  go_wp2_with fail
  refine (specWidestDistance_any p0 l0 _ _ _ hn0 (CRead.of_own n2)).mono ?_
  rw [Hres.out]
  rintro e w3 ⟨rfl, hb3⟩
  have g3 : Below w2.heap.size w2 w3 := hb3
  have s3 := hb3.size
  have f3_0 := carry g3 f2_0 (by omega)
  have f3_1 := carry g3 f2_1 (by omega)
  have o3_0 := own_below n2 g3 (Nat.le_refl _)
  have k3 := k2.trans (g3.mono k2.size)
  clear f2_0 f2_1 n2
  clear o3_0 r2
  go_wp2_with fail
  refine (toParty_any p0 l0 A0 c0 _ hn0 ((hA0.below k3 (Nat.le_refl _)).more k3.size)).mono ?_
  rintro e w4 ⟨T4, d4, rfl, n4, hb4⟩
  have g4 : Below w3.heap.size w3 w4 := hb4
  have s4 := hb4.size
  have f4_0 := carry g4 f3_0 (by omega)
  have f4_1 := carry g4 f3_1 (by omega)
  have k4 := k3.trans (g4.mono k3.size)
  clear f3_0 f3_1
  have r4 : Lies (.slice T4 l0.length d4) (w3.heap.size) w4.heap.size := own_lies n4
  have q5_0 : (w4.alloc (Obj.cells #[.int .i64 p0, .slice T4 l0.length d4] 31)).cell? ⟨W.heap.size, 0, none⟩ = some (.int .i64 p0) := (World.cell?_alloc_lt _ _ _ (show W.heap.size < w4.heap.size by omega)).trans f4_0
  have q5_1 : (w4.alloc (Obj.cells #[.int .i64 p0, .slice T4 l0.length d4] 31)).cell? ⟨W.heap.size, 1, none⟩ = some (.slice A0 l0.length c0) := (World.cell?_alloc_lt _ _ _ (show W.heap.size < w4.heap.size by omega)).trans f4_1
  go_wp2_with fail
  refine (implWidestDistance_any p0 l0 _ _ _ hn0 (((CRead.of_own n4).below (B' := w4.heap.size) (by go_grown) (Nat.le_refl _)).more (by go_size)) (by first | exact HTab.out.below (k4.alloc k4.size _) HTab.out.pos | exact HTab.out.below k4 HTab.out.pos)).mono ?_
  rw [Hres.out]
  rintro e w6 ⟨rfl, hb6⟩
  simp only [World.size_alloc] at hb6
  have g6 : Below w4.heap.size w4 w6 := Below.trans (b := _) (by go_grown) (hb6.mono (by omega))
  have s6 := hb6.size
  simp only [World.size_alloc] at s6
  have f6_0 := carry g6 f4_0 (by omega)
  have f6_1 := carry g6 f4_1 (by omega)
  have f6_2 : w6.cell? ⟨w4.heap.size, 0, none⟩ = some (.int .i64 p0) := carry hb6 (by simp) (by omega)
  have f6_3 : w6.cell? ⟨w4.heap.size, 1, none⟩ = some (.slice T4 l0.length d4) := carry hb6 (by simp) (by omega)
  have o6_0 := own_below n4 g6 (Nat.le_refl _)
  have k6 := k4.trans (g6.mono k4.size)
  clear f4_0 f4_1 n4 q5_0 q5_1
  go_wp2
  go_region_held3 (fun w' => w'.cell? ⟨W.heap.size, 0, none⟩ = some (.int .i64 p0) ∧ w'.cell? ⟨W.heap.size, 1, none⟩ = some (.slice A0 l0.length c0) ∧ w'.cell? ⟨w4.heap.size, 0, none⟩ = some (.int .i64 p0) ∧ w'.cell? ⟨w4.heap.size, 1, none⟩ = some (.slice T4 l0.length d4)) (first | exact ⟨f6_0, f6_1, f6_2, f6_3⟩ | exact ⟨f7_0, f7_1, f7_2, f7_3⟩ | exact ⟨f8_0, f8_1, f8_2, f8_3⟩) ((first | (go_at_call 13; refine (toParty_any p0 l0 A0 c0 _ hn0 ((hA0.below k6.drew (Nat.le_refl _)).more k6.size)).mono ?_; rintro e w7 ⟨T7, d7, rfl, n7, hb7⟩; have g7 : Below w6.heap.size w6 w7 := (Below.refl _ _).drew.trans hb7; have s7 := g7.size; have f7_0 := carry g7 f6_0 (by omega); have f7_1 := carry g7 f6_1 (by omega); have f7_2 := carry g7 f6_2 (by omega); have f7_3 := carry g7 f6_3 (by omega); have o7_0 := own_below o6_0 g7 (Nat.le_refl _); have k7 := k6.trans (g7.mono k6.size)) | (go_at_call 16; refine (eqParty_any p0 p0 l0 l0 _ _ _ _ _ hl0 hl0 (CRead.of_own o7_0) (CRead.of_own n7)).mono ?_; rw [decide_eq_true ⟨rfl, rfl⟩]; rintro e w8 ⟨rfl, hb8⟩; have g8 : Below w7.heap.size w7 w8 := hb8; have s8 := g8.size; have f8_0 := carry g8 f7_0 (by omega); have f8_1 := carry g8 f7_1 (by omega); have f8_2 := carry g8 f7_2 (by omega); have f8_3 := carry g8 f7_3 (by omega); have o8_0 := own_below o7_0 g8 (Nat.le_refl _); have k8 := k7.trans (g8.mono k7.size))))
  clear f6_0 f6_1 f6_2 f6_3 o6_0 f7_0 f7_1 f7_2 f7_3 o7_0 n7
  go_wp2
  go_ret
  exact ⟨rfl, k8⟩
end Go.Proofs.YthpapkfpcijpoaaDoor
/-
  FROM A LAW's WALK TO ITS STATEMENT: arguments opened (numbers, lists of numbers, parties), and what every law's post asks.
-/
namespace Go.Proofs.YthpapkfpcijpoaaDoor
open Go.ChangeShapes Go.WideShapes Go.ChangeAt Go.RowKit Go.Deep

theorem Tryd.own : ownKnob Tryd.prog.godebug = none := by kernel_rfl
theorem Tryd.laidOut : laidOutB Tryd.prog = true := by kernel_rfl
theorem Tryd.cellsPair : Tryd.prog.cellsOf 95 = 2 := by kernel_rfl
theorem Tryd.cellsParty : Tryd.prog.cellsOf 24 = 2 := by kernel_rfl
theorem Tryd.cellsInt : Tryd.prog.cellsOf 3 = 1 := by kernel_rfl

section
variable {H : Type} {enc : TypeId × Value → H} {P : Program}
theorem below_trodAll (hl : laidOutB P = true) : ∀ (ts : List TypeId), (ts.all fun t => P.readableRec t && decide (t < P.types.size)) = true → ∀ {vs : List Value} {ds : List (DataW H)} {ps : List MemPlace} {W W' : World},
    DataW.TrodAll enc P W 0 (fun _ => true) true ts vs ds ps → Below W.heap.size W W' → (∀ x ∈ ps, x.block < W.heap.size) → DataW.TrodAll enc P W' 0 (fun b => decide (b < W.heap.size)) true ts vs ds ps
  | [], _, vs, ds, ps, W, W', h, _, _ => by
    obtain ⟨rfl, rfl, rfl⟩ := trodAll_nil h
    exact trodAll_mk0
  | t :: ts, hr, vs, ds, ps, W, W', h, hb, hlt => by
    obtain ⟨v, vs', d, ds', p, q, rfl, rfl, rfl, h0, h1⟩ := trodAll_cons h
    simp only [List.all_cons, Bool.and_eq_true, decide_eq_true_eq] at hr
    refine trodAll_cons_mk (Below.trod hl hr.1.1 hr.1.2 h0 hb (fun x hx => hlt x (List.mem_append_left _ hx))) (below_trodAll hl ts (by simpa using hr.2) h1 hb (fun x hx => hlt x (List.mem_append_right _ hx)))

theorem law_post {f : Func} {s : ChangeSpec} {W W' : World} {args : Array Value} {ds gs : List (DataW H)} {before : List MemPlace} {tb : TypeId} (hl : laidOutB P = true)
    (hr : (f.params.toList.all fun t => P.readableRec t && decide (t < P.types.size)) = true) (hres : f.resultTypes = #[tb]) (htb : P.underlying tb = some .bool) (hsv : s.vars = [])
    (hspec : s.fn H (ds ++ gs) = { results := [.lit (.bool true)], args := ds })
    (hW : DataW.Whole enc P f.params.toList s.vars false W args.toList ds gs before) (hb : Below W.heap.size W W') : s.post enc P f false true false false W args (.bool true) W' := by
  have hW' := hW
  obtain ⟨p, q, hA, hV, rfl, _, _⟩ := hW
  rw [hsv] at hV
  obtain ⟨rfl, rfl⟩ := trodVars_none hV
  have hlt : ∀ x ∈ p, x.block < W.heap.size := fun x hx => by simpa using hW'.lt x (by simpa using hx)
  refine ⟨ds, _, _, [] ++ [], p, [], hW', ?_, ?_, ?_, hb.frame _, fun h => by cases h⟩
  · rw [hspec, hres]
    exact trodAll_mk1 (shut_bool htb _)
  · rw [hspec]
    exact below_trodAll hl _ hr hA hb hlt
  · rw [hspec, hsv]
    rfl
end

section
variable {H : Type} {enc : TypeId × Value → H} {W : World}
set_option maxRecDepth 100000 in
/-- A party that came in. -/
theorem open_party {v : Value} {d : DataW H} {p : List MemPlace} {r : Reach} {b0 : Nat} (hv : Value.okWide Tryd.prog W r b0 24 v) (h : DataW.Trod enc Tryd.prog W 0 (fun _ => true) true 24 v d p) :
    ∃ (x : Int) (l : PL) (A : Option Addr) (c : Nat), v = .agg #[.int .i64 x, .slice A l.length c] ∧ l.length ≤ maxLen ∧ CRead W W.heap.size A (pcells l) := by
  obtain ⟨v0, v1, y0, y1, n, rfl, _, _, h0, h1⟩ := Joins.open_agg2 Tryd.underlying24 (by kernel_rfl) Tryd.cellsParty hv h
  obtain ⟨x, hx, _, _⟩ := DataW.trod_int Tryd.underlying3 h0
  simp only [List.cons.injEq, and_true] at hx
  subst hx
  rcases open_slice_pairs Tryd.underlying22 Tryd.underlying95 Tryd.cellsPair rfl rfl (by kernel_rfl) (by kernel_rfl) h1 with ⟨hcs, _⟩ | ⟨a, len, cap, m, n', V0, V1, D0, D1, P0, P1, hcs, _, hlc, hcm, hm, _, hall⟩
  · simp only [List.cons.injEq, and_true] at hcs
    subst hcs
    exact ⟨x, [], none, 0, rfl, Nat.zero_le _, CRead.nil⟩
  · simp only [List.cons.injEq, and_true] at hcs
    subst hcs
    have hm' : m = cap := by simpa using hm
    subst hm'
    have each : ∀ i, i < len → ∃ a0 a1 : Int, W.cell? (a.add (i * 2)) = some (.int .i64 a0) ∧ W.cell? (a.add (i * 2 + 1)) = some (.int .i64 a1) := by
      intro i hi
      obtain ⟨c0, c1, t0, t1⟩ := hall i (by omega)
      obtain ⟨a0, e0, _, _⟩ := DataW.trod_int Tryd.underlying3 t0
      obtain ⟨a1, e1, _, _⟩ := DataW.trod_int Tryd.underlying3 t1
      simp only [List.cons.injEq, and_true] at e0 e1
      exact ⟨a0, a1, by rw [c0, e0], by rw [c1, e1]⟩
    let num : Option Value → Int := fun | some (.int _ z) => z | _ => 0
    let l : PL := (List.range len).map fun i => (num (W.cell? (a.add (i * 2))), num (W.cell? (a.add (i * 2 + 1))))
    have hll : l.length = len := by simp [l]
    refine ⟨x, l, some a, m, by rw [hll], by rw [hll]; omega, ?_⟩
    intro j u hu
    have hjl : j < (pcells l).length := (List.getElem?_eq_some_iff.1 hu).1
    rw [pcells_length, hll] at hjl
    have hi : j / 2 < len := by omega
    obtain ⟨a0, a1, c0, c1⟩ := each (j / 2) hi
    have hl : l[j / 2]? = some (a0, a1) := by simp [l, hi, c0, c1, num]
    obtain ⟨z0, _, cz, _⟩ := each 0 (by omega)
    have hspot : a.spot = none := by simpa [Addr.add] using World.cell?_spot cz
    obtain ⟨b, off, sp⟩ := a
    simp only at hspot
    subst hspot
    have hb : b < W.heap.size := by
      have := World.block_lt_of_cell? W _ cz
      simpa [Addr.add] using this
    refine ⟨b, off, rfl, hb, ?_⟩
    rw [add_plain] at c0 c1
    rcases Nat.mod_two_eq_zero_or_one j with h2 | h2
    · have e : j = j / 2 * 2 := by omega
      have e2 := pcells_fst hl
      rw [← e] at e2 c0
      rw [hu] at e2
      rw [c0, e2]
    · have e : j = j / 2 * 2 + 1 := by omega
      have e2 := pcells_snd hl
      rw [← e] at e2 c1
      rw [hu] at e2
      rw [c1, e2]
end
end Go.Proofs.YthpapkfpcijpoaaDoor
/-
  THE PROGRAM's HEAD, LOOKED AT ONCE: which make it is, and that a call may enter it. (The head's text is long: the kernel must not read it twice.)
-/
namespace Go.Proofs.YthpapkfpcijpoaaDoor

theorem make_of {P : Program} {rest : List (List Char)} (h : behindMainWord (wordsSigns P.initOrder.toList) = "cut".toList :: rest) : P.make = some .cut := by
  unfold Program.make
  rw [h]
  rfl
theorem strip_cut (rest : List (List Char)) : stripLifts liftWords ("cut".toList :: rest) = ([], "cut".toList :: rest) := rfl
theorem lifts_of {P : Program} {rest : List (List Char)} (h : behindMainWord (wordsSigns P.initOrder.toList) = "cut".toList :: rest) : P.headLifts = [] := by
  unfold Program.headLifts
  rw [h, strip_cut]
  rfl
theorem final_of {P : Program} {rest : List (List Char)} (h : behindMainWord (wordsSigns P.initOrder.toList) = "cut".toList :: rest) : P.liftsFinal = false := by
  unfold Program.liftsFinal
  rw [lifts_of h, h]
  rfl
theorem enter_of {P : Program} {rest : List (List Char)} (h : behindMainWord (wordsSigns P.initOrder.toList) = "cut".toList :: rest) (h1 : P.laysLater = false) (h2 : P.bearsReflect = false) (h3 : P.doorFits [] = true) : P.mayEnter = true := by
  unfold Program.mayEnter
  rw [h]
  show (_ || _ || _) = true
  rw [strip_cut, h1, h2, h3]
  rfl
end Go.Proofs.YthpapkfpcijpoaaDoor
/-
  THE PROGRAM's CLOSED FACTS, EACH ONCE; and how a row's facts are put together out of them.
-/
namespace Go.Proofs.YthpapkfpcijpoaaDoor
open Go.ChangeShapes Go.WideShapes Go.ChangeAt Go.RowKit

def headSigns : List Char := ([104, 97, 114, 110, 101, 115, 115, 32, 54, 51, 48, 54, 101, 97, 48, 55, 52, 97, 48, 49, 102, 55, 97, 52, 49, 97, 55, 101, 101, 52, 52, 56, 56, 54, 51, 101, 57, 52, 54, 51, 102, 49, 97, 97, 49, 50, 55, 57, 49, 52, 99, 52, 57, 98, 50, 54, 100, 52, 49, 99, 101, 54, 49, 97, 48, 49, 97, 101, 99, 99, 54, 100, 32, 99, 117, 116, 32, 97, 116, 32, 108, 111, 111, 112, 46, 101, 120, 97, 109, 112, 108, 101, 47, 103, 48, 49, 50, 53, 55, 47, 108, 97, 119, 115, 46, 70, 110, 69, 120, 97, 99, 116, 67, 111, 109, 109, 111, 110, 70, 114, 105, 101, 110, 100, 115, 32, 108, 111, 111, 112, 46, 101, 120, 97, 109, 112, 108, 101, 47, 103, 48, 49, 50, 53, 55, 47, 108, 97, 119, 115, 46, 70, 110, 69, 120, 97, 99, 116, 67, 111, 117, 110, 116, 87, 97, 108, 107, 115, 32, 108, 111, 111, 112, 46, 101, 120, 97, 109, 112, 108, 101, 47, 103, 48, 49, 50, 53, 55, 47, 108, 97, 119, 115, 46, 70, 110, 69, 120, 97, 99, 116, 67, 111, 117, 110, 116, 82, 111, 117, 110, 100, 87, 97, 108, 107, 115, 32, 108, 111, 111, 112, 46, 101, 120, 97, 109, 112, 108, 101, 47, 103, 48, 49, 50, 53, 55, 47, 108, 97, 119, 115, 46, 70, 110, 69, 120, 97, 99, 116, 68, 105, 115, 116, 97, 110, 99, 101, 79, 102, 32, 108, 111, 111, 112, 46, 101, 120, 97, 109, 112, 108, 101, 47, 103, 48, 49, 50, 53, 55, 47, 108, 97, 119, 115, 46, 70, 110, 69, 120, 97, 99, 116, 87, 105, 100, 101, 115, 116, 68, 105, 115, 116, 97, 110, 99, 101, 32, 108, 111, 111, 112, 46, 101, 120, 97, 109, 112, 108, 101, 47, 103, 48, 49, 50, 53, 55, 47, 108, 97, 119, 115, 46, 70, 110, 69, 120, 97, 99, 116, 83, 104, 111, 114, 116, 101, 115, 116, 82, 111, 117, 110, 100, 32, 108, 111, 111, 112, 46, 101, 120, 97, 109, 112, 108, 101, 47, 103, 48, 49, 50, 53, 55, 47, 108, 97, 119, 115, 46, 70, 110, 69, 120, 97, 99, 116, 80, 97, 114, 115, 101, 80, 97, 105, 110, 116, 105, 110, 103, 32, 108, 111, 111, 112, 46, 101, 120, 97, 109, 112, 108, 101, 47, 103, 48, 49, 50, 53, 55, 47, 108, 97, 119, 115, 46, 70, 110, 69, 120, 97, 99, 116, 80, 97, 114, 116, 121, 84, 101, 120, 116] : List Nat).map Char.ofNat
set_option maxRecDepth 100000 in
theorem Tryd.initOrder_is : Tryd.prog.initOrder = String.ofList headSigns := by kernel_rfl
theorem Tryd.initOrder_signs : Tryd.prog.initOrder.toList = headSigns := by rw [Tryd.initOrder_is]; exact String.toList_ofList
set_option maxRecDepth 100000 in
theorem head_words : (behindMainWord (wordsSigns headSigns)).take 1 = ["cut".toList] := by kernel_rfl
theorem Tryd.words : ∃ rest, behindMainWord (wordsSigns Tryd.prog.initOrder.toList) = "cut".toList :: rest := by
  rw [Tryd.initOrder_signs]
  have h := List.take_append_drop 1 (behindMainWord (wordsSigns headSigns))
  rw [head_words] at h
  exact ⟨_, h.symm⟩
theorem Tryd.make : Tryd.prog.make = some .cut := by obtain ⟨_, h⟩ := Tryd.words; exact make_of h
theorem Tryd.liftsFinal : Tryd.prog.liftsFinal = false := by obtain ⟨_, h⟩ := Tryd.words; exact final_of h
theorem Tryd.laysLater : Tryd.prog.laysLater = false := by kernel_rfl
theorem Tryd.bearsReflect : Tryd.prog.bearsReflect = false := by kernel_rfl
theorem Tryd.doorFits : Tryd.prog.doorFits [] = true := by kernel_rfl
theorem Tryd.mayEnter : Tryd.prog.mayEnter = true := by obtain ⟨_, h⟩ := Tryd.words; exact enter_of h Tryd.laysLater Tryd.bearsReflect Tryd.doorFits
theorem Tryd.mapsRowed : mapsRowed Tryd.prog = true := by kernel_rfl
theorem Tryd.stops : (Tryd.prog.stops == []) = true := by kernel_rfl
theorem Tryd.stopKnobs : (Tryd.prog.stopKnobs == []) = true := by kernel_rfl
theorem Tryd.plainKeys : Tryd.prog.plainKeys = false := by kernel_rfl
theorem Tryd.stopsHeard : Tryd.prog.stopsHeard = true := by kernel_rfl

/-- What the types of one law give: closed facts on its parameters and its result. -/
def typeFacts (P : Program) (fn : Func) (s : ChangeSpec) (c : OpenClaim) : Bool :=
  fn.params.all (P.readableRec ·) && namedTie P c.named s.vars && (c.stops == []) && (c.knobs == []) &&
  (c.maps == (fn.params.toList ++ s.plain.varTypes P).any (P.mapsRec ·)) && (c.ifaces == (fn.params.toList ++ s.plain.varTypes P).any (P.ifacesRec ·)) && (c.mapsOut == P.mapsAmong fn.resultTypes.toList) &&
  (c.loops == (fn.params.toList ++ s.plain.varTypes P).any (P.loopsFrom ·)) && (c.wideKeys == (fn.params.toList ++ s.plain.varTypes P ++ fn.resultTypes.toList).any (P.wideKeysFrom ·)) &&
  s.vars.all (P.varReadable ·) && fn.resultTypes.all (fun t => P.readableRec t && decide (t < P.types.size)) && (c.ifacesOut == fn.resultTypes.toList.any (P.ifacesRec ·)) && (c.loopsOut == fn.resultTypes.toList.any (P.loopsFrom ·)) && c.shortTexts.isNone &&
  (c.kinds == (if c.domain.isEmpty then [] else fn.params.toList.map fun t => match P.underlying t with | some (.int k) => some k | _ => none)) && (c.pinned == c.pinnedBy) &&
  (c.veiled == (fn.params.toList ++ s.plain.varTypes P ++ fn.resultTypes.toList).any (P.veiledRec ·)) && c.veiledFits P fn.params.toList (fn.params.toList ++ s.plain.varTypes P ++ fn.resultTypes.toList)
theorem joined_all {P : Program} {f : FuncId} {fn : Func} {s : ChangeSpec} {c : OpenClaim} (k1 : c.wf (OpenSpec.ofChange s) = true) (kt : typeFacts P fn s c = true)
    (k10 : (c.inPlace == P.inPlace f) = true) (k11 : (c.unfollowed == P.unfollowed f) = true) (k12 : (c.recurses == P.recurses f) = true) (k13 : (c.named == P.varsNamed f) = true)
    (e2 : laidOutB P = true) (e3 : mapsRowed P = true) (e7 : (P.stops == []) = true) (e9 : (P.stopKnobs == []) = true) (e22 : (c.plainKeys == P.plainKeys) = true) (e23 : P.stopsHeard = true) (e24 : P.mayEnter = true)
    (e24b : (c.lifted == P.liftsFinal) = true) (e24c : (P.make == some c.make) = true) : joinedFacts P f fn s c = true := by
  unfold typeFacts at kt
  unfold joinedFacts
  simp only [Bool.and_eq_true] at kt ⊢
  obtain ⟨⟨⟨⟨⟨⟨⟨⟨⟨⟨⟨⟨⟨⟨⟨⟨⟨t1, t2⟩, t3⟩, t4⟩, t5⟩, t6⟩, t7⟩, t8⟩, t9⟩, t10⟩, t11⟩, t12⟩, t13⟩, t14⟩, t15⟩, t16⟩, t17⟩, t18⟩ := kt
  exact ⟨⟨⟨⟨⟨⟨⟨⟨⟨⟨⟨⟨⟨⟨⟨⟨⟨⟨⟨⟨⟨⟨⟨⟨⟨⟨⟨⟨⟨⟨⟨k1, e2⟩, e3⟩, t1⟩, t2⟩, t3⟩, e7⟩, t4⟩, e9⟩, k10⟩, k11⟩, k12⟩, k13⟩, t5⟩, t6⟩, t7⟩, t8⟩, t9⟩, t10⟩, t11⟩, t12⟩, t13⟩, e22⟩, t14⟩, e23⟩, e24⟩, e24b⟩, e24c⟩, t15⟩, t16⟩, t17⟩, t18⟩
theorem joined_of {f : FuncId} {fn : Func} {s : ChangeSpec} {c : OpenClaim} (k1 : c.wf (OpenSpec.ofChange s) = true) (kt : typeFacts Tryd.prog fn s c = true)
    (k10 : (c.inPlace == Tryd.prog.inPlace f) = true) (k11 : (c.unfollowed == Tryd.prog.unfollowed f) = true) (k12 : (c.recurses == Tryd.prog.recurses f) = true) (k13 : (c.named == Tryd.prog.varsNamed f) = true)
    (k22 : c.plainKeys = false) (k24b : c.lifted = false) (k24c : c.make = .cut) : joinedFacts Tryd.prog f fn s c = true :=
  joined_all k1 kt k10 k11 k12 k13 Tryd.laidOut Tryd.mapsRowed Tryd.stops Tryd.stopKnobs (by rw [k22, Tryd.plainKeys]; rfl) Tryd.stopsHeard Tryd.mayEnter (by rw [k24b, Tryd.liftsFinal]; rfl) (by rw [k24c, Tryd.make]; rfl)
end Go.Proofs.YthpapkfpcijpoaaDoor
/-
  THE DOOR SEAT's CONDITION: the library's table lies in its variable: what a walk reads of it, and a world that meets it.
-/
namespace Go.Proofs.YthpapkfpcijpoaaDoor
open Go.RowKit

def tabInts : List Int := Lib.deBruijn32tab.map fun n : Nat => (n : Int)
theorem Tryd.tabGlobal : Tryd.prog.globalNamed "math/bits.deBruijn32tab" = some 0 := by kernel_rfl
theorem Tryd.tabType : (Tryd.prog.globals[0]?).map (·.type) = some 125 := by kernel_rfl
theorem Tryd.tabCells : Tryd.prog.cellsOf 125 = 32 := by kernel_rfl
theorem Tryd.byteCells : Tryd.prog.cellsOf 5 = 1 := by kernel_rfl
theorem tabInts_at : ∀ i : Fin 32, tabInts.getD i.val 0 = ((Lib.deBruijn32tab.getD i.val 0 : Nat) : Int) := by decide
theorem tab_of_laid {W : World} (h : laidMetH Tryd.prog [("math/bits.deBruijn32tab", Rows.laid_math_bits_deBruijn32tab)] W) : TabW W := by
  have h' : laidMet Tryd.prog (("math/bits.deBruijn32tab", Lib.tabData .u8 tabInts) :: []) W := h
  have ht := Lib.tabIs_of_head Tryd.tabGlobal Tryd.tabType Tryd.underlying125 Tryd.underlying5 Tryd.byteCells Tryd.tabCells h'
  intro j hj
  rw [ht.cell Tryd.tabGlobal j (by simpa [tabInts, Lib.deBruijn32tab] using hj), tabInts_at ⟨j, hj⟩]

/-- A world that meets the condition. -/
noncomputable def laidWorld (os : Os) : World :=
  let w0 := World.holding Tryd.prog os ⟨#[], #[], []⟩
  { w0 with heap := w0.heap.modify 0 fun
      | .cells _ t frozen => .cells (tabInts.map fun z => Value.int .u8 z).toArray t frozen
      | o => o }
theorem laidWorld_met (os : Os) (args : Array Value) : laidMetH Tryd.prog [("math/bits.deBruijn32tab", Rows.laid_math_bits_deBruijn32tab)] ((laidWorld os).forCall (fun _ _ => 0) ⟨#[], args, []⟩).memory :=
  laidMetH_of_parts (laidMet_of_run' 8 (by kernel_rfl) (by kernel_rfl)) (by kernel_rfl)
end Go.Proofs.YthpapkfpcijpoaaDoor
