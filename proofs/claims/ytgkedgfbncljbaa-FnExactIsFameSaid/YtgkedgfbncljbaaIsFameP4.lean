/-
  Texts put together for the claim of 'IsFame' (pack 4): Nums, NumsW, FameI, LawIsFame, Head, Facts.
-/
import Derived.Test.YtgkedgfbncljbaaIsFameP1
import Derived.Test.YtgkedgfbncljbaaIsFameP2
import Derived.Test.YtgkedgfbncljbaaIsFameP3
import Derived.BigQuiet
import Derived.Deep.RegionHeld3
import Derived.Test.YtgkedgfbncljbaaRows
/-
  LISTS OF NUMBERS OF FRIENDS AS PLAIN LISTS: what numbers are; sorted so that they are falling; sums; where they fail. Nothing here speaks of the program.
-/
namespace Go.Proofs.Ytgkedgfbncljbaa

def isNums (q : List Int) : Bool := decide (q.length ≤ 12) && q.all fun x => decide (0 ≤ x ∧ x < q.length)
theorem isNums_len {q : List Int} (h : isNums q = true) : q.length ≤ 12 := by
  simp only [isNums, Bool.and_eq_true, decide_eq_true_eq] at h
  exact h.1
theorem isNums_mem {q : List Int} (h : isNums q = true) : ∀ x ∈ q, 0 ≤ x ∧ x < q.length := by
  simp only [isNums, Bool.and_eq_true, List.all_eq_true, decide_eq_true_eq] at h
  exact h.2
theorem isNums_at {q : List Int} (h : isNums q = true) {k : Nat} {x : Int} (hx : q[k]? = some x) : 0 ≤ x ∧ x < q.length := isNums_mem h x (List.mem_of_getElem? hx)
theorem isNums_of {q : List Int} (h : q.length ≤ 12) (h2 : ∀ (k : Nat) (x : Int), k < q.length → q[k]? = some x → 0 ≤ x ∧ x < q.length) : isNums q = true := by
  simp only [isNums, Bool.and_eq_true, List.all_eq_true, decide_eq_true_eq]
  refine ⟨h, fun x hx => ?_⟩
  obtain ⟨i, hi, rfl⟩ := List.getElem_of_mem hx
  exact h2 i _ hi (List.getElem?_eq_getElem hi)
theorem isNums_bad {q : List Int} {k : Nat} {x : Int} (hx : q[k]? = some x) (h : ¬ (0 ≤ x ∧ x < q.length)) : isNums q = false := by
  cases he : isNums q with
  | false => rfl
  | true => exact absurd (isNums_at he hx) h
theorem isNums_many {q : List Int} (h : 12 < q.length) : isNums q = false := by
  cases he : isNums q with
  | false => rfl
  | true => have := isNums_len he; omega

/-! ## Falling -/
def fall (q : List Int) : List Int := q.mergeSort fun x y => decide (y ≤ x)
theorem fall_perm (q : List Int) : (fall q).Perm q := List.mergeSort_perm _ _
theorem fall_length (q : List Int) : (fall q).length = q.length := (fall_perm q).length_eq
theorem fall_mem {q : List Int} {x : Int} : x ∈ fall q ↔ x ∈ q := (fall_perm q).mem_iff
theorem fall_sorted (q : List Int) : (fall q).Pairwise fun x y => y ≤ x := by
  have h := List.pairwise_mergeSort (le := fun x y : Int => decide (y ≤ x)) (by intro a b c; simp; omega) (by intro a b; simp; omega) q
  exact h.imp (by simp)
theorem fall_unique {l q : List Int} (hs : l.Pairwise fun x y => y ≤ x) (hp : l.Perm q) : l = fall q :=
  List.Perm.eq_of_pairwise (le := fun x y : Int => y ≤ x) (fun a b _ _ h1 h2 => by omega) hs (fall_sorted q) (hp.trans (fall_perm q).symm)
theorem fall_nums {q : List Int} (h : isNums q = true) : isNums (fall q) = true := by
  refine isNums_of (by rw [fall_length]; exact isNums_len h) fun k x _ hx => ?_
  have := isNums_mem h x (fall_mem.1 (List.mem_of_getElem? hx))
  rw [fall_length]
  exact this

/-- the numbers from n down, j of them, each as often as it is in the list -/
def blockI (q : List Int) (x : Int) : List Int := q.filter fun y => decide (x = y)
def descI (q : List Int) (n j : Nat) : List Int := (List.range j).flatMap fun i : Nat => blockI q ((n : Int) - (i : Int))
theorem descI_zero (q : List Int) (n : Nat) : descI q n 0 = [] := rfl
theorem descI_next (q : List Int) (n j : Nat) : descI q n (j + 1) = descI q n j ++ blockI q ((n : Int) - j) := by
  unfold descI
  rw [List.range_succ, List.flatMap_append]
  simp
theorem blockI_snoc (q : List Int) (x y : Int) : blockI (q ++ [y]) x = blockI q x ++ if x = y then [y] else [] := by
  unfold blockI
  rw [List.filter_append]
  congr 1
  by_cases h : x = y
  · rw [if_pos h, List.filter_cons_of_pos (by simpa using h)]; rfl
  · rw [if_neg h, List.filter_cons_of_neg (by simpa using h)]; rfl
theorem mem_blockI {q : List Int} {x y : Int} : y ∈ blockI q x ↔ y ∈ q ∧ x = y := by simp [blockI]
theorem mem_descI {q : List Int} {n j : Nat} {y : Int} : y ∈ descI q n j ↔ y ∈ q ∧ (n : Int) - j < y ∧ y ≤ n := by
  simp only [descI, List.mem_flatMap, List.mem_range, mem_blockI]
  constructor
  · rintro ⟨i, hi, hy, rfl⟩; exact ⟨hy, by omega, by omega⟩
  · rintro ⟨hy, h1, h2⟩; exact ⟨((n : Int) - y).toNat, by omega, hy, by omega⟩
theorem descI_sorted (q : List Int) (n j : Nat) : (descI q n j).Pairwise fun x y => y ≤ x := by
  induction j with
  | zero => exact List.Pairwise.nil
  | succ j ih =>
    rw [descI_next, List.pairwise_append]
    refine ⟨ih, ?_, fun a ha b hb => ?_⟩
    · rw [List.pairwise_iff_getElem]
      intro a b ha hb _
      have h1 := (mem_blockI.1 (List.getElem_mem ha)).2
      have h2 := (mem_blockI.1 (List.getElem_mem hb)).2
      omega
    · have h1 := mem_descI.1 ha
      have h2 := (mem_blockI.1 hb).2
      omega
theorem count_blockI (q : List Int) (x y : Int) : (blockI q x).count y = if x = y then q.count y else 0 := by
  unfold blockI
  by_cases h : x = y
  · subst h
    rw [if_pos rfl, List.count_filter (by simp)]
  · rw [if_neg h, List.count_eq_zero]
    intro hm
    exact h (by simpa using (List.mem_filter.1 hm).2)
theorem count_descI (q : List Int) (n j : Nat) (y : Int) : (descI q n j).count y = if (n : Int) - j < y ∧ y ≤ n then q.count y else 0 := by
  induction j with
  | zero => rw [descI_zero, if_neg (by omega)]; rfl
  | succ j ih =>
    rw [descI_next, List.count_append, ih, count_blockI]
    by_cases h1 : (n : Int) - j = y
    · rw [if_pos h1, if_neg (by omega), if_pos (by omega), Nat.zero_add]
    · rw [if_neg h1, Nat.add_zero]
      by_cases h2 : (n : Int) - j < y ∧ y ≤ n
      · rw [if_pos h2, if_pos (by omega)]
      · rw [if_neg h2, if_neg (by omega)]
theorem descI_fall {q : List Int} (h : isNums q = true) : descI q q.length (q.length + 1) = fall q := by
  refine fall_unique (descI_sorted _ _ _) (List.perm_iff_count.2 fun y => ?_)
  rw [count_descI]
  split
  · rfl
  · rename_i hn
    symm
    rw [List.count_eq_zero]
    intro hy
    have := isNums_mem h y hy
    omega
theorem descI_le (q : List Int) (n j : Nat) : (descI q n j).length ≤ j * q.length := by
  induction j with
  | zero => simp [descI_zero]
  | succ j ih =>
    rw [descI_next, List.length_append, Nat.add_mul, Nat.one_mul]
    have : (blockI q ((n : Int) - j)).length ≤ q.length := List.length_filter_le _ _
    omega
theorem blockI_le (q : List Int) (x : Int) : (blockI q x).length ≤ q.length := List.length_filter_le _ _

/-! ## Sums -/
def sumI (q : List Int) : Int := q.foldl (· + ·) 0
theorem sumI_snoc (q : List Int) (x : Int) : sumI (q ++ [x]) = sumI q + x := by simp [sumI, List.foldl_append]
theorem sumI_nil : sumI [] = 0 := rfl
/-- a bound of the sum of a beginning -/
theorem sumI_take_bound {q : List Int} {m : Int} (hm : 0 ≤ m) (h : ∀ x ∈ q, 0 ≤ x ∧ x ≤ m) : ∀ k, 0 ≤ sumI (q.take k) ∧ sumI (q.take k) ≤ k * m := by
  intro k
  induction k with
  | zero => simp [sumI_nil]
  | succ k ih =>
    rw [List.take_add_one]
    have e : ((k + 1 : Nat) : Int) * m = k * m + m := by rw [Int.natCast_add, Int.add_mul]; simp
    rw [e]
    cases hx : q[k]? with
    | none => simp; omega
    | some x =>
      have := h x (List.mem_of_getElem? hx)
      rw [Option.toList_some, sumI_snoc]
      omega
theorem sumI_perm {q l : List Int} (h : q.Perm l) : sumI q = sumI l := by
  unfold sumI
  exact h.foldl_eq' (fun x _ y _ z => by omega) 0

/-! ## Where numbers fail -/
def minsI (k : Int) (q : List Int) : List Int := q.map fun x => if k < x then k else x
theorem minsI_snoc (k : Int) (q : List Int) (x : Int) : minsI k (q ++ [x]) = minsI k q ++ [if k < x then k else x] := by simp [minsI]
def mostI (s : List Int) (k : Nat) : Int := (k : Int) * (k - 1) + sumI (minsI k (s.drop k))
def failAt (s : List Int) (k : Nat) : Bool := decide (mostI s k < sumI (s.take k))
def failsI (s : List Int) : Int := match (List.range s.length).find? fun i => failAt s (i + 1) with | none => 0 | some i => (i : Int) + 1
theorem failsI_at {s : List Int} {k : Nat} (hk : k < s.length) (h : ∀ j, j < k → failAt s (j + 1) = false) (hf : failAt s (k + 1) = true) : failsI s = k + 1 := by
  have : (List.range s.length).find? (fun i => failAt s (i + 1)) = some k := by
    rw [List.find?_range_eq_some]
    exact ⟨hf, by simpa using hk, fun j hj => by simp [h j hj]⟩
  unfold failsI
  rw [this]
theorem failsI_none {s : List Int} (h : ∀ j, j < s.length → failAt s (j + 1) = false) : failsI s = 0 := by
  have : (List.range s.length).find? (fun i => failAt s (i + 1)) = none := by
    rw [List.find?_range_eq_none]
    intro j hj
    simp [h j hj]
  unfold failsI
  rw [this]
theorem failsI_range (s : List Int) : 0 ≤ failsI s ∧ failsI s ≤ s.length := by
  unfold failsI
  split
  · omega
  · rename_i i hi
    have := List.mem_of_find?_eq_some hi
    rw [List.mem_range] at this
    omega
theorem minsI_bound {s : List Int} {m k : Int} (hk : 0 ≤ k) (h : ∀ x ∈ s, 0 ≤ x ∧ x ≤ m) : ∀ x ∈ minsI k s, 0 ≤ x ∧ x ≤ m := by
  intro x hx
  obtain ⟨y, hy, rfl⟩ := List.mem_map.1 hx
  have := h y hy
  split <;> omega
/-- they can be -/
def canI (q : List Int) : Bool := decide (sumI q % 2 = 0) && decide (failsI (fall q) = 0)
end Go.Proofs.Ytgkedgfbncljbaa
/-
  NUMBERS OF FRIENDS: what they are, by the model's and the program's contracts.
-/
namespace Go.Proofs.Ytgkedgfbncljbaa
open Go.RowKit

def l1AllB (q : List Int) (lo hi : Int) : Bool := q.all fun x => decide (lo ≤ x ∧ x ≤ hi)
theorem l1AllB_yes {q : List Int} {lo hi : Int} (h : ∀ (j : Nat) (x : Int), j < q.length → q[j]? = some x → lo ≤ x ∧ x ≤ hi) : l1AllB q lo hi = true := by
  simp only [l1AllB, List.all_eq_true, decide_eq_true_eq]
  intro x hx
  obtain ⟨i, hi, rfl⟩ := List.getElem_of_mem hx
  exact h i _ hi (List.getElem?_eq_getElem hi)
theorem l1AllB_no {q : List Int} {lo hi : Int} {k : Nat} {x : Int} (hx : q[k]? = some x) (h : ¬ (lo ≤ x ∧ x ≤ hi)) : l1AllB q lo hi = false := by
  cases he : l1AllB q lo hi with
  | false => rfl
  | true =>
    simp only [l1AllB, List.all_eq_true, decide_eq_true_eq] at he
    exact absurd (he x (List.mem_of_getElem? hx)) h

set_option maxHeartbeats 1000000 in
theorem l1All_any (q : List Int) (A : Option Addr) (c : Nat) (lo hi : Int) (w : World) (hl : q.length ≤ 1048576) (hA : CRead w w.heap.size A (icells q)) :
    Calls Try.prog 104 #[.slice A q.length c, .int .i64 lo, .int .i64 hi] w fun e w' => e = .returned (.bool (l1AllB q lo hi)) ∧ w = w' := by
  go_enter Try.func104, Try.ntmps104
  go_wp2
  go_loop [11] (fun i => ∃ k : Nat, k ≤ q.length ∧ i = .int .i64 k ∧ ∀ (j : Nat) (x : Int), j < k → q[j]? = some x → lo ≤ x ∧ x ≤ hi) (fun i => q.length - (intOf i).toNat)
  case atStart => exact ⟨0, Nat.zero_le _, rfl, fun j x hj => by omega⟩
  case round =>
    obtain ⟨k, hk, rfl, hg⟩ := hrel
    have Hg := Lib.hid hg
    clear hg
    by_cases hlt : k < q.length
    · obtain ⟨x, hx⟩ := getSome q k hlt
      obtain ⟨b, off, rfl, hbb, c0⟩ := hA.int hx
      have hki : (k : Int) < (q.length : Int) := by omega
      have Hx := Lib.hid hx
      clear hx
      by_cases hin : lo ≤ x ∧ x ≤ hi
      · go_wp2_with (go_at_call 65; refine (l1In_yes _ _ _ hin.1 hin.2 _).mono ?_; rintro e w' ⟨rfl, rfl⟩)
        go_round
        case rel =>
          refine ⟨k + 1, by omega, by go_num, fun j y hj hy => ?_⟩
          by_cases hjk : j = k
          · subst hjk
            rw [Hx.out] at hy
            simp only [Option.some.injEq] at hy
            subst hy
            exact hin
          · exact Hg.out j y (by omega) hy
        case measure => simp [intOf]; omega
      · have e : l1AllB q lo hi = false := l1AllB_no Hx.out hin
        have He := Lib.hid e
        clear e
        go_wp2_with (go_at_call 65; refine (l1In_no _ _ _ (by omega) _).mono ?_; rintro e w' ⟨rfl, rfl⟩)
        go_ret
        exact ⟨by rw [He.out]; rfl, rfl⟩
    · have hkl : k = q.length := by omega
      have e : l1AllB q lo hi = true := l1AllB_yes fun j x hj hx => Hg.out j x (by omega) hx
      have He := Lib.hid e
      clear e
      have hge : ¬ ((k : Int) < (q.length : Int)) := by omega
      go_wp2
      go_ret
      exact ⟨by rw [He.out]; rfl, rfl⟩

theorem isNums_all {q : List Int} (h : q.length ≤ 12) : l1AllB q 0 ((q.length : Int) - 1) = isNums q := by
  unfold l1AllB isNums
  rw [decide_eq_true h, Bool.true_and]
  congr 1
  funext x
  congr 1
  apply propext
  omega

def resIsNumbers (q : List Int) : Bool := isNums q
/-! ## Sums -/
/-! ## Sorted so that they are falling: the model's -/
end Go.Proofs.Ytgkedgfbncljbaa
/-
  'IsFame': the model's and the program's, by their contracts.
-/
namespace Go.Proofs.Ytgkedgfbncljbaa
open Go.RowKit

def fameAt (n : Nat) (q : List (List Int)) (a : Nat) : Bool := isChoiceI n (q.getD a []) && !hasI (q.getD a []) a
def isFameI (q : List (List Int)) : Bool := decide (1 ≤ q.length ∧ q.length ≤ 12) && (List.range q.length).all (fameAt q.length q)
def resIsFame (q : List (List Int)) : Bool := isFameI q
theorem isFame_no {q : List (List Int)} {a : Nat} (ha : a < q.length) (h : fameAt q.length q a = false) : isFameI q = false := by
  unfold isFameI
  rw [Bool.and_eq_false_iff]
  right
  rw [List.all_eq_false]
  exact ⟨a, List.mem_range.2 ha, by simp [h]⟩
theorem isFame_yes {q : List (List Int)} (h1 : 1 ≤ q.length) (h2 : q.length ≤ 12) (h : ∀ a, a < q.length → fameAt q.length q a = true) : isFameI q = true := by
  unfold isFameI
  rw [Bool.and_eq_true, List.all_eq_true]
  exact ⟨decide_eq_true ⟨h1, h2⟩, fun a ha => h a (List.mem_range.1 ha)⟩
theorem isFame_parts {q : List (List Int)} (h : isFameI q = true) : 1 ≤ q.length ∧ q.length ≤ 12 ∧ ∀ a, a < q.length → isChoiceI q.length (q.getD a []) = true ∧ hasI (q.getD a []) a = false := by
  unfold isFameI at h
  rw [Bool.and_eq_true, List.all_eq_true] at h
  obtain ⟨h1, h2⟩ := h
  have h3 := of_decide_eq_true h1
  refine ⟨h3.1, h3.2, fun a ha => ?_⟩
  have := h2 a (List.mem_range.2 ha)
  simpa [fameAt] using this
theorem isFame_size {q : List (List Int)} (h : ¬ (1 ≤ q.length ∧ q.length ≤ 12)) : isFameI q = false := by
  unfold isFameI
  rw [decide_eq_false h, Bool.false_and]
theorem choice_all {n : Nat} {l : List Int} (h : l1AllB l 0 ((n : Int) - 1) = false) : isChoiceI n l = false := by
  cases hc : isChoiceI n l with
  | false => rfl
  | true =>
    rw [l1AllB_yes fun j x _ hx => by have := isChoiceI_mem hc x (List.mem_of_getElem? hx); omega] at h
    cases h
theorem choice_long {n : Nat} (_hn : 1 ≤ n) {l : List Int} (h : n < l.length) : isChoiceI n l = false := by
  cases hc : isChoiceI n l with
  | false => rfl
  | true =>
    rcases isChoiceI_long hc with h2 | h2
    · omega
    · subst h2; simp at h
set_option maxHeartbeats 4000000 in
set_option maxRecDepth 100000 in
theorem haFame_any (q : List (List Int)) (A : Option Addr) (c : Nat) (w : World) (hl : q.length ≤ 1048576) (hm : ∀ l ∈ q, l.length ≤ 1048576) (hA : SRead w w.heap.size A q) :
    Calls Try.prog 83 #[.slice A q.length c] w fun e w' => e = .returned (.bool (isFameI q)) ∧ Below w.heap.size w w' := by
  by_cases h : 1 ≤ q.length ∧ q.length ≤ 12
  · obtain ⟨r, hr⟩ : ∃ r, isFameI q = r := ⟨_, rfl⟩
    rw [hr]
    obtain ⟨n, hn⟩ : ∃ n, q.length = n := ⟨_, rfl⟩
    have h1 : (1 : Int) ≤ (n : Int) := by omega
    have h2 : (n : Int) ≤ 12 := by omega
    have hno : ∀ a, a < n → fameAt n q a = false → r = false := fun a ha hf => by rw [← hr]; exact isFame_no (q := q) (a := a) (by omega) (by rw [hn]; exact hf)
    have hyes : (∀ a, a < n → fameAt n q a = true) → r = true := fun hf => by rw [← hr]; exact isFame_yes (by omega) (by omega) (by rw [hn]; exact hf)
    rw [hn]
    have Hn := Lib.hid hn
    have Hm := Lib.hid hm
    have Hno := Lib.hid hno
    have Hyes := Lib.hid hyes
    clear hno hyes hr hn hm h hl
    go_enter Try.func83, Try.ntmps83
    go_wp2_with (go_at_call 65; refine (l1In_yes _ 1 12 h1 h2 _).mono ?_; rintro e w' ⟨rfl, rfl⟩)
    go_loopw [14] (fun i wr => ∃ a : Nat, a ≤ n ∧ i = .int .i64 a ∧ Below w.heap.size w wr ∧ ∀ j, j < a → fameAt n q j = true) (fun i _ => n - (intOf i).toNat)
    case atStart => exact ⟨0, Nat.zero_le _, rfl, Below.refl _ _, fun j hj => by omega⟩
    case round =>
      obtain ⟨a, ha, rfl, hb, hall⟩ := hrel
      have Hall := Lib.hid hall
      clear hall
      have s0 := hb.size
      by_cases hlt : a < n
      · obtain ⟨l, hx⟩ := getSome q a (by rw [Hn.out]; exact hlt)
        obtain ⟨b, off, A1, c1, rfl, hb1, d1, R1⟩ := (hA.below hb s0) a l hx
        have hll := Hm.out l (List.mem_of_getElem? hx)
        have hai : (a : Int) < (n : Int) := by omega
        have hgd := getD_of hx
        have hfa : fameAt n q a = (isChoiceI n l && !hasI l a) := by unfold fameAt; rw [hgd]
        have Hfa := Lib.hid hfa
        clear hx hgd hfa
        by_cases hlong : n < l.length
        · have hlong' : (n : Int) < (l.length : Int) := by omega
          have hf := Hno.out a hlt (by rw [Hfa.out, choice_long (by omega) hlong, Bool.false_and])
          subst hf
          go_wp2
          go_ret
          exact ⟨rfl, hb⟩
        · have hlong' : ¬ (n : Int) < (l.length : Int) := by omega
          have all := l1All_any l A1 c1 0 ((n : Int) - 1) wr hll R1
          cases hal : l1AllB l 0 ((n : Int) - 1) with
          | false =>
            have hf := Hno.out a hlt (by rw [Hfa.out, choice_all hal, Bool.false_and])
            subst hf
            rw [hal] at all
            have All := Lib.hid all
            clear all hal
            go_wp2_with fail
            refine All.out.mono ?_
            rintro e w2 ⟨rfl, rfl⟩
            go_wp2
            go_ret
            exact ⟨rfl, hb⟩
          | true =>
            rw [hal] at all
            have All := Lib.hid all
            have Hal := Lib.hid hal
            have has := l1Has_any l a A1 c1 wr hll R1
            clear all hal
            cases hha : hasI l a with
            | true =>
              have hf := Hno.out a hlt (by rw [Hfa.out, hha]; simp)
              subst hf
              rw [hha] at has
              have Has := Lib.hid has
              clear has hha
              go_wp2_with fail
              refine All.out.mono ?_
              rintro e w2 ⟨rfl, rfl⟩
              go_wp2_with fail
              refine Has.out.mono ?_
              rintro e w2 ⟨rfl, rfl⟩
              go_wp2
              go_ret
              exact ⟨rfl, hb⟩
            | false =>
              rw [hha] at has
              have Has := Lib.hid has
              have Hha := Lib.hid hha
              have HB := Lib.hid hb
              clear has hha hb
              go_wp2_with fail
              refine All.out.mono ?_
              rintro e w2 ⟨rfl, rfl⟩
              go_wp2_with fail
              refine Has.out.mono ?_
              rintro e w2 ⟨rfl, rfl⟩
              obtain ⟨wo, hwo⟩ : ∃ wo, wo = wr := ⟨wr, rfl⟩
              subst hwo
              go_wp2
              clear d1 All Has
              go_loopw [6] (fun i wx => ∃ k : Nat, 1 ≤ k ∧ (k = 1 ∨ k ≤ l.length) ∧ i = .int .i64 k ∧ (∀ j, j < k → choiceAt n l j = true) ∧ Below wo.heap.size wo wx) (fun i _ => l.length - (intOf i).toNat)
              case atStart =>
                refine ⟨1, Nat.le_refl _, .inl rfl, rfl, fun j hj => ?_, Below.refl _ _⟩
                have h0 : j = 0 := by omega
                subst h0
                cases hx : l[0]? with
                | none => simp [choiceAt, hx]
                | some x =>
                  refine choiceAt_zero rfl hx ?_
                  have h5 := Hal.out
                  simp only [l1AllB, List.all_eq_true, decide_eq_true_eq] at h5
                  have := h5 x (List.mem_of_getElem? hx)
                  omega
              case round =>
                obtain ⟨k, hk1, hkq, rfl, hg, hb⟩ := hrel
                have Hg := Lib.hid hg
                clear hg
                by_cases hlk : k < l.length
                · obtain ⟨y, hy⟩ := getSome l k hlk
                  obtain ⟨x, hx⟩ := getSome l (k - 1) (by omega)
                  obtain ⟨b', off', rfl, hbb, u0⟩ := (R1.below hb (Nat.le_refl _)).int hy
                  obtain ⟨b2, off2, e', _, u1⟩ := (R1.below hb (Nat.le_refl _)).int hx
                  simp only [Option.some.injEq, Addr.mk.injEq, and_true] at e'
                  obtain ⟨rfl, rfl⟩ := e'
                  have hki : (k : Int) < (l.length : Int) := by omega
                  have hk3 : (0 : Int) ≤ (k : Int) - 1 := by omega
                  have hk4 : (k : Int) - 1 < (l.length : Int) := by omega
                  have hty : ((k : Int) - 1).toNat = k - 1 := by omega
                  have hyr : 0 ≤ y ∧ y < n := by
                    have h5 := Hal.out
                    simp only [l1AllB, List.all_eq_true, decide_eq_true_eq] at h5
                    have := h5 y (List.mem_of_getElem? hy)
                    omega
                  have Hx := Lib.hid hx
                  have Hy := Lib.hid hy
                  have Hyr := Lib.hid hyr
                  clear hx hy hyr
                  by_cases hxy : x < y
                  · have hyx : ¬ (y ≤ x) := by omega
                    go_wp2
                    go_quiet (fail)
                    go_wp2
                    go_roundw
                    case rel =>
                      refine ⟨k + 1, by omega, .inr (by omega), by go_num, fun j hj => ?_, ⟨hb.os, hb.tape, hb.output, hb.size, hb.block⟩⟩
                      rcases Nat.lt_succ_iff_lt_or_eq.1 hj with h | rfl
                      · exact Hg.out j h
                      · exact choiceAt_later (by omega) Hx.out Hy.out Hyr.out hxy
                    case measure => simp [intOf]; omega
                  · have hyx : y ≤ x := by omega
                    have hf := Hno.out a hlt (by rw [Hfa.out, isChoiceI_no hlk (choiceAt_stale (p := n) (by omega) Hx.out Hy.out hxy), Bool.false_and])
                    subst hf
                    have kk := HB.out.trans (hb.mono s0)
                    clear hb
                    go_wp2
                    go_quiet (fail)
                    go_wp2
                    go_ret
                    exact ⟨rfl, ⟨kk.os, kk.tape, kk.output, kk.size, kk.block⟩⟩
                · have hge : ¬ ((k : Int) < (l.length : Int)) := by omega
                  have hc := isChoiceI_of (p := n) (q := l) fun j hj => Hg.out j (by omega)
                  have hft := Lib.hid (show fameAt n q a = true by rw [Hfa.out, hc, Hha.out]; rfl)
                  have kk := HB.out.trans (hb.mono s0)
                  clear hc hb
                  go_wp2
                  go_roundw
                  case rel => exact ⟨a + 1, by omega, by go_num, kk, fun j hj => by
                                by_cases hja : j = a
                                · subst hja; exact hft.out
                                · exact Hall.out j (by omega)⟩
                  case measure => simp [intOf]; omega
      · have han : a = n := by omega
        have hge : ¬ ((a : Int) < (n : Int)) := by omega
        have hf := Hyes.out fun j hj => Hall.out j (by omega)
        subst hf
        go_wp2
        go_ret
        exact ⟨rfl, hb⟩
  · rw [isFame_size h]
    go_enter Try.func83, Try.ntmps83
    go_wp2_with (go_at_call 65; refine (l1In_no _ 1 12 (by omega) _).mono ?_; rintro e w' ⟨rfl, rfl⟩)
    go_ret
    exact ⟨rfl, Below.refl _ _⟩
set_option maxHeartbeats 4000000 in
set_option maxRecDepth 100000 in
theorem implIsFame_any (q : List (List Int)) (A : Option Addr) (c : Nat) (w : World) (hl : q.length ≤ 1048576) (hm : ∀ l ∈ q, l.length ≤ 1048576) (hA : SRead w w.heap.size A q) :
    Calls Try.prog 37 #[.slice A q.length c] w fun e w' => e = .returned (.bool (resIsFame q)) ∧ Below w.heap.size w w' := by
  unfold resIsFame
  by_cases hlo : q.length < 1
  · rw [isFame_size (by omega)]
    have hlo' : (q.length : Int) < 1 := by omega
    go_enter Try.func37, Try.ntmps37
    go_wp2
    go_ret
    exact ⟨rfl, Below.refl _ _⟩
  · by_cases hhi : 12 < q.length
    · rw [isFame_size (by omega)]
      have hhi' : (12 : Int) < (q.length : Int) := by omega
      have hlo' : ¬ (q.length : Int) < 1 := by omega
      go_enter Try.func37, Try.ntmps37
      go_wp2
      go_ret
      exact ⟨rfl, Below.refl _ _⟩
    · obtain ⟨r, hr⟩ : ∃ r, isFameI q = r := ⟨_, rfl⟩
      rw [hr]
      obtain ⟨n, hn⟩ : ∃ n, q.length = n := ⟨_, rfl⟩
      have h1 : ¬ (n : Int) < 1 := by omega
      have h2 : ¬ (12 : Int) < (n : Int) := by omega
      have hno : ∀ a, a < n → fameAt n q a = false → r = false := fun a ha hf => by rw [← hr]; exact isFame_no (q := q) (a := a) (by omega) (by rw [hn]; exact hf)
      have hyes : (∀ a, a < n → fameAt n q a = true) → r = true := fun hf => by rw [← hr]; exact isFame_yes (by omega) (by omega) (by rw [hn]; exact hf)
      have d1 : decide ((n : Int) < 1) = false := decide_eq_false h1
      have d2 : decide ((12 : Int) < (n : Int)) = false := decide_eq_false h2
      rw [hn]
      have Hn := Lib.hid hn
      have Hm := Lib.hid hm
      have Hno := Lib.hid hno
      have Hyes := Lib.hid hyes
      clear hno hyes hr hn hm hl
      go_enter Try.func37, Try.ntmps37
      go_wp2
      clear d1 d2
      go_loopw [19] (fun i wr => ∃ a : Nat, a ≤ n ∧ i = .int .i64 a ∧ Below (w.heap.size + 1) (w.alloc (Obj.cells #[.int .i64 n, .slice none 0 0] 24)) wr ∧ ∀ j, j < a → fameAt n q j = true) (fun i _ => n - (intOf i).toNat)
      case atStart => exact ⟨0, Nat.zero_le _, rfl, Below.refl _ _, fun j hj => by omega⟩
      case round =>
        obtain ⟨a, ha, rfl, hb, hall⟩ := hrel
        have Hall := Lib.hid hall
        clear hall
        have s0 := hb.size
        simp only [World.size_alloc] at s0
        have kw : Below w.heap.size w wr := Below.trans (b := _) (by go_grown) (hb.mono (by omega))
        have a0 : wr.cell? ⟨w.heap.size, 0, none⟩ = some (.int .i64 n) := carry hb (by simp) (by simp)
        have a1 : wr.cell? ⟨w.heap.size, 1, none⟩ = some (.slice none 0 0) := carry hb (by simp) (by simp)
        by_cases hlt : a < n
        · obtain ⟨l, hx⟩ := getSome q a (by rw [Hn.out]; exact hlt)
          obtain ⟨b, off, A1, c1, rfl, hb1, d1, R1⟩ := (hA.below kw kw.size) a l hx
          have hll := Hm.out l (List.mem_of_getElem? hx)
          have hai : (a : Int) < (n : Int) := by omega
          have hgd := getD_of hx
          have hfa : fameAt n q a = (isChoiceI n l && !hasI l a) := by unfold fameAt; rw [hgd]
          have Hfa := Lib.hid hfa
          have ch := isChoice_any (n : Int) l none A1 0 0 c1 wr hll R1
          clear hx hgd hfa
          cases hch : isChoiceI n l with
          | false =>
            have hf := Hno.out a hlt (by rw [Hfa.out, hch, Bool.false_and])
            subst hf
            rw [hch] at ch
            have Ch := Lib.hid ch
            clear ch hch
            go_wp2_with fail
            refine Ch.out.mono ?_
            rintro e w2 ⟨rfl, hb2⟩
            have k2 := kw.trans (hb2.mono kw.size)
            clear a0 a1 hb2 d1
            go_wp2
            go_ret
            exact ⟨rfl, k2⟩
          | true =>
            rw [hch] at ch
            have Ch := Lib.hid ch
            have Hch := Lib.hid hch
            clear ch hch
            obtain ⟨hh, hhe⟩ : ∃ hh, hasI l a = hh := ⟨_, rfl⟩
            have Hh := Lib.hid hhe
            clear hhe
            go_wp2_with fail
            refine Ch.out.mono ?_
            rintro e w2 ⟨rfl, hb2⟩
            have k2 := kw.trans (hb2.mono kw.size)
            have b2 := hb.trans (hb2.mono (by omega))
            have con := containsI_any l a A1 c1 w2 hll ((R1.below hb2 (Nat.le_refl _)).more hb2.size)
            rw [Hh.out] at con
            have Con := Lib.hid con
            clear a0 a1 hb2 d1 con
            go_wp2_with fail
            refine Con.out.mono ?_
            rintro e w3 ⟨rfl, rfl⟩
            cases hh with
            | true =>
              have hf := Hno.out a hlt (by rw [Hfa.out, Hh.out]; simp)
              subst hf
              go_wp2
              go_ret
              exact ⟨rfl, k2⟩
            | false =>
              have hft := Lib.hid (show fameAt n q a = true by rw [Hfa.out, Hch.out, Hh.out]; rfl)
              go_wp2
              go_roundw
              case rel => exact ⟨a + 1, by omega, by go_num, b2, fun j hj => by
                            by_cases hja : j = a
                            · subst hja; exact hft.out
                            · exact Hall.out j (by omega)⟩
              case measure => simp [intOf]; omega
        · have han : a = n := by omega
          have hge : ¬ ((a : Int) < (n : Int)) := by omega
          have hf := Hyes.out fun j hj => Hall.out j (by omega)
          subst hf
          go_wp2
          go_ret
          exact ⟨rfl, kw⟩
theorem specIsFame_any (q : List (List Int)) (A : Option Addr) (c : Nat) (w : World) (hl : q.length ≤ 1048576) (hm : ∀ l ∈ q, l.length ≤ 1048576) (hA : SRead w w.heap.size A q) :
    Calls Try.prog 35 #[.slice A q.length c] w fun e w' => e = .returned (.bool (resIsFame q)) ∧ Below w.heap.size w w' := by
  go_enter Try.func35, Try.ntmps35
  go_wp2_with fail
  refine (haFame_any q A c _ hl hm hA).mono ?_
  rintro e w2 ⟨rfl, hb2⟩
  go_wp2
  go_ret
  exact ⟨rfl, hb2⟩
end Go.Proofs.Ytgkedgfbncljbaa
/-
  'laws.FnExactIsFame' returns true, whatever its arguments: out of the contracts of the model's function and of the program's.
-/
namespace Go.Proofs.Ytgkedgfbncljbaa
open Go.RowKit

set_option maxHeartbeats 4000000 in
set_option maxRecDepth 100000 in
theorem lawIsFame_any (q0 : List (List Int)) (A0 : Option Addr) (c0 : Nat) (W : World) (hl0 : q0.length ≤ maxLen) (hk0 : ∀ l ∈ q0, l.length ≤ maxLen) (hA0 : SRead W W.heap.size A0 q0) :
    Calls Try.prog 7 #[.slice A0 q0.length c0] W fun e w' => e = .returned (.bool true) ∧ Below W.heap.size W w' := by
  have hone : (0 : Int) ≤ 1 ∧ (1 : Int) ≤ 16777216 := by omega
  by_cases hz0 : szLL 1048576 (q0.map List.length) < 0
  · go_enter Try.func7, Try.ntmps7
    go_wp2_with fail
    refine (szIntSS_any q0 A0 c0 _ hl0 hk0 hA0).mono ?_
    rintro e w0 ⟨rfl, rfl⟩
    go_wp2
    go_ret
    exact ⟨rfl, by go_grown⟩
  obtain ⟨hn0, hs0⟩ := szLL_ok hz0
  rw [List.length_map] at hn0
  have hm0 : ∀ l ∈ q0, l.length ≤ 1048576 := fun l h => by have h1 : l.length ≤ sumL q0 := sumL_row h; unfold sumL at h1; omega
  obtain ⟨rb, hres⟩ : ∃ r, resIsFame q0 = r := ⟨_, rfl⟩
  have Hres := Lib.hid hres
  clear hres
  go_enter Try.func7, Try.ntmps7
  go_wp2_with fail
  refine (szIntSS_any q0 A0 c0 _ hl0 hk0 hA0).mono ?_
  rintro e w0 ⟨rfl, rfl⟩
  go_wp2_with fail
  refine (toIntSS_any q0 A0 c0 _ hn0 hm0 hA0).mono ?_
  rintro e w1 ⟨T1, d1, R1, C1, rfl, n1, hb1⟩
  have g1 : Below W.heap.size W w1 := hb1
  have s1 := hb1.size
  have k1 : Below W.heap.size W w1 := g1
  go_wp2_with fail
  refine (specIsFame_any q0 _ _ _ hn0 hm0 (RowsL.read n1)).mono ?_
  rw [Hres.out]
  rintro e w2 ⟨rfl, hb2⟩
  have g2 : Below w1.heap.size w1 w2 := hb2
  have s2 := hb2.size
  have m2_0 := RowsL.below n1 g2
  have k2 := k1.trans (g2.mono k1.size)
  clear n1
  clear m2_0
  go_wp2_with fail
  refine (toIntSS_any q0 A0 c0 _ hn0 hm0 ((hA0.below k2 (Nat.le_refl _)).more k2.size)).mono ?_
  rintro e w3 ⟨T3, d3, R3, C3, rfl, n3, hb3⟩
  have g3 : Below w2.heap.size w2 w3 := hb3
  have s3 := hb3.size
  have k3 := k2.trans (g3.mono k2.size)
  go_wp2_with fail
  refine (implIsFame_any q0 _ _ _ hn0 hm0 (RowsL.read n3)).mono ?_
  rw [Hres.out]
  rintro e w4 ⟨rfl, hb4⟩
  have g4 : Below w3.heap.size w3 w4 := hb4
  have s4 := hb4.size
  have m4_0 := RowsL.below n3 g4
  have k4 := k3.trans (g4.mono k3.size)
  clear n3
  go_wp2_with fail
  refine (toIntSS_any q0 A0 c0 _ hn0 hm0 ((hA0.below k4 (Nat.le_refl _)).more k4.size)).mono ?_
  rintro e w5 ⟨T5, d5, R5, C5, rfl, n5, hb5⟩
  have g5 : Below w4.heap.size w4 w5 := hb5
  have s5 := hb5.size
  have m5_0 := RowsL.below m4_0 g5
  have k5 := k4.trans (g5.mono k4.size)
  clear m4_0
  go_wp2_with fail
  refine (eqIntSS_same q0 _ _ _ _ _ hl0 hk0 (RowsL.read m5_0) (RowsL.read n5)).mono ?_
  rintro e w6 ⟨rfl, hb6⟩
  have g6 : Below w5.heap.size w5 w6 := hb6
  have s6 := hb6.size
  have m6_0 := RowsL.below m5_0 g6
  have m6_1 := RowsL.below n5 g6
  have k6 := k5.trans (g6.mono k5.size)
  clear m5_0 n5
  clear m6_1
  go_wp2
  go_ret
  exact ⟨rfl, k6⟩
end Go.Proofs.Ytgkedgfbncljbaa
/-
  THE PROGRAM's HEAD, LOOKED AT ONCE: which make it is, and that a call may enter it. (The head's text is long: the kernel must not read it twice.)
-/
namespace Go.Proofs.Ytgkedgfbncljbaa

theorem make_of {P : Program} {rest : List (List Char)} (h : behindMainWord (wordsSigns P.initOrder.toList) = "cut".toList :: rest) : P.make = some .cut := by
  unfold Program.make
  rw [h]
  rfl
theorem strip_cut (rest : List (List Char)) : stripLifts liftWords ("cut".toList :: rest) = ([], "cut".toList :: rest) := rfl
theorem lifts_of {P : Program} {rest : List (List Char)} (h : behindMainWord (wordsSigns P.initOrder.toList) = "cut".toList :: rest) : P.headLifts = [] := by
  unfold Program.headLifts
  rw [h, strip_cut]
  rfl
theorem final_of {P : Program} {rest : List (List Char)} (h : behindMainWord (wordsSigns P.initOrder.toList) = "cut".toList :: rest) : P.liftsFinal = false := by
  unfold Program.liftsFinal
  rw [lifts_of h, h]
  rfl
theorem enter_of {P : Program} {rest : List (List Char)} (h : behindMainWord (wordsSigns P.initOrder.toList) = "cut".toList :: rest) (h1 : P.laysLater = false) (h2 : P.bearsReflect = false) (h3 : P.doorFits [] = true) : P.mayEnter = true := by
  unfold Program.mayEnter
  rw [h]
  show (_ || _ || _) = true
  rw [strip_cut, h1, h2, h3]
  rfl
end Go.Proofs.Ytgkedgfbncljbaa
/-
  THE PROGRAM's CLOSED FACTS, EACH ONCE; and how a row's facts are put together out of them.
-/
namespace Go.Proofs.Ytgkedgfbncljbaa
open Go.ChangeShapes Go.WideShapes Go.ChangeAt Go.RowKit

def headSigns : List Char := ([104, 97, 114, 110, 101, 115, 115, 32, 101, 55, 102, 51, 56, 98, 52, 99, 56, 52, 101, 50, 52, 55, 100, 53, 55, 53, 52, 101, 101, 51, 99, 55, 55, 100, 100, 100, 52, 97, 57, 101, 49, 49, 56, 97, 50, 100, 56, 53, 49, 101, 48, 48, 48, 56, 100, 101, 54, 100, 49, 48, 57, 102, 53, 50, 50, 55, 49, 51, 56, 55, 100, 101, 32, 99, 117, 116, 32, 97, 116, 32, 108, 111, 111, 112, 46, 101, 120, 97, 109, 112, 108, 101, 47, 103, 48, 49, 50, 53, 55, 47, 108, 97, 119, 115, 46, 70, 110, 69, 120, 97, 99, 116, 67, 111, 117, 112, 108, 101, 115, 80, 97, 114, 116, 121, 32, 108, 111, 111, 112, 46, 101, 120, 97, 109, 112, 108, 101, 47, 103, 48, 49, 50, 53, 55, 47, 108, 97, 119, 115, 46, 70, 110, 69, 120, 97, 99, 116, 65, 114, 101, 67, 111, 117, 112, 108, 101, 115, 32, 108, 111, 111, 112, 46, 101, 120, 97, 109, 112, 108, 101, 47, 103, 48, 49, 50, 53, 55, 47, 108, 97, 119, 115, 46, 70, 110, 69, 120, 97, 99, 116, 84, 111, 108, 100, 78, 117, 109, 98, 101, 114, 115, 32, 108, 111, 111, 112, 46, 101, 120, 97, 109, 112, 108, 101, 47, 103, 48, 49, 50, 53, 55, 47, 108, 97, 119, 115, 46, 70, 110, 69, 120, 97, 99, 116, 83, 112, 111, 117, 115, 101, 78, 117, 109, 98, 101, 114, 32, 108, 111, 111, 112, 46, 101, 120, 97, 109, 112, 108, 101, 47, 103, 48, 49, 50, 53, 55, 47, 108, 97, 119, 115, 46, 70, 110, 69, 120, 97, 99, 116, 73, 115, 70, 97, 109, 101, 32, 108, 111, 111, 112, 46, 101, 120, 97, 109, 112, 108, 101, 47, 103, 48, 49, 50, 53, 55, 47, 108, 97, 119, 115, 46, 70, 110, 69, 120, 97, 99, 116, 83, 116, 97, 114, 79, 102, 32, 108, 111, 111, 112, 46, 101, 120, 97, 109, 112, 108, 101, 47, 103, 48, 49, 50, 53, 55, 47, 108, 97, 119, 115, 46, 70, 110, 69, 120, 97, 99, 116, 81, 117, 101, 115, 116, 105, 111, 110, 115, 70, 111, 114, 83, 116, 97, 114, 32, 108, 111, 111, 112, 46, 101, 120, 97, 109, 112, 108, 101, 47, 103, 48, 49, 50, 53, 55, 47, 108, 97, 119, 115, 46, 70, 110, 69, 120, 97, 99, 116, 65, 114, 101, 67, 97, 108, 108, 115, 32, 108, 111, 111, 112, 46, 101, 120, 97, 109, 112, 108, 101, 47, 103, 48, 49, 50, 53, 55, 47, 108, 97, 119, 115, 46, 70, 110, 69, 120, 97, 99, 116, 65, 108, 108, 75, 110, 111, 119, 65, 108, 108, 32, 108, 111, 111, 112, 46, 101, 120, 97, 109, 112, 108, 101, 47, 103, 48, 49, 50, 53, 55, 47, 108, 97, 119, 115, 46, 70, 110, 69, 120, 97, 99, 116, 70, 101, 119, 101, 115, 116, 67, 97, 108, 108, 115, 32, 108, 111, 111, 112, 46, 101, 120, 97, 109, 112, 108, 101, 47, 103, 48, 49, 50, 53, 55, 47, 108, 97, 119, 115, 46, 70, 110, 69, 120, 97, 99, 116, 71, 111, 115, 115, 105, 112, 67, 97, 108, 108, 115, 32, 108, 111, 111, 112, 46, 101, 120, 97, 109, 112, 108, 101, 47, 103, 48, 49, 50, 53, 55, 47, 108, 97, 119, 115, 46, 70, 110, 69, 120, 97, 99, 116, 85, 115, 101, 108, 101, 115, 115, 67, 97, 108, 108, 115, 32, 108, 111, 111, 112, 46, 101, 120, 97, 109, 112, 108, 101, 47, 103, 48, 49, 50, 53, 55, 47, 108, 97, 119, 115, 46, 70, 110, 69, 120, 97, 99, 116, 70, 105, 114, 115, 116, 72, 101, 97, 114, 100, 32, 108, 111, 111, 112, 46, 101, 120, 97, 109, 112, 108, 101, 47, 103, 48, 49, 50, 53, 55, 47, 108, 97, 119, 115, 46, 70, 110, 69, 120, 97, 99, 116, 82, 111, 117, 110, 100, 115, 70, 111, 114, 65, 108, 108, 32, 108, 111, 111, 112, 46, 101, 120, 97, 109, 112, 108, 101, 47, 103, 48, 49, 50, 53, 55, 47, 108, 97, 119, 115, 46, 70, 110, 69, 120, 97, 99, 116, 82, 111, 117, 110, 100, 67, 97, 108, 108, 115] : List Nat).map Char.ofNat
set_option maxRecDepth 100000 in
theorem Try.initOrder_is : Try.prog.initOrder = String.ofList headSigns := by kernel_rfl
theorem Try.initOrder_signs : Try.prog.initOrder.toList = headSigns := by rw [Try.initOrder_is]; exact String.toList_ofList
set_option maxRecDepth 100000 in
theorem head_words : (behindMainWord (wordsSigns headSigns)).take 1 = ["cut".toList] := by kernel_rfl
theorem Try.words : ∃ rest, behindMainWord (wordsSigns Try.prog.initOrder.toList) = "cut".toList :: rest := by
  rw [Try.initOrder_signs]
  have h := List.take_append_drop 1 (behindMainWord (wordsSigns headSigns))
  rw [head_words] at h
  exact ⟨_, h.symm⟩
theorem Try.make : Try.prog.make = some .cut := by obtain ⟨_, h⟩ := Try.words; exact make_of h
theorem Try.liftsFinal : Try.prog.liftsFinal = false := by obtain ⟨_, h⟩ := Try.words; exact final_of h
theorem Try.laysLater : Try.prog.laysLater = false := by kernel_rfl
theorem Try.bearsReflect : Try.prog.bearsReflect = false := by kernel_rfl
theorem Try.doorFits : Try.prog.doorFits [] = true := by kernel_rfl
theorem Try.mayEnter : Try.prog.mayEnter = true := by obtain ⟨_, h⟩ := Try.words; exact enter_of h Try.laysLater Try.bearsReflect Try.doorFits
theorem Try.mapsRowed : mapsRowed Try.prog = true := by kernel_rfl
theorem Try.stops : (Try.prog.stops == []) = true := by kernel_rfl
theorem Try.stopKnobs : (Try.prog.stopKnobs == []) = true := by kernel_rfl
theorem Try.plainKeys : Try.prog.plainKeys = true := by kernel_rfl
theorem Try.stopsHeard : Try.prog.stopsHeard = true := by kernel_rfl

/-- What the types of one law give: closed facts on its parameters and its result. -/
def typeFacts (P : Program) (fn : Func) (s : ChangeSpec) (c : OpenClaim) : Bool :=
  fn.params.all (P.readableRec ·) && namedTie P c.named s.vars && (c.stops == []) && (c.knobs == []) &&
  (c.maps == (fn.params.toList ++ s.plain.varTypes P).any (P.mapsRec ·)) && (c.ifaces == (fn.params.toList ++ s.plain.varTypes P).any (P.ifacesRec ·)) && (c.mapsOut == P.mapsAmong fn.resultTypes.toList) &&
  (c.loops == (fn.params.toList ++ s.plain.varTypes P).any (P.loopsFrom ·)) && (c.wideKeys == (fn.params.toList ++ s.plain.varTypes P ++ fn.resultTypes.toList).any (P.wideKeysFrom ·)) &&
  s.vars.all (P.varReadable ·) && fn.resultTypes.all (fun t => P.readableRec t && decide (t < P.types.size)) && (c.ifacesOut == fn.resultTypes.toList.any (P.ifacesRec ·)) && (c.loopsOut == fn.resultTypes.toList.any (P.loopsFrom ·)) && c.shortTexts.isNone &&
  (c.kinds == (if c.domain.isEmpty then [] else fn.params.toList.map fun t => match P.underlying t with | some (.int k) => some k | _ => none)) && (c.pinned == c.pinnedBy) &&
  (c.veiled == (fn.params.toList ++ s.plain.varTypes P ++ fn.resultTypes.toList).any (P.veiledRec ·)) && c.veiledFits P fn.params.toList (fn.params.toList ++ s.plain.varTypes P ++ fn.resultTypes.toList)
theorem joined_all {P : Program} {f : FuncId} {fn : Func} {s : ChangeSpec} {c : OpenClaim} (k1 : c.wf (OpenSpec.ofChange s) = true) (kt : typeFacts P fn s c = true)
    (k10 : (c.inPlace == P.inPlace f) = true) (k11 : (c.unfollowed == P.unfollowed f) = true) (k12 : (c.recurses == P.recurses f) = true) (k13 : (c.named == P.varsNamed f) = true)
    (e2 : laidOutB P = true) (e3 : mapsRowed P = true) (e7 : (P.stops == []) = true) (e9 : (P.stopKnobs == []) = true) (e22 : (c.plainKeys == P.plainKeys) = true) (e23 : P.stopsHeard = true) (e24 : P.mayEnter = true)
    (e24b : (c.lifted == P.liftsFinal) = true) (e24c : (P.make == some c.make) = true) : joinedFacts P f fn s c = true := by
  unfold typeFacts at kt
  unfold joinedFacts
  simp only [Bool.and_eq_true] at kt ⊢
  obtain ⟨⟨⟨⟨⟨⟨⟨⟨⟨⟨⟨⟨⟨⟨⟨⟨⟨t1, t2⟩, t3⟩, t4⟩, t5⟩, t6⟩, t7⟩, t8⟩, t9⟩, t10⟩, t11⟩, t12⟩, t13⟩, t14⟩, t15⟩, t16⟩, t17⟩, t18⟩ := kt
  exact ⟨⟨⟨⟨⟨⟨⟨⟨⟨⟨⟨⟨⟨⟨⟨⟨⟨⟨⟨⟨⟨⟨⟨⟨⟨⟨⟨⟨⟨⟨⟨k1, e2⟩, e3⟩, t1⟩, t2⟩, t3⟩, e7⟩, t4⟩, e9⟩, k10⟩, k11⟩, k12⟩, k13⟩, t5⟩, t6⟩, t7⟩, t8⟩, t9⟩, t10⟩, t11⟩, t12⟩, t13⟩, e22⟩, t14⟩, e23⟩, e24⟩, e24b⟩, e24c⟩, t15⟩, t16⟩, t17⟩, t18⟩
theorem joined_of {f : FuncId} {fn : Func} {s : ChangeSpec} {c : OpenClaim} (k1 : c.wf (OpenSpec.ofChange s) = true) (kt : typeFacts Try.prog fn s c = true)
    (k10 : (c.inPlace == Try.prog.inPlace f) = true) (k11 : (c.unfollowed == Try.prog.unfollowed f) = true) (k12 : (c.recurses == Try.prog.recurses f) = true) (k13 : (c.named == Try.prog.varsNamed f) = true)
    (k22 : c.plainKeys = true) (k24b : c.lifted = false) (k24c : c.make = .cut) : joinedFacts Try.prog f fn s c = true :=
  joined_all k1 kt k10 k11 k12 k13 Try.laidOut Try.mapsRowed Try.stops Try.stopKnobs (by rw [k22, Try.plainKeys]; rfl) Try.stopsHeard Try.mayEnter (by rw [k24b, Try.liftsFinal]; rfl) (by rw [k24c, Try.make]; rfl)
end Go.Proofs.Ytgkedgfbncljbaa
