/-
  Texts put together for the claim of 'QuestionsForStar' (pack 4): Nums, NumsW, FameI, StarP, Ask, PairsR, StarI, StarQ, StarT.
-/
import Derived.Test.YtgkedgfbncljbaaQuestionsForStarP1
import Derived.Test.YtgkedgfbncljbaaQuestionsForStarP2
import Derived.Test.YtgkedgfbncljbaaQuestionsForStarP3
import Derived.BigQuiet
import Derived.Deep.RegionLaw
import Derived.Deep.RegionHeld3
import Derived.Deep.AppendLies
/-
  LISTS OF NUMBERS OF FRIENDS AS PLAIN LISTS: what numbers are; sorted so that they are falling; sums; where they fail. Nothing here speaks of the program.
-/
namespace Go.Proofs.Ytgkedgfbncljbaa

def isNums (q : List Int) : Bool := decide (q.length ≤ 12) && q.all fun x => decide (0 ≤ x ∧ x < q.length)
theorem isNums_len {q : List Int} (h : isNums q = true) : q.length ≤ 12 := by
  simp only [isNums, Bool.and_eq_true, decide_eq_true_eq] at h
  exact h.1
theorem isNums_mem {q : List Int} (h : isNums q = true) : ∀ x ∈ q, 0 ≤ x ∧ x < q.length := by
  simp only [isNums, Bool.and_eq_true, List.all_eq_true, decide_eq_true_eq] at h
  exact h.2
theorem isNums_at {q : List Int} (h : isNums q = true) {k : Nat} {x : Int} (hx : q[k]? = some x) : 0 ≤ x ∧ x < q.length := isNums_mem h x (List.mem_of_getElem? hx)
theorem isNums_of {q : List Int} (h : q.length ≤ 12) (h2 : ∀ (k : Nat) (x : Int), k < q.length → q[k]? = some x → 0 ≤ x ∧ x < q.length) : isNums q = true := by
  simp only [isNums, Bool.and_eq_true, List.all_eq_true, decide_eq_true_eq]
  refine ⟨h, fun x hx => ?_⟩
  obtain ⟨i, hi, rfl⟩ := List.getElem_of_mem hx
  exact h2 i _ hi (List.getElem?_eq_getElem hi)
theorem isNums_bad {q : List Int} {k : Nat} {x : Int} (hx : q[k]? = some x) (h : ¬ (0 ≤ x ∧ x < q.length)) : isNums q = false := by
  cases he : isNums q with
  | false => rfl
  | true => exact absurd (isNums_at he hx) h
theorem isNums_many {q : List Int} (h : 12 < q.length) : isNums q = false := by
  cases he : isNums q with
  | false => rfl
  | true => have := isNums_len he; omega

/-! ## Falling -/
def fall (q : List Int) : List Int := q.mergeSort fun x y => decide (y ≤ x)
theorem fall_perm (q : List Int) : (fall q).Perm q := List.mergeSort_perm _ _
theorem fall_length (q : List Int) : (fall q).length = q.length := (fall_perm q).length_eq
theorem fall_mem {q : List Int} {x : Int} : x ∈ fall q ↔ x ∈ q := (fall_perm q).mem_iff
theorem fall_sorted (q : List Int) : (fall q).Pairwise fun x y => y ≤ x := by
  have h := List.pairwise_mergeSort (le := fun x y : Int => decide (y ≤ x)) (by intro a b c; simp; omega) (by intro a b; simp; omega) q
  exact h.imp (by simp)
theorem fall_unique {l q : List Int} (hs : l.Pairwise fun x y => y ≤ x) (hp : l.Perm q) : l = fall q :=
  List.Perm.eq_of_pairwise (le := fun x y : Int => y ≤ x) (fun a b _ _ h1 h2 => by omega) hs (fall_sorted q) (hp.trans (fall_perm q).symm)
theorem fall_nums {q : List Int} (h : isNums q = true) : isNums (fall q) = true := by
  refine isNums_of (by rw [fall_length]; exact isNums_len h) fun k x _ hx => ?_
  have := isNums_mem h x (fall_mem.1 (List.mem_of_getElem? hx))
  rw [fall_length]
  exact this

/-- the numbers from n down, j of them, each as often as it is in the list -/
def blockI (q : List Int) (x : Int) : List Int := q.filter fun y => decide (x = y)
def descI (q : List Int) (n j : Nat) : List Int := (List.range j).flatMap fun i : Nat => blockI q ((n : Int) - (i : Int))
theorem descI_zero (q : List Int) (n : Nat) : descI q n 0 = [] := rfl
theorem descI_next (q : List Int) (n j : Nat) : descI q n (j + 1) = descI q n j ++ blockI q ((n : Int) - j) := by
  unfold descI
  rw [List.range_succ, List.flatMap_append]
  simp
theorem blockI_snoc (q : List Int) (x y : Int) : blockI (q ++ [y]) x = blockI q x ++ if x = y then [y] else [] := by
  unfold blockI
  rw [List.filter_append]
  congr 1
  by_cases h : x = y
  · rw [if_pos h, List.filter_cons_of_pos (by simpa using h)]; rfl
  · rw [if_neg h, List.filter_cons_of_neg (by simpa using h)]; rfl
theorem mem_blockI {q : List Int} {x y : Int} : y ∈ blockI q x ↔ y ∈ q ∧ x = y := by simp [blockI]
theorem mem_descI {q : List Int} {n j : Nat} {y : Int} : y ∈ descI q n j ↔ y ∈ q ∧ (n : Int) - j < y ∧ y ≤ n := by
  simp only [descI, List.mem_flatMap, List.mem_range, mem_blockI]
  constructor
  · rintro ⟨i, hi, hy, rfl⟩; exact ⟨hy, by omega, by omega⟩
  · rintro ⟨hy, h1, h2⟩; exact ⟨((n : Int) - y).toNat, by omega, hy, by omega⟩
theorem descI_sorted (q : List Int) (n j : Nat) : (descI q n j).Pairwise fun x y => y ≤ x := by
  induction j with
  | zero => exact List.Pairwise.nil
  | succ j ih =>
    rw [descI_next, List.pairwise_append]
    refine ⟨ih, ?_, fun a ha b hb => ?_⟩
    · rw [List.pairwise_iff_getElem]
      intro a b ha hb _
      have h1 := (mem_blockI.1 (List.getElem_mem ha)).2
      have h2 := (mem_blockI.1 (List.getElem_mem hb)).2
      omega
    · have h1 := mem_descI.1 ha
      have h2 := (mem_blockI.1 hb).2
      omega
theorem count_blockI (q : List Int) (x y : Int) : (blockI q x).count y = if x = y then q.count y else 0 := by
  unfold blockI
  by_cases h : x = y
  · subst h
    rw [if_pos rfl, List.count_filter (by simp)]
  · rw [if_neg h, List.count_eq_zero]
    intro hm
    exact h (by simpa using (List.mem_filter.1 hm).2)
theorem count_descI (q : List Int) (n j : Nat) (y : Int) : (descI q n j).count y = if (n : Int) - j < y ∧ y ≤ n then q.count y else 0 := by
  induction j with
  | zero => rw [descI_zero, if_neg (by omega)]; rfl
  | succ j ih =>
    rw [descI_next, List.count_append, ih, count_blockI]
    by_cases h1 : (n : Int) - j = y
    · rw [if_pos h1, if_neg (by omega), if_pos (by omega), Nat.zero_add]
    · rw [if_neg h1, Nat.add_zero]
      by_cases h2 : (n : Int) - j < y ∧ y ≤ n
      · rw [if_pos h2, if_pos (by omega)]
      · rw [if_neg h2, if_neg (by omega)]
theorem descI_fall {q : List Int} (h : isNums q = true) : descI q q.length (q.length + 1) = fall q := by
  refine fall_unique (descI_sorted _ _ _) (List.perm_iff_count.2 fun y => ?_)
  rw [count_descI]
  split
  · rfl
  · rename_i hn
    symm
    rw [List.count_eq_zero]
    intro hy
    have := isNums_mem h y hy
    omega
theorem descI_le (q : List Int) (n j : Nat) : (descI q n j).length ≤ j * q.length := by
  induction j with
  | zero => simp [descI_zero]
  | succ j ih =>
    rw [descI_next, List.length_append, Nat.add_mul, Nat.one_mul]
    have : (blockI q ((n : Int) - j)).length ≤ q.length := List.length_filter_le _ _
    omega
theorem blockI_le (q : List Int) (x : Int) : (blockI q x).length ≤ q.length := List.length_filter_le _ _

/-! ## Sums -/
def sumI (q : List Int) : Int := q.foldl (· + ·) 0
theorem sumI_snoc (q : List Int) (x : Int) : sumI (q ++ [x]) = sumI q + x := by simp [sumI, List.foldl_append]
theorem sumI_nil : sumI [] = 0 := rfl
/-- a bound of the sum of a beginning -/
theorem sumI_take_bound {q : List Int} {m : Int} (hm : 0 ≤ m) (h : ∀ x ∈ q, 0 ≤ x ∧ x ≤ m) : ∀ k, 0 ≤ sumI (q.take k) ∧ sumI (q.take k) ≤ k * m := by
  intro k
  induction k with
  | zero => simp [sumI_nil]
  | succ k ih =>
    rw [List.take_add_one]
    have e : ((k + 1 : Nat) : Int) * m = k * m + m := by rw [Int.natCast_add, Int.add_mul]; simp
    rw [e]
    cases hx : q[k]? with
    | none => simp; omega
    | some x =>
      have := h x (List.mem_of_getElem? hx)
      rw [Option.toList_some, sumI_snoc]
      omega
theorem sumI_perm {q l : List Int} (h : q.Perm l) : sumI q = sumI l := by
  unfold sumI
  exact h.foldl_eq' (fun x _ y _ z => by omega) 0

/-! ## Where numbers fail -/
def minsI (k : Int) (q : List Int) : List Int := q.map fun x => if k < x then k else x
theorem minsI_snoc (k : Int) (q : List Int) (x : Int) : minsI k (q ++ [x]) = minsI k q ++ [if k < x then k else x] := by simp [minsI]
def mostI (s : List Int) (k : Nat) : Int := (k : Int) * (k - 1) + sumI (minsI k (s.drop k))
def failAt (s : List Int) (k : Nat) : Bool := decide (mostI s k < sumI (s.take k))
def failsI (s : List Int) : Int := match (List.range s.length).find? fun i => failAt s (i + 1) with | none => 0 | some i => (i : Int) + 1
theorem failsI_at {s : List Int} {k : Nat} (hk : k < s.length) (h : ∀ j, j < k → failAt s (j + 1) = false) (hf : failAt s (k + 1) = true) : failsI s = k + 1 := by
  have : (List.range s.length).find? (fun i => failAt s (i + 1)) = some k := by
    rw [List.find?_range_eq_some]
    exact ⟨hf, by simpa using hk, fun j hj => by simp [h j hj]⟩
  unfold failsI
  rw [this]
theorem failsI_none {s : List Int} (h : ∀ j, j < s.length → failAt s (j + 1) = false) : failsI s = 0 := by
  have : (List.range s.length).find? (fun i => failAt s (i + 1)) = none := by
    rw [List.find?_range_eq_none]
    intro j hj
    simp [h j hj]
  unfold failsI
  rw [this]
theorem failsI_range (s : List Int) : 0 ≤ failsI s ∧ failsI s ≤ s.length := by
  unfold failsI
  split
  · omega
  · rename_i i hi
    have := List.mem_of_find?_eq_some hi
    rw [List.mem_range] at this
    omega
theorem minsI_bound {s : List Int} {m k : Int} (hk : 0 ≤ k) (h : ∀ x ∈ s, 0 ≤ x ∧ x ≤ m) : ∀ x ∈ minsI k s, 0 ≤ x ∧ x ≤ m := by
  intro x hx
  obtain ⟨y, hy, rfl⟩ := List.mem_map.1 hx
  have := h y hy
  split <;> omega
/-- they can be -/
def canI (q : List Int) : Bool := decide (sumI q % 2 = 0) && decide (failsI (fall q) = 0)
end Go.Proofs.Ytgkedgfbncljbaa
/-
  NUMBERS OF FRIENDS: what they are, by the model's and the program's contracts.
-/
namespace Go.Proofs.Ytgkedgfbncljbaa
open Go.RowKit

def l1AllB (q : List Int) (lo hi : Int) : Bool := q.all fun x => decide (lo ≤ x ∧ x ≤ hi)
theorem l1AllB_yes {q : List Int} {lo hi : Int} (h : ∀ (j : Nat) (x : Int), j < q.length → q[j]? = some x → lo ≤ x ∧ x ≤ hi) : l1AllB q lo hi = true := by
  simp only [l1AllB, List.all_eq_true, decide_eq_true_eq]
  intro x hx
  obtain ⟨i, hi, rfl⟩ := List.getElem_of_mem hx
  exact h i _ hi (List.getElem?_eq_getElem hi)
theorem l1AllB_no {q : List Int} {lo hi : Int} {k : Nat} {x : Int} (hx : q[k]? = some x) (h : ¬ (lo ≤ x ∧ x ≤ hi)) : l1AllB q lo hi = false := by
  cases he : l1AllB q lo hi with
  | false => rfl
  | true =>
    simp only [l1AllB, List.all_eq_true, decide_eq_true_eq] at he
    exact absurd (he x (List.mem_of_getElem? hx)) h

set_option maxHeartbeats 1000000 in
theorem l1All_any (q : List Int) (A : Option Addr) (c : Nat) (lo hi : Int) (w : World) (hl : q.length ≤ 1048576) (hA : CRead w w.heap.size A (icells q)) :
    Calls Try.prog 104 #[.slice A q.length c, .int .i64 lo, .int .i64 hi] w fun e w' => e = .returned (.bool (l1AllB q lo hi)) ∧ w = w' := by
  go_enter Try.func104, Try.ntmps104
  go_wp2
  go_loop [11] (fun i => ∃ k : Nat, k ≤ q.length ∧ i = .int .i64 k ∧ ∀ (j : Nat) (x : Int), j < k → q[j]? = some x → lo ≤ x ∧ x ≤ hi) (fun i => q.length - (intOf i).toNat)
  case atStart => exact ⟨0, Nat.zero_le _, rfl, fun j x hj => by omega⟩
  case round =>
    obtain ⟨k, hk, rfl, hg⟩ := hrel
    have Hg := Lib.hid hg
    clear hg
    by_cases hlt : k < q.length
    · obtain ⟨x, hx⟩ := getSome q k hlt
      obtain ⟨b, off, rfl, hbb, c0⟩ := hA.int hx
      have hki : (k : Int) < (q.length : Int) := by omega
      have Hx := Lib.hid hx
      clear hx
      by_cases hin : lo ≤ x ∧ x ≤ hi
      · go_wp2_with (go_at_call 65; refine (l1In_yes _ _ _ hin.1 hin.2 _).mono ?_; rintro e w' ⟨rfl, rfl⟩)
        go_round
        case rel =>
          refine ⟨k + 1, by omega, by go_num, fun j y hj hy => ?_⟩
          by_cases hjk : j = k
          · subst hjk
            rw [Hx.out] at hy
            simp only [Option.some.injEq] at hy
            subst hy
            exact hin
          · exact Hg.out j y (by omega) hy
        case measure => simp [intOf]; omega
      · have e : l1AllB q lo hi = false := l1AllB_no Hx.out hin
        have He := Lib.hid e
        clear e
        go_wp2_with (go_at_call 65; refine (l1In_no _ _ _ (by omega) _).mono ?_; rintro e w' ⟨rfl, rfl⟩)
        go_ret
        exact ⟨by rw [He.out]; rfl, rfl⟩
    · have hkl : k = q.length := by omega
      have e : l1AllB q lo hi = true := l1AllB_yes fun j x hj hx => Hg.out j x (by omega) hx
      have He := Lib.hid e
      clear e
      have hge : ¬ ((k : Int) < (q.length : Int)) := by omega
      go_wp2
      go_ret
      exact ⟨by rw [He.out]; rfl, rfl⟩

theorem isNums_all {q : List Int} (h : q.length ≤ 12) : l1AllB q 0 ((q.length : Int) - 1) = isNums q := by
  unfold l1AllB isNums
  rw [decide_eq_true h, Bool.true_and]
  congr 1
  funext x
  congr 1
  apply propext
  omega

def resIsNumbers (q : List Int) : Bool := isNums q
/-! ## Sums -/
/-! ## Sorted so that they are falling: the model's -/
end Go.Proofs.Ytgkedgfbncljbaa
/-
  'IsFame': the model's and the program's, by their contracts.
-/
namespace Go.Proofs.Ytgkedgfbncljbaa
open Go.RowKit

def fameAt (n : Nat) (q : List (List Int)) (a : Nat) : Bool := isChoiceI n (q.getD a []) && !hasI (q.getD a []) a
def isFameI (q : List (List Int)) : Bool := decide (1 ≤ q.length ∧ q.length ≤ 12) && (List.range q.length).all (fameAt q.length q)
def resIsFame (q : List (List Int)) : Bool := isFameI q
theorem isFame_no {q : List (List Int)} {a : Nat} (ha : a < q.length) (h : fameAt q.length q a = false) : isFameI q = false := by
  unfold isFameI
  rw [Bool.and_eq_false_iff]
  right
  rw [List.all_eq_false]
  exact ⟨a, List.mem_range.2 ha, by simp [h]⟩
theorem isFame_yes {q : List (List Int)} (h1 : 1 ≤ q.length) (h2 : q.length ≤ 12) (h : ∀ a, a < q.length → fameAt q.length q a = true) : isFameI q = true := by
  unfold isFameI
  rw [Bool.and_eq_true, List.all_eq_true]
  exact ⟨decide_eq_true ⟨h1, h2⟩, fun a ha => h a (List.mem_range.1 ha)⟩
theorem isFame_parts {q : List (List Int)} (h : isFameI q = true) : 1 ≤ q.length ∧ q.length ≤ 12 ∧ ∀ a, a < q.length → isChoiceI q.length (q.getD a []) = true ∧ hasI (q.getD a []) a = false := by
  unfold isFameI at h
  rw [Bool.and_eq_true, List.all_eq_true] at h
  obtain ⟨h1, h2⟩ := h
  have h3 := of_decide_eq_true h1
  refine ⟨h3.1, h3.2, fun a ha => ?_⟩
  have := h2 a (List.mem_range.2 ha)
  simpa [fameAt] using this
theorem isFame_size {q : List (List Int)} (h : ¬ (1 ≤ q.length ∧ q.length ≤ 12)) : isFameI q = false := by
  unfold isFameI
  rw [decide_eq_false h, Bool.false_and]
theorem choice_all {n : Nat} {l : List Int} (h : l1AllB l 0 ((n : Int) - 1) = false) : isChoiceI n l = false := by
  cases hc : isChoiceI n l with
  | false => rfl
  | true =>
    rw [l1AllB_yes fun j x _ hx => by have := isChoiceI_mem hc x (List.mem_of_getElem? hx); omega] at h
    cases h
theorem choice_long {n : Nat} (_hn : 1 ≤ n) {l : List Int} (h : n < l.length) : isChoiceI n l = false := by
  cases hc : isChoiceI n l with
  | false => rfl
  | true =>
    rcases isChoiceI_long hc with h2 | h2
    · omega
    · subst h2; simp at h
set_option maxHeartbeats 4000000 in
set_option maxRecDepth 100000 in
theorem haFame_any (q : List (List Int)) (A : Option Addr) (c : Nat) (w : World) (hl : q.length ≤ 1048576) (hm : ∀ l ∈ q, l.length ≤ 1048576) (hA : SRead w w.heap.size A q) :
    Calls Try.prog 83 #[.slice A q.length c] w fun e w' => e = .returned (.bool (isFameI q)) ∧ Below w.heap.size w w' := by
  by_cases h : 1 ≤ q.length ∧ q.length ≤ 12
  · obtain ⟨r, hr⟩ : ∃ r, isFameI q = r := ⟨_, rfl⟩
    rw [hr]
    obtain ⟨n, hn⟩ : ∃ n, q.length = n := ⟨_, rfl⟩
    have h1 : (1 : Int) ≤ (n : Int) := by omega
    have h2 : (n : Int) ≤ 12 := by omega
    have hno : ∀ a, a < n → fameAt n q a = false → r = false := fun a ha hf => by rw [← hr]; exact isFame_no (q := q) (a := a) (by omega) (by rw [hn]; exact hf)
    have hyes : (∀ a, a < n → fameAt n q a = true) → r = true := fun hf => by rw [← hr]; exact isFame_yes (by omega) (by omega) (by rw [hn]; exact hf)
    rw [hn]
    have Hn := Lib.hid hn
    have Hm := Lib.hid hm
    have Hno := Lib.hid hno
    have Hyes := Lib.hid hyes
    clear hno hyes hr hn hm h hl
    go_enter Try.func83, Try.ntmps83
    go_wp2_with (go_at_call 65; refine (l1In_yes _ 1 12 h1 h2 _).mono ?_; rintro e w' ⟨rfl, rfl⟩)
    go_loopw [14] (fun i wr => ∃ a : Nat, a ≤ n ∧ i = .int .i64 a ∧ Below w.heap.size w wr ∧ ∀ j, j < a → fameAt n q j = true) (fun i _ => n - (intOf i).toNat)
    case atStart => exact ⟨0, Nat.zero_le _, rfl, Below.refl _ _, fun j hj => by omega⟩
    case round =>
      obtain ⟨a, ha, rfl, hb, hall⟩ := hrel
      have Hall := Lib.hid hall
      clear hall
      have s0 := hb.size
      by_cases hlt : a < n
      · obtain ⟨l, hx⟩ := getSome q a (by rw [Hn.out]; exact hlt)
        obtain ⟨b, off, A1, c1, rfl, hb1, d1, R1⟩ := (hA.below hb s0) a l hx
        have hll := Hm.out l (List.mem_of_getElem? hx)
        have hai : (a : Int) < (n : Int) := by omega
        have hgd := getD_of hx
        have hfa : fameAt n q a = (isChoiceI n l && !hasI l a) := by unfold fameAt; rw [hgd]
        have Hfa := Lib.hid hfa
        clear hx hgd hfa
        by_cases hlong : n < l.length
        · have hlong' : (n : Int) < (l.length : Int) := by omega
          have hf := Hno.out a hlt (by rw [Hfa.out, choice_long (by omega) hlong, Bool.false_and])
          subst hf
          go_wp2
          go_ret
          exact ⟨rfl, hb⟩
        · have hlong' : ¬ (n : Int) < (l.length : Int) := by omega
          have all := l1All_any l A1 c1 0 ((n : Int) - 1) wr hll R1
          cases hal : l1AllB l 0 ((n : Int) - 1) with
          | false =>
            have hf := Hno.out a hlt (by rw [Hfa.out, choice_all hal, Bool.false_and])
            subst hf
            rw [hal] at all
            have All := Lib.hid all
            clear all hal
            go_wp2_with fail
            refine All.out.mono ?_
            rintro e w2 ⟨rfl, rfl⟩
            go_wp2
            go_ret
            exact ⟨rfl, hb⟩
          | true =>
            rw [hal] at all
            have All := Lib.hid all
            have Hal := Lib.hid hal
            have has := l1Has_any l a A1 c1 wr hll R1
            clear all hal
            cases hha : hasI l a with
            | true =>
              have hf := Hno.out a hlt (by rw [Hfa.out, hha]; simp)
              subst hf
              rw [hha] at has
              have Has := Lib.hid has
              clear has hha
              go_wp2_with fail
              refine All.out.mono ?_
              rintro e w2 ⟨rfl, rfl⟩
              go_wp2_with fail
              refine Has.out.mono ?_
              rintro e w2 ⟨rfl, rfl⟩
              go_wp2
              go_ret
              exact ⟨rfl, hb⟩
            | false =>
              rw [hha] at has
              have Has := Lib.hid has
              have Hha := Lib.hid hha
              have HB := Lib.hid hb
              clear has hha hb
              go_wp2_with fail
              refine All.out.mono ?_
              rintro e w2 ⟨rfl, rfl⟩
              go_wp2_with fail
              refine Has.out.mono ?_
              rintro e w2 ⟨rfl, rfl⟩
              obtain ⟨wo, hwo⟩ : ∃ wo, wo = wr := ⟨wr, rfl⟩
              subst hwo
              go_wp2
              clear d1 All Has
              go_loopw [6] (fun i wx => ∃ k : Nat, 1 ≤ k ∧ (k = 1 ∨ k ≤ l.length) ∧ i = .int .i64 k ∧ (∀ j, j < k → choiceAt n l j = true) ∧ Below wo.heap.size wo wx) (fun i _ => l.length - (intOf i).toNat)
              case atStart =>
                refine ⟨1, Nat.le_refl _, .inl rfl, rfl, fun j hj => ?_, Below.refl _ _⟩
                have h0 : j = 0 := by omega
                subst h0
                cases hx : l[0]? with
                | none => simp [choiceAt, hx]
                | some x =>
                  refine choiceAt_zero rfl hx ?_
                  have h5 := Hal.out
                  simp only [l1AllB, List.all_eq_true, decide_eq_true_eq] at h5
                  have := h5 x (List.mem_of_getElem? hx)
                  omega
              case round =>
                obtain ⟨k, hk1, hkq, rfl, hg, hb⟩ := hrel
                have Hg := Lib.hid hg
                clear hg
                by_cases hlk : k < l.length
                · obtain ⟨y, hy⟩ := getSome l k hlk
                  obtain ⟨x, hx⟩ := getSome l (k - 1) (by omega)
                  obtain ⟨b', off', rfl, hbb, u0⟩ := (R1.below hb (Nat.le_refl _)).int hy
                  obtain ⟨b2, off2, e', _, u1⟩ := (R1.below hb (Nat.le_refl _)).int hx
                  simp only [Option.some.injEq, Addr.mk.injEq, and_true] at e'
                  obtain ⟨rfl, rfl⟩ := e'
                  have hki : (k : Int) < (l.length : Int) := by omega
                  have hk3 : (0 : Int) ≤ (k : Int) - 1 := by omega
                  have hk4 : (k : Int) - 1 < (l.length : Int) := by omega
                  have hty : ((k : Int) - 1).toNat = k - 1 := by omega
                  have hyr : 0 ≤ y ∧ y < n := by
                    have h5 := Hal.out
                    simp only [l1AllB, List.all_eq_true, decide_eq_true_eq] at h5
                    have := h5 y (List.mem_of_getElem? hy)
                    omega
                  have Hx := Lib.hid hx
                  have Hy := Lib.hid hy
                  have Hyr := Lib.hid hyr
                  clear hx hy hyr
                  by_cases hxy : x < y
                  · have hyx : ¬ (y ≤ x) := by omega
                    go_wp2
                    go_quiet (fail)
                    go_wp2
                    go_roundw
                    case rel =>
                      refine ⟨k + 1, by omega, .inr (by omega), by go_num, fun j hj => ?_, ⟨hb.os, hb.tape, hb.output, hb.size, hb.block⟩⟩
                      rcases Nat.lt_succ_iff_lt_or_eq.1 hj with h | rfl
                      · exact Hg.out j h
                      · exact choiceAt_later (by omega) Hx.out Hy.out Hyr.out hxy
                    case measure => simp [intOf]; omega
                  · have hyx : y ≤ x := by omega
                    have hf := Hno.out a hlt (by rw [Hfa.out, isChoiceI_no hlk (choiceAt_stale (p := n) (by omega) Hx.out Hy.out hxy), Bool.false_and])
                    subst hf
                    have kk := HB.out.trans (hb.mono s0)
                    clear hb
                    go_wp2
                    go_quiet (fail)
                    go_wp2
                    go_ret
                    exact ⟨rfl, ⟨kk.os, kk.tape, kk.output, kk.size, kk.block⟩⟩
                · have hge : ¬ ((k : Int) < (l.length : Int)) := by omega
                  have hc := isChoiceI_of (p := n) (q := l) fun j hj => Hg.out j (by omega)
                  have hft := Lib.hid (show fameAt n q a = true by rw [Hfa.out, hc, Hha.out]; rfl)
                  have kk := HB.out.trans (hb.mono s0)
                  clear hc hb
                  go_wp2
                  go_roundw
                  case rel => exact ⟨a + 1, by omega, by go_num, kk, fun j hj => by
                                by_cases hja : j = a
                                · subst hja; exact hft.out
                                · exact Hall.out j (by omega)⟩
                  case measure => simp [intOf]; omega
      · have han : a = n := by omega
        have hge : ¬ ((a : Int) < (n : Int)) := by omega
        have hf := Hyes.out fun j hj => Hall.out j (by omega)
        subst hf
        go_wp2
        go_ret
        exact ⟨rfl, hb⟩
  · rw [isFame_size h]
    go_enter Try.func83, Try.ntmps83
    go_wp2_with (go_at_call 65; refine (l1In_no _ 1 12 (by omega) _).mono ?_; rintro e w' ⟨rfl, rfl⟩)
    go_ret
    exact ⟨rfl, Below.refl _ _⟩
set_option maxHeartbeats 4000000 in
set_option maxRecDepth 100000 in
theorem implIsFame_any (q : List (List Int)) (A : Option Addr) (c : Nat) (w : World) (hl : q.length ≤ 1048576) (hm : ∀ l ∈ q, l.length ≤ 1048576) (hA : SRead w w.heap.size A q) :
    Calls Try.prog 37 #[.slice A q.length c] w fun e w' => e = .returned (.bool (resIsFame q)) ∧ Below w.heap.size w w' := by
  unfold resIsFame
  by_cases hlo : q.length < 1
  · rw [isFame_size (by omega)]
    have hlo' : (q.length : Int) < 1 := by omega
    go_enter Try.func37, Try.ntmps37
    go_wp2
    go_ret
    exact ⟨rfl, Below.refl _ _⟩
  · by_cases hhi : 12 < q.length
    · rw [isFame_size (by omega)]
      have hhi' : (12 : Int) < (q.length : Int) := by omega
      have hlo' : ¬ (q.length : Int) < 1 := by omega
      go_enter Try.func37, Try.ntmps37
      go_wp2
      go_ret
      exact ⟨rfl, Below.refl _ _⟩
    · obtain ⟨r, hr⟩ : ∃ r, isFameI q = r := ⟨_, rfl⟩
      rw [hr]
      obtain ⟨n, hn⟩ : ∃ n, q.length = n := ⟨_, rfl⟩
      have h1 : ¬ (n : Int) < 1 := by omega
      have h2 : ¬ (12 : Int) < (n : Int) := by omega
      have hno : ∀ a, a < n → fameAt n q a = false → r = false := fun a ha hf => by rw [← hr]; exact isFame_no (q := q) (a := a) (by omega) (by rw [hn]; exact hf)
      have hyes : (∀ a, a < n → fameAt n q a = true) → r = true := fun hf => by rw [← hr]; exact isFame_yes (by omega) (by omega) (by rw [hn]; exact hf)
      have d1 : decide ((n : Int) < 1) = false := decide_eq_false h1
      have d2 : decide ((12 : Int) < (n : Int)) = false := decide_eq_false h2
      rw [hn]
      have Hn := Lib.hid hn
      have Hm := Lib.hid hm
      have Hno := Lib.hid hno
      have Hyes := Lib.hid hyes
      clear hno hyes hr hn hm hl
      go_enter Try.func37, Try.ntmps37
      go_wp2
      clear d1 d2
      go_loopw [19] (fun i wr => ∃ a : Nat, a ≤ n ∧ i = .int .i64 a ∧ Below (w.heap.size + 1) (w.alloc (Obj.cells #[.int .i64 n, .slice none 0 0] 24)) wr ∧ ∀ j, j < a → fameAt n q j = true) (fun i _ => n - (intOf i).toNat)
      case atStart => exact ⟨0, Nat.zero_le _, rfl, Below.refl _ _, fun j hj => by omega⟩
      case round =>
        obtain ⟨a, ha, rfl, hb, hall⟩ := hrel
        have Hall := Lib.hid hall
        clear hall
        have s0 := hb.size
        simp only [World.size_alloc] at s0
        have kw : Below w.heap.size w wr := Below.trans (b := _) (by go_grown) (hb.mono (by omega))
        have a0 : wr.cell? ⟨w.heap.size, 0, none⟩ = some (.int .i64 n) := carry hb (by simp) (by simp)
        have a1 : wr.cell? ⟨w.heap.size, 1, none⟩ = some (.slice none 0 0) := carry hb (by simp) (by simp)
        by_cases hlt : a < n
        · obtain ⟨l, hx⟩ := getSome q a (by rw [Hn.out]; exact hlt)
          obtain ⟨b, off, A1, c1, rfl, hb1, d1, R1⟩ := (hA.below kw kw.size) a l hx
          have hll := Hm.out l (List.mem_of_getElem? hx)
          have hai : (a : Int) < (n : Int) := by omega
          have hgd := getD_of hx
          have hfa : fameAt n q a = (isChoiceI n l && !hasI l a) := by unfold fameAt; rw [hgd]
          have Hfa := Lib.hid hfa
          have ch := isChoice_any (n : Int) l none A1 0 0 c1 wr hll R1
          clear hx hgd hfa
          cases hch : isChoiceI n l with
          | false =>
            have hf := Hno.out a hlt (by rw [Hfa.out, hch, Bool.false_and])
            subst hf
            rw [hch] at ch
            have Ch := Lib.hid ch
            clear ch hch
            go_wp2_with fail
            refine Ch.out.mono ?_
            rintro e w2 ⟨rfl, hb2⟩
            have k2 := kw.trans (hb2.mono kw.size)
            clear a0 a1 hb2 d1
            go_wp2
            go_ret
            exact ⟨rfl, k2⟩
          | true =>
            rw [hch] at ch
            have Ch := Lib.hid ch
            have Hch := Lib.hid hch
            clear ch hch
            obtain ⟨hh, hhe⟩ : ∃ hh, hasI l a = hh := ⟨_, rfl⟩
            have Hh := Lib.hid hhe
            clear hhe
            go_wp2_with fail
            refine Ch.out.mono ?_
            rintro e w2 ⟨rfl, hb2⟩
            have k2 := kw.trans (hb2.mono kw.size)
            have b2 := hb.trans (hb2.mono (by omega))
            have con := containsI_any l a A1 c1 w2 hll ((R1.below hb2 (Nat.le_refl _)).more hb2.size)
            rw [Hh.out] at con
            have Con := Lib.hid con
            clear a0 a1 hb2 d1 con
            go_wp2_with fail
            refine Con.out.mono ?_
            rintro e w3 ⟨rfl, rfl⟩
            cases hh with
            | true =>
              have hf := Hno.out a hlt (by rw [Hfa.out, Hh.out]; simp)
              subst hf
              go_wp2
              go_ret
              exact ⟨rfl, k2⟩
            | false =>
              have hft := Lib.hid (show fameAt n q a = true by rw [Hfa.out, Hch.out, Hh.out]; rfl)
              go_wp2
              go_roundw
              case rel => exact ⟨a + 1, by omega, by go_num, b2, fun j hj => by
                            by_cases hja : j = a
                            · subst hja; exact hft.out
                            · exact Hall.out j (by omega)⟩
              case measure => simp [intOf]; omega
        · have han : a = n := by omega
          have hge : ¬ ((a : Int) < (n : Int)) := by omega
          have hf := Hyes.out fun j hj => Hall.out j (by omega)
          subst hf
          go_wp2
          go_ret
          exact ⟨rfl, kw⟩
theorem specIsFame_any (q : List (List Int)) (A : Option Addr) (c : Nat) (w : World) (hl : q.length ≤ 1048576) (hm : ∀ l ∈ q, l.length ≤ 1048576) (hA : SRead w w.heap.size A q) :
    Calls Try.prog 35 #[.slice A q.length c] w fun e w' => e = .returned (.bool (resIsFame q)) ∧ Below w.heap.size w w' := by
  go_enter Try.func35, Try.ntmps35
  go_wp2_with fail
  refine (haFame_any q A c _ hl hm hA).mono ?_
  rintro e w2 ⟨rfl, hb2⟩
  go_wp2
  go_ret
  exact ⟨rfl, hb2⟩
end Go.Proofs.Ytgkedgfbncljbaa
/-
  A STAR LOOKED FOR BY QUESTIONS, as plain lists: who is left, what is asked, and that it tells the star. Nothing here speaks of the program.
-/
namespace Go.Proofs.Ytgkedgfbncljbaa
open Go.RowKit

abbrev LLI := List (List Int)
def knowsF (q : LLI) (a b : Nat) : Bool := hasI (q.getD a []) b
/-- who is left behind the questions about all lesser than k -/
def candK (q : LLI) : Nat → Nat
  | 0 => 0
  | k + 1 => if k = 0 then 0 else if knowsF q (candK q k) k then k else candK q k
def askP (s : PL) (a b : Nat) : PL := if s.contains ((a : Int), (b : Int)) then s else s ++ [((a : Int), (b : Int))]
/-- what was asked then -/
def asksK (q : LLI) : Nat → PL
  | 0 => []
  | k + 1 => if k = 0 then [] else askP (asksK q k) (candK q k) k
/-- the questions about the one left: what was asked, and whether it is the star -/
def run2 (q : LLI) (c : Nat) : List Nat → PL → PL × Bool
  | [], s => (s, true)
  | x :: xs, s => if x = c then run2 q c xs s else if knowsF q c x then (askP s c x, false) else if knowsF q x c then run2 q c xs (askP (askP s c x) x c) else (askP (askP s c x) x c, false)
theorem askP_len (s : PL) (a b : Nat) : (askP s a b).length ≤ s.length + 1 := by unfold askP; split <;> simp
theorem candK_lt (q : LLI) : ∀ k, 1 ≤ k → candK q k < k := by
  intro k
  induction k with
  | zero => intro h; omega
  | succ k ih =>
    intro _
    unfold candK
    split
    · omega
    · rename_i h0
      have := ih (by omega)
      split <;> omega
theorem asksK_len (q : LLI) : ∀ k, (asksK q k).length ≤ k := by
  intro k
  induction k with
  | zero => simp [asksK]
  | succ k ih =>
    unfold asksK
    split
    · simp
    · have := askP_len (asksK q k) (candK q k) k
      omega
/-- a person whom all others know and who knows nobody -/
def isStarAt (q : LLI) (a : Nat) : Bool := (q.getD a []).isEmpty && (List.range q.length).all fun x => x == a || knowsF q x a
theorem star_parts {q : LLI} {a : Nat} (h : isStarAt q a = true) : q.getD a [] = [] ∧ ∀ x, x < q.length → x ≠ a → knowsF q x a = true := by
  unfold isStarAt at h
  rw [Bool.and_eq_true, List.all_eq_true, List.isEmpty_iff] at h
  refine ⟨h.1, fun x hx hne => ?_⟩
  have := h.2 x (List.mem_range.2 hx)
  simpa [hne] using this
theorem star_of {q : LLI} {a : Nat} (h1 : q.getD a [] = []) (h2 : ∀ x, x < q.length → x ≠ a → knowsF q x a = true) : isStarAt q a = true := by
  unfold isStarAt
  rw [Bool.and_eq_true, List.all_eq_true, List.isEmpty_iff]
  refine ⟨h1, fun x hx => ?_⟩
  by_cases e : x = a
  · simp [e]
  · simp [h2 x (List.mem_range.1 hx) e]
theorem nobody_knows {q : LLI} {a b : Nat} (h : q.getD a [] = []) : knowsF q a b = false := by unfold knowsF; rw [h]; rfl
/-- a star is who is left -/
theorem star_left {q : LLI} {a : Nat} (h : isStarAt q a = true) : ∀ k, 1 ≤ k → k ≤ q.length → a < k → candK q k = a := by
  obtain ⟨h1, h2⟩ := star_parts h
  intro k
  induction k with
  | zero => intro hk; omega
  | succ k ih =>
    intro _ hkn ha
    unfold candK
    by_cases k0 : k = 0
    · rw [if_pos k0]; omega
    · rw [if_neg k0]
      have hc := candK_lt q k (by omega)
      by_cases hak : a = k
      · subst hak
        rw [if_pos (h2 (candK q a) (by omega) (by omega))]
      · have := ih (by omega) (by omega) (by omega)
        rw [this, nobody_knows h1, if_neg (by simp)]
/-- all answers about the one left are as a star's -/
theorem run2_ok {q : LLI} {c : Nat} : ∀ {xs : List Nat} {s : PL}, (run2 q c xs s).2 = xs.all fun x => x == c || (!knowsF q c x && knowsF q x c) := by
  intro xs
  induction xs with
  | nil => intro s; rfl
  | cons x xs ih =>
    intro s
    unfold run2
    by_cases e : x = c
    · rw [if_pos e, ih]
      simp [e]
    · rw [if_neg e]
      cases h1 : knowsF q c x with
      | true => simp [e, h1]
      | false =>
        cases h2 : knowsF q x c with
        | true => simp [h1, h2, ih]
        | false => simp [e, h1, h2]
theorem fame_in {q : LLI} (h : isFameI q = true) {a : Nat} (ha : a < q.length) {x : Int} (hx : x ∈ q.getD a []) : 0 ≤ x ∧ x < q.length ∧ x ≠ a := by
  obtain ⟨_, _, h3⟩ := isFame_parts h
  obtain ⟨h4, h5⟩ := h3 a ha
  have h6 := isChoiceI_mem h4 x hx
  refine ⟨h6.1, h6.2, fun e => ?_⟩
  subst e
  rw [hasI_mem.2 hx] at h5
  cases h5
theorem run2_star {q : LLI} (h : isFameI q = true) {c : Nat} (hc : c < q.length) {s : PL} : (run2 q c (List.range q.length) s).2 = isStarAt q c := by
  rw [run2_ok, Bool.eq_iff_iff, List.all_eq_true]
  constructor
  · intro h1
    refine star_of ?_ fun x hx hne => ?_
    · cases hl : q.getD c [] with
      | nil => rfl
      | cons y t =>
        have hm : y ∈ q.getD c [] := by rw [hl]; exact List.mem_cons_self
        obtain ⟨y0, y1, y2⟩ := fame_in h hc hm
        have h2 := h1 y.toNat (List.mem_range.2 (by omega))
        have hk : knowsF q c y.toNat = true := by unfold knowsF; rw [hasI_mem, Int.toNat_of_nonneg y0]; exact hm
        have hne : y.toNat ≠ c := by omega
        simp [hk, hne] at h2
    · have h2 := h1 x (List.mem_range.2 hx)
      simp [hne] at h2
      exact h2.2
  · intro h1 x hx
    obtain ⟨g1, g2⟩ := star_parts h1
    by_cases e : x = c
    · simp [e]
    · simp [nobody_knows g1, g2 x (List.mem_range.1 hx) e]
/-! ## What is answered -/
def resStarOf (q : LLI) : Int × Bool := if isFameI q then (match (List.range q.length).find? (isStarAt q) with | some a => ((a : Int), true) | none => (0, false)) else (0, false)
theorem star_found {q : LLI} {a : Nat} (hf : isFameI q = true) (ha : a < q.length) (hs : isStarAt q a = true) (hno : ∀ j, j < a → isStarAt q j = false) : resStarOf q = ((a : Int), true) := by
  have : (List.range q.length).find? (isStarAt q) = some a := by
    rw [List.find?_range_eq_some]
    exact ⟨hs, by simpa using ha, fun j hj => by rw [hno j hj]; rfl⟩
  unfold resStarOf
  rw [if_pos hf, this]
theorem star_none {q : LLI} (hf : isFameI q = true) (hno : ∀ j, j < q.length → isStarAt q j = false) : resStarOf q = (0, false) := by
  have : (List.range q.length).find? (isStarAt q) = none := by
    rw [List.find?_range_eq_none]
    intro j hj
    rw [hno j hj]
    rfl
  unfold resStarOf
  rw [if_pos hf, this]
theorem star_asked {q : LLI} (hf : isFameI q = true) {s : PL} {R : PL × Bool} (hR : run2 q (candK q q.length) (List.range q.length) s = R) : resStarOf q = if R.2 then (((candK q q.length : Nat) : Int), true) else (0, false) := by
  obtain ⟨h1, _, _⟩ := isFame_parts hf
  have hc := candK_lt q q.length h1
  have h2 := run2_star hf hc (s := s)
  rw [hR] at h2
  cases hs : isStarAt q (candK q q.length) with
  | true =>
    rw [h2, hs, if_pos rfl]
    refine star_found hf hc hs fun j hj => ?_
    cases hj2 : isStarAt q j with
    | false => rfl
    | true => have := star_left hj2 q.length h1 (Nat.le_refl _) (by omega); omega
  | false =>
    rw [h2, hs, if_neg (by simp)]
    refine star_none hf fun j hj => ?_
    cases hj2 : isStarAt q j with
    | false => rfl
    | true => rw [star_left hj2 q.length h1 (Nat.le_refl _) hj] at hs; rw [hs] at hj2; cases hj2
end Go.Proofs.Ytgkedgfbncljbaa
/-
  ONE QUESTION, asked once: '(*inquiry).ask', by its contract.
-/
namespace Go.Proofs.Ytgkedgfbncljbaa
open Go.RowKit

/-- the inquiry in block Q: what everybody knows, and what was asked, in memory of its own -/
structure InqRel (w0 wr : World) (Q : Nat) (A : Option Addr) (n c : Nat) (v : Value) (s : PL) : Prop where
  below : Below Q w0 wr
  box : wr.heap[Q]? = some (.cells #[.slice A n c, v] 88 (0, 0))
  own : wr.ownsRow (Q + 1) 71 2 v s.length (pcells s)
section
variable {w0 wr w1 : World} {Q n c : Nat} {A : Option Addr} {v : Value} {s : PL}
theorem InqRel.lt (h : InqRel w0 wr Q A n c v s) : Q < wr.heap.size := lt_of_heap h.box
theorem InqRel.cells (h : InqRel w0 wr Q A n c v s) : wr.cell? ⟨Q, 0, none⟩ = some (.slice A n c) ∧ wr.cell? ⟨Q, 1, none⟩ = some v ∧ ∀ j, wr.frozen? ⟨Q, j, none⟩ = false :=
  ⟨by rw [cell_of_row _ _ _ _ _ _ h.box]; rfl, by rw [cell_of_row _ _ _ _ _ _ h.box]; rfl, fun j => frozen_of_row _ _ j _ _ h.box⟩
theorem InqRel.kept (h : InqRel w0 wr Q A n c v s) (hb : Below wr.heap.size wr w1) (hQ : Q ≤ wr.heap.size) : InqRel w0 w1 Q A n c v s :=
  ⟨h.below.trans (hb.mono hQ), (hb.block Q h.lt).trans h.box, own_below h.own hb (Nat.le_refl _)⟩
theorem InqRel.mid (h : InqRel w0 wr Q A n c v s) (hb : Below wr.heap.size wr w1) {w2 : World} (hg : w1.grownBy w2 v.ownBlock) : w2.heap[Q]? = some (.cells #[.slice A n c, v] 88 (0, 0)) :=
  (hg.block Q (by have := h.lt; have := hb.size; omega) (fun e => by have := (h.own.lt Q e.symm).1; omega)).trans ((hb.block Q h.lt).trans h.box)
/-- one pair more is put behind those asked, and stored -/
theorem InqRel.push (h : InqRel w0 wr Q A n c v s) (hb : Below wr.heap.size wr w1) {w2 : World} {v2 : Value} {x : Int × Int} (hg : w1.grownBy w2 v.ownBlock) (ho : w2.ownsRow (Q + 1) 71 2 v2 (s.length + 1) (pcells s ++ pcells [x])) :
    InqRel w0 (w2.setCell ⟨Q, 1, none⟩ v2) Q A n c v2 (s ++ [x]) := by
  have hQ := h.lt
  have hs := hb.size
  have hbx : w1.heap[Q]? = some (.cells #[.slice A n c, v] 88 (0, 0)) := (hb.block Q hQ).trans h.box
  have hne : ∀ k, v.ownBlock = some k → Q + 1 ≤ k := fun k hk => (h.own.lt k hk).1
  have hb2 : w2.heap[Q]? = some (.cells #[.slice A n c, v] 88 (0, 0)) := (hg.block Q (by omega) (fun e => by have := hne Q e.symm; omega)).trans hbx
  refine ⟨?_, ?_, ?_⟩
  · have b1 : Below Q w0 w1 := h.below.trans (hb.mono (by omega))
    have b2 : Below Q w0 w2 := b1.grown hg (by omega) (fun k hk => by have := hne k hk; omega)
    exact b2.setCell (p := ⟨Q, 1, none⟩) (Nat.le_refl _) _
  · exact heap_setCell_same w2 Q 1 _ _ v2 hb2
  · rw [List.length_append, List.length_singleton, pcells_append]
    exact ownsRow_setCell_below ho (a := ⟨Q, 1, none⟩) (by simp) _
end
set_option maxHeartbeats 4000000 in
set_option maxRecDepth 100000 in
theorem ask_any (q : LLI) (a b : Nat) (A : Option Addr) (c Q : Nat) (v : Value) (s : PL) (w0 w : World) (_hl : q.length ≤ 1048576) (hm : ∀ l ∈ q, l.length ≤ 1048576) (ha : a < q.length) (hs : s.length ≤ 1000) (hA : SRead w0 Q A q) (hr : InqRel w0 w Q A q.length c v s) :
    Calls Try.prog 106 #[.pointer (some ⟨Q, 0, none⟩), .int .i64 a, .int .i64 b] w fun e w' => e = .returned (.bool (knowsF q a b)) ∧ ∃ v', InqRel w0 w' Q A q.length c v' (askP s a b) := by
  obtain ⟨i0, hi, hz0, hz1, hz2⟩ := info_parts Try.infoPair
  have hQ := hr.lt
  obtain ⟨A1, c1, rfl, _⟩ := own_shape hr.own
  obtain ⟨r0, r1, r2⟩ := hr.cells
  have Hr := Lib.hid hr
  have R2 := Lib.hid r2
  clear hr r2
  go_enter Try.func106, Try.ntmps106
  go_wp2
  generalize hX : w.alloc (Obj.cells #[.int .i64 a, .int .i64 b] 71) = X
  have kX : Below w.heap.size w X := by rw [← hX]; go_grown
  have sX : w.heap.size < X.heap.size := by rw [← hX]; simp
  have m0 : X.cell? ⟨w.heap.size, 0, none⟩ = some (.int .i64 a) := by rw [← hX]; simp
  have m1 : X.cell? ⟨w.heap.size, 1, none⟩ = some (.int .i64 b) := by rw [← hX]; simp
  have x0 := carry kX r0 hQ
  have x1 := carry kX r1 hQ
  have KX := Lib.hid kX
  have rdX : CRead X X.heap.size A1 (pcells s) := ((CRead.of_own Hr.out.own).below kX (Nat.le_refl _)).more (Nat.le_of_lt sX)
  clear hX r0 r1 kX
  obtain ⟨hc, hhc⟩ : ∃ hc, s.contains ((a : Int), (b : Int)) = hc := ⟨_, rfl⟩
  have HC := Lib.hid hhc
  clear hhc
  have p0 : ∀ z : Ext X.heap.size X, z.val.cell? ⟨Q, 1, none⟩ = some (.slice A1 s.length c1) := fun z => z.cell x1 (by omega)
  have p1 : ∀ z : Ext X.heap.size X, z.val.cell? ⟨w.heap.size, 0, none⟩ = some (.int .i64 a) := fun z => z.cell m0 sX
  have p2 : ∀ z : Ext X.heap.size X, z.val.cell? ⟨w.heap.size, 1, none⟩ = some (.int .i64 b) := fun z => z.cell m1 sX
  have call : ∀ z : Ext X.heap.size X, Calls Try.prog 122 #[.slice A1 s.length c1, .agg #[.int .i64 a, .int .i64 b]] z.val fun e w' => e = .returned (.bool hc) ∧ Below z.val.heap.size z.val w' := fun z => by
    have h := contains_any s a b A1 c1 z.val (by omega) ((rdX.below z.2 (Nat.le_refl _)).more z.size)
    rw [HC.out] at h
    exact h
  refine wp_region_ext X.heap.size (by kernel_rfl) (by kernel_rfl) ?_
  repeat (go_big_quiet_step ((go_at_call 122; exact Calls.ext_of ((call _).mono fun _ _ h => ⟨h.1, h.2.mono (Ext.size _)⟩))))
  refine wpQuiet_nil ?_
  rintro w1 ⟨⟨_, hb1⟩, rfl⟩
  clear p0 p1 p2 call
  have s1 := hb1.size
  have y0 := carry hb1 x0 (by omega)
  have y1 := carry hb1 x1 (by omega)
  have n0 := carry hb1 m0 sX
  have n1 := carry hb1 m1 sX
  have k1 : Below w.heap.size w w1 := KX.out.trans (hb1.mono (Nat.le_of_lt sX))
  have Rel1 := Lib.hid (Hr.out.kept k1 (by omega))
  have sr := hA.below Rel1.out.below (Nat.le_refl _)
  obtain ⟨l, hx⟩ := getSome q a ha
  obtain ⟨bb, off, A2, c2, rfl, hbb, d0, R1⟩ := sr a l hx
  have hll := hm l (List.mem_of_getElem? hx)
  have hai : (a : Int) < (q.length : Int) := by omega
  have hkn : knowsF q a b = hasI l b := by unfold knowsF; rw [getD_of hx]
  have Hkn := Lib.hid hkn
  have Hx := Lib.hid hx
  have hQ1 := Rel1.out.lt
  clear x0 x1 m0 m1 hb1 rdX KX sr hx hkn
  cases hc with
  | true =>
    have e1 := Lib.hid (show askP s a b = s by unfold askP; rw [HC.out, if_pos rfl])
    go_wp2_with fail
    refine (containsI_any l b A2 c2 _ hll (R1.more (Nat.le_of_lt hQ1))).mono ?_
    rintro e w2 ⟨rfl, rfl⟩
    go_wp2
    go_ret
    exact ⟨by rw [Hkn.out]; rfl, _, by rw [e1.out]; exact Rel1.out⟩
  | false =>
    have e1 := Lib.hid (show askP s a b = s ++ [((a : Int), (b : Int))] by unfold askP; rw [HC.out, if_neg (by simp)])
    have own1 := own_below (Rel1.out.own.alloc (Obj.cells #[.int .i64 a, .int .i64 b] 71)) ((Below.refl _ _).drew) (Nat.le_refl _)
    have kb : Below w1.heap.size w1 (w1.alloc (Obj.cells #[.int .i64 a, .int .i64 b] 71)).drew := ((Below.refl w1.heap.size w1).alloc (Nat.le_refl _) _).drew
    have f1 := Rel1.out.cells.2.2 1
    have ks : (w1.alloc (Obj.cells #[.int .i64 a, .int .i64 b] 71)).drew.heap.size = w1.heap.size + 1 := by
      show (w1.alloc (Obj.cells #[.int .i64 a, .int .i64 b] 71)).heap.size = w1.heap.size + 1
      simp
    have kc : ∀ (j : Nat) (u : Value), ([.int .i64 a, .int .i64 b] : List Value)[j]? = some u → (w1.alloc (Obj.cells #[.int .i64 a, .int .i64 b] 71)).drew.cell? ((⟨w1.heap.size, 0, none⟩ : Addr).add j) = some u := by
      refine two_cells ?_ ?_
      · show (w1.alloc (Obj.cells #[.int .i64 a, .int .i64 b] 71)).cell? ⟨w1.heap.size, 0, none⟩ = _
        simp
      · show (w1.alloc (Obj.cells #[.int .i64 a, .int .i64 b] 71)).cell? ⟨w1.heap.size, 1, none⟩ = _
        simp
    have kq : Q + 1 ≤ (w1.alloc (Obj.cells #[.int .i64 a, .int .i64 b] 71)).drew.heap.size := by rw [ks]; omega
    have k63 : s.length + 1 ≤ maxLen := by unfold maxLen; omega
    have kby : (s.length + 1) * 16 ≤ 140737488355328 := by omega
    go_wp2_with fail
    go_region_law (first
      | (refine step_append_lies _ (by rfl) _ _ _ (by rfl) (Q + 1) 71 i0 _ 2 16 Try.underlying22 hi hz0 hz1 hz2 (by rfl) (by decide) (.slice A1 s.length c1) s.length (pcells s) (by rfl) own1 ⟨w1.heap.size, 0, none⟩ 1 1 [.int .i64 a, .int .i64 b] (by rfl) rfl kc (two_one rfl rfl) (by decide) k63 kby kq (w1.heap.size + 1) ks ?_; intro g3 c3 w3 own3 gr3 hat3 hlt3; have mid := Rel1.out.mid kb gr3; have z1 : w3.cell? ⟨Q, 1, none⟩ = some (.slice A1 s.length c1) := (by rw [cell_of_row _ _ _ _ _ _ mid]; rfl); have z2 : w3.frozen? ⟨Q, 1, none⟩ = false := frozen_of_row _ _ 1 _ _ mid; have rel3 := Rel1.out.push (x := ((a : Int), (b : Int))) kb gr3 own3; clear mid)
      | fail)
    all_goals (obtain ⟨bb', off', A3, c3', e', hbb', d3, R3⟩ := (hA.below rel3.below (Nat.le_refl _)) a l Hx.out)
    all_goals (simp only [Option.some.injEq, Addr.mk.injEq, and_true] at e')
    all_goals (obtain ⟨rfl, rfl⟩ := e')
    all_goals (have Rel3 := Lib.hid rel3)
    all_goals (have hq3 := rel3.lt)
    all_goals (obtain ⟨u0, _, _⟩ := rel3.cells)
    all_goals (clear rel3 d0 R1 z1 z2)
    all_goals (generalize w3.setCell ⟨Q, 1, none⟩ (Value.slice (some ⟨g3, 0, none⟩) (s.length + 1) c3) = W4 at *)
    all_goals (go_wp2_with fail)
    all_goals (refine (containsI_any l b A3 c3' _ hll (R3.more (Nat.le_of_lt hq3))).mono ?_)
    all_goals (rintro e w5 ⟨rfl, rfl⟩)
    all_goals (go_wp2)
    all_goals (go_ret)
    all_goals (exact ⟨by rw [Hkn.out]; rfl, _, by rw [e1.out]; exact Rel3.out⟩)
end Go.Proofs.Ytgkedgfbncljbaa
/-
  LISTS OF PAIRS AS RESULTS, AND COPIES OF THEM.
-/
namespace Go.Proofs.Ytgkedgfbncljbaa
open Go.RowKit

/-- A call came back with a list of pairs of its own and a bool. -/
def GotPairsOk (w : World) (l : PL) (ok : Bool) (e : Ending) (w' : World) : Prop :=
  ∃ A c, e = .returned (.tuple #[.slice A l.length c, .bool ok]) ∧ w'.ownsRow w.heap.size 71 2 (.slice A l.length c) l.length (pcells l) ∧ Below w.heap.size w w'
theorem toPairS_got (l : PL) (A : Option Addr) (c : Nat) (w : World) (hl : l.length ≤ 1048576) (hA : CRead w w.heap.size A (pcells l)) :
    Calls Try.prog 49 #[.slice A l.length c] w fun e w' => ∃ A' c', e = .returned (.slice A' l.length c') ∧ w'.ownsRow w.heap.size 71 2 (.slice A' l.length c') l.length (pcells l) ∧ Below w.heap.size w w' :=
  (toPairS_any l A c w hl hA).mono fun _ _ h => ⟨_, _, h⟩
end Go.Proofs.Ytgkedgfbncljbaa
/-
  THE STAR ASKED FOR: '(*inquiry).star', 'StarOf', 'QuestionsForStar' of the program, by their contracts.
-/
namespace Go.Proofs.Ytgkedgfbncljbaa
open Go.RowKit

theorem range_drop {n k : Nat} (h : k < n) : (List.range n).drop k = k :: (List.range n).drop (k + 1) := by
  rw [List.drop_eq_getElem_cons (by simpa using h)]
  simp
set_option maxHeartbeats 4000000 in
set_option maxRecDepth 100000 in
theorem star_any (q : LLI) (A : Option Addr) (c Q : Nat) (w0 w : World) (h1 : 1 ≤ q.length) (h12 : q.length ≤ 12) (hm : ∀ l ∈ q, l.length ≤ 1048576) (hA : SRead w0 Q A q) (hr : InqRel w0 w Q A q.length c (.slice none 0 0) []) (R : PL × Bool) (hR : run2 q (candK q q.length) (List.range q.length) (asksK q q.length) = R) :
    Calls Try.prog 88 #[.pointer (some ⟨Q, 0, none⟩)] w fun e w' => e = .returned (.tuple #[.int .i64 (if R.2 then ((candK q q.length : Nat) : Int) else 0), .bool R.2]) ∧ ∃ v', InqRel w0 w' Q A q.length c v' R.1 := by
  obtain ⟨n, hn⟩ : ∃ n, q.length = n := ⟨_, rfl⟩
  have ask : ∀ (a b : Nat) (v : Value) (s : PL) (w : World), a < n → s.length ≤ 1000 → InqRel w0 w Q A n c v s →
      Calls Try.prog 106 #[.pointer (some ⟨Q, 0, none⟩), .int .i64 a, .int .i64 b] w fun e w' => e = .returned (.bool (knowsF q a b)) ∧ ∃ v', InqRel w0 w' Q A n c v' (askP s a b) := fun a b v s w ha hs hr => by
    have h := ask_any q a b A c Q v s w0 w (by omega) hm (by rw [hn]; exact ha) hs hA (by rw [hn]; exact hr)
    rw [hn] at h
    exact h
  rw [hn] at hr hR h1 h12 ⊢
  have Ask := Lib.hid ask
  have HR := Lib.hid hR
  have Hr := Lib.hid hr
  clear ask hR hr hn hA hm
  go_enter Try.func88, Try.ntmps88
  go_wp2
  go_loopw [4, 5] (fun cv i wr => ∃ (k : Nat) (v : Value), 1 ≤ k ∧ k ≤ n ∧ i = .int .i64 k ∧ cv = .int .i64 (candK q k : Nat) ∧ InqRel w0 wr Q A n c v (asksK q k)) (fun _ i _ => n - (intOf i).toNat)
  case atStart => exact ⟨1, _, Nat.le_refl _, h1, rfl, rfl, Hr.out⟩
  case round =>
    clear Hr
    obtain ⟨k, v, hk1, hk, rfl, rfl, rel⟩ := hrel
    have Rel := Lib.hid rel
    obtain ⟨u0, _, _⟩ := rel.cells
    have hck := candK_lt q k hk1
    have hsl := asksK_len q k
    clear rel
    by_cases hlt : k < n
    · have hki : (k : Int) < (n : Int) := by omega
      have call := Ask.out (candK q k) k v (asksK q k) wr (by omega) (by omega) Rel.out
      have hnx : candK q (k + 1) = if knowsF q (candK q k) k then k else candK q k := by rw [candK, if_neg (by omega)]
      have hax : asksK q (k + 1) = askP (asksK q k) (candK q k) k := by rw [asksK, if_neg (by omega)]
      obtain ⟨b, hb⟩ : ∃ b, knowsF q (candK q k) k = b := ⟨_, rfl⟩
      rw [hb] at call hnx
      have Call := Lib.hid call
      have Hnx := Lib.hid hnx
      have Hax := Lib.hid hax
      obtain ⟨C, hC⟩ : ∃ C, candK q k = C := ⟨_, rfl⟩
      rw [hC] at hck Call Hnx Hax ⊢
      clear call hnx hax hb hC
      go_wp2_with fail
      refine Call.out.mono ?_
      rintro e w2 ⟨rfl, v2, rel2⟩
      rw [← Hax.out] at rel2
      have Rel2 := Lib.hid rel2
      clear rel2 Call u0
      cases b with
      | true =>
        go_wp2
        go_roundw
        case rel => exact ⟨k + 1, _, by omega, by omega, by go_num, by rw [Hnx.out]; rfl, Rel2.out⟩
        case measure => simp [intOf]; omega
      | false =>
        go_wp2
        go_roundw
        case rel => exact ⟨k + 1, _, by omega, by omega, by go_num, by rw [Hnx.out]; rfl, Rel2.out⟩
        case measure => simp [intOf]; omega
    · have hkn : k = n := by omega
      subst hkn
      have hge : ¬ ((k : Int) < (k : Int)) := by omega
      obtain ⟨C, hC⟩ : ∃ C, candK q k = C := ⟨_, rfl⟩
      obtain ⟨S, hS⟩ : ∃ S, asksK q k = S := ⟨_, rfl⟩
      have hR := HR.out
      have rel := Rel.out
      rw [hC] at hck hR
      rw [hS] at hsl hR rel
      have HR2 := Lib.hid hR
      have Rel0 := Lib.hid rel
      have HCK := Lib.hid hC
      rw [hC]
      clear hR rel HR Rel hC hS
      go_wp2
      go_loopw [26] (fun i wx => ∃ (x : Nat) (v : Value) (s : PL), x ≤ k ∧ i = .int .i64 x ∧ InqRel w0 wx Q A k c v s ∧ run2 q C ((List.range k).drop x) s = R ∧ s.length ≤ k + 2 * x) (fun i _ => k - (intOf i).toNat)
      case atStart => exact ⟨0, _, _, Nat.zero_le _, rfl, Rel0.out, by rw [List.drop_zero]; exact HR2.out, by omega⟩
      case round =>
        clear Rel0 HR2 u0
        obtain ⟨x, v2, s, hx, rfl, rel, hrun, hsl2⟩ := hrel
        have Rel := Lib.hid rel
        have Hrun := Lib.hid hrun
        clear rel hrun
        by_cases hlx : x < k
        · have hxi : (x : Int) < (k : Int) := by omega
          by_cases hxc : x = C
          · subst hxc
            have hne : ((x : Int) != (x : Int)) = false := by simp
            have hnext : run2 q x ((List.range k).drop (x + 1)) s = R := by rw [← Hrun.out, range_drop hlx, run2, if_pos rfl]
            have Hnext := Lib.hid hnext
            clear hnext
            go_wp2
            go_roundw
            case rel => exact ⟨x + 1, _, _, by omega, by go_num, Rel.out, Hnext.out, by omega⟩
            case measure => simp [intOf]; omega
          · have hne : ((x : Int) != (C : Int)) = true := by simp; omega
            have hr1 : R = if knowsF q C x then (askP s C x, false) else if knowsF q x C then run2 q C ((List.range k).drop (x + 1)) (askP (askP s C x) x C) else (askP (askP s C x) x C, false) := by
              rw [← Hrun.out, range_drop hlx, run2, if_neg hxc]
            have Hr1 := Lib.hid hr1
            have call := Ask.out C x v2 s wr (by omega) (by omega) Rel.out
            have hl1 := askP_len s C x
            have hl2 := askP_len (askP s C x) x C
            obtain ⟨b, hb⟩ : ∃ b, knowsF q C x = b := ⟨_, rfl⟩
            rw [hb] at call
            have Call := Lib.hid call
            have HB := Lib.hid hb
            clear call hb hr1
            go_wp2_with fail
            refine Call.out.mono ?_
            rintro e w2 ⟨rfl, v3, rel3⟩
            have Rel3 := Lib.hid rel3
            clear rel3 Call
            cases b with
            | true =>
              have hRR := Hr1.out
              rw [HB.out, if_pos rfl] at hRR
              subst hRR
              go_wp2
              go_ret2
              exact ⟨rfl, _, Rel3.out⟩
            | false =>
              have hr2 : R = if knowsF q x C then run2 q C ((List.range k).drop (x + 1)) (askP (askP s C x) x C) else (askP (askP s C x) x C, false) := by rw [Hr1.out, HB.out, if_neg (by simp)]
              have Hr2 := Lib.hid hr2
              have call := Ask.out x C v3 (askP s C x) w2 (by omega) (by omega) Rel3.out
              obtain ⟨b2, hb2⟩ : ∃ b2, knowsF q x C = b2 := ⟨_, rfl⟩
              rw [hb2] at call
              have Call := Lib.hid call
              have HB2 := Lib.hid hb2
              clear call hb2 hr2
              go_wp2_with fail
              refine Call.out.mono ?_
              rintro e w5 ⟨rfl, v4, rel4⟩
              have Rel4 := Lib.hid rel4
              clear rel4 Call
              cases b2 with
              | true =>
                have hnext : run2 q C ((List.range k).drop (x + 1)) (askP (askP s C x) x C) = R := by rw [Hr2.out, HB2.out, if_pos rfl]
                have Hnext := Lib.hid hnext
                clear hnext
                go_wp2
                go_roundw
                case rel => exact ⟨x + 1, _, _, by omega, by go_num, Rel4.out, Hnext.out, by omega⟩
                case measure => simp [intOf]; omega
              | false =>
                have hRR := Hr2.out
                rw [HB2.out, if_neg (by simp)] at hRR
                subst hRR
                go_wp2
                go_ret2
                exact ⟨rfl, _, Rel4.out⟩
        · have hxk : x = k := by omega
          have hgx : ¬ ((x : Int) < (k : Int)) := by omega
          have hRR : R = (s, true) := by rw [← Hrun.out, hxk, List.drop_of_length_le (by simp)]; rfl
          subst hRR
          go_wp2
          go_ret2
          exact ⟨by rw [HCK.out]; rfl, _, Rel.out⟩
set_option maxHeartbeats 2000000 in
set_option maxRecDepth 100000 in
theorem implStarOf_any (q : LLI) (A : Option Addr) (c : Nat) (w : World) (hl : q.length ≤ 1048576) (hm : ∀ l ∈ q, l.length ≤ 1048576) (hA : SRead w w.heap.size A q) :
    Calls Try.prog 40 #[.slice A q.length c] w fun e w' => e = .returned (.tuple #[.int .i64 (resStarOf q).1, .bool (resStarOf q).2]) ∧ Below w.heap.size w w' := by
  have isf := implIsFame_any q A c w hl hm hA
  unfold resIsFame at isf
  cases hf : isFameI q with
  | false =>
    have e : resStarOf q = (0, false) := by unfold resStarOf; rw [hf, if_neg (by simp)]
    rw [e]
    rw [hf] at isf
    have Isf := Lib.hid isf
    clear isf hf e
    go_enter Try.func40, Try.ntmps40
    go_wp2_with fail
    refine Isf.out.mono ?_
    rintro e w2 ⟨rfl, hb2⟩
    go_wp2
    go_ret2
    exact ⟨rfl, hb2⟩
  | true =>
    rw [hf] at isf
    obtain ⟨h1, h12, _⟩ := isFame_parts hf
    obtain ⟨R, hR⟩ : ∃ R, run2 q (candK q q.length) (List.range q.length) (asksK q q.length) = R := ⟨_, rfl⟩
    have hres := star_asked hf hR
    obtain ⟨⟨rv, rok⟩, hrr⟩ : ∃ r, resStarOf q = r := ⟨_, rfl⟩
    rw [hrr] at hres ⊢
    have HR := Lib.hid hR
    have Hres := Lib.hid hres
    have Isf := Lib.hid isf
    clear isf hf hR hres hrr
    go_enter Try.func40, Try.ntmps40
    go_wp2_with fail
    refine Isf.out.mono ?_
    rintro e w2 ⟨rfl, hb2⟩
    go_wp2_with fail
    have hrel : InqRel (w2.alloc (Obj.cells #[.slice A q.length c, .slice none 0 0] 88)) (w2.alloc (Obj.cells #[.slice A q.length c, .slice none 0 0] 88)) w2.heap.size A q.length c (.slice none 0 0) [] :=
      ⟨Below.refl _ _, heap_alloc_new w2 _, World.ownsRow_nil _ _ _ _⟩
    have sr : SRead (w2.alloc (Obj.cells #[.slice A q.length c, .slice none 0 0] 88)) w2.heap.size A q :=
      (hA.below (hb2.trans (Below.mono (B := w2.heap.size) (by go_grown) hb2.size)) hb2.size)
    have call := star_any q A c w2.heap.size _ _ h1 h12 hm sr hrel R HR.out
    have kb : Below w.heap.size w (w2.alloc (Obj.cells #[.slice A q.length c, .slice none 0 0] 88)) := hb2.trans (Below.mono (B := w2.heap.size) (by go_grown) hb2.size)
    have e := Hres.out
    cases h2 : R.2 with
    | true =>
      rw [h2] at call e
      simp only [if_true, Prod.mk.injEq] at call e
      obtain ⟨e1, rfl⟩ := e
      have Call := Lib.hid call
      have E1 := Lib.hid e1
      clear call e1 sr hrel Hres HR h2
      refine Call.out.mono ?_
      rintro e w3 ⟨rfl, v3, rel3⟩
      have k3 := kb.trans (rel3.below.mono hb2.size)
      clear rel3
      go_wp2
      go_ret2
      exact ⟨by rw [E1.out]; rfl, k3⟩
    | false =>
      rw [h2] at call e
      simp only [Bool.false_eq_true, if_false, Prod.mk.injEq] at call e
      obtain ⟨rfl, rfl⟩ := e
      have Call := Lib.hid call
      clear call sr hrel Hres HR h2
      refine Call.out.mono ?_
      rintro e w3 ⟨rfl, v3, rel3⟩
      have k3 := kb.trans (rel3.below.mono hb2.size)
      clear rel3
      go_wp2
      go_ret2
      exact ⟨rfl, k3⟩
end Go.Proofs.Ytgkedgfbncljbaa
/-
  THE QUESTIONS, as the model tells them: nothing is asked twice, and what was asked is known. Nothing here speaks of the program.
-/
namespace Go.Proofs.Ytgkedgfbncljbaa
open Go.RowKit

/-- what was asked about the one left is known: it knows none of those, and they know it -/
def Known (q : LLI) (c : Nat) (s : PL) : Prop := ∀ x ∈ s, ∃ a b : Nat, x = ((a : Int), (b : Int)) ∧ (a = c → knowsF q a b = false) ∧ (b = c → knowsF q a b = true)
theorem asks_known (q : LLI) : ∀ k, 1 ≤ k → ∀ x ∈ asksK q k, ∃ a b : Nat, x = ((a : Int), (b : Int)) ∧ a < k ∧ b < k ∧ (a = candK q k → knowsF q a b = false) ∧ (b = candK q k → knowsF q a b = true) := by
  intro k
  induction k with
  | zero => intro h; omega
  | succ k ih =>
    intro _ x hx
    by_cases k0 : k = 0
    · subst k0
      simp [asksK] at hx
    · have hc := candK_lt q k (by omega)
      rw [asksK, if_neg k0] at hx
      rw [candK, if_neg k0]
      have hm : x ∈ asksK q k ∨ x = (((candK q k : Nat) : Int), (k : Int)) := by
        unfold askP at hx
        split at hx
        · exact .inl hx
        · rcases List.mem_append.1 hx with h | h
          · exact .inl h
          · exact .inr (by simpa using h)
      rcases hm with hm | hm
      · obtain ⟨a, b, e, ha, hb, h1, h2⟩ := ih (by omega) x hm
        refine ⟨a, b, e, by omega, by omega, ?_, ?_⟩
        · cases hk : knowsF q (candK q k) k with
          | true => rw [if_pos rfl]; intro h; omega
          | false => rw [if_neg (by simp)]; exact h1
        · cases hk : knowsF q (candK q k) k with
          | true => rw [if_pos rfl]; intro h; omega
          | false => rw [if_neg (by simp)]; exact h2
      · refine ⟨candK q k, k, hm, by omega, by omega, ?_, ?_⟩
        · cases hk : knowsF q (candK q k) k with
          | true => rw [if_pos rfl]; intro h; omega
          | false => intro _; rfl
        · cases hk : knowsF q (candK q k) k with
          | true => intro _; rfl
          | false => rw [if_neg (by simp)]; intro h; omega
theorem asks_new (q : LLI) {k : Nat} (hk : 1 ≤ k) : asksK q (k + 1) = asksK q k ++ [(((candK q k : Nat) : Int), (k : Int))] := by
  rw [asksK, if_neg (by omega)]
  unfold askP
  rw [if_neg]
  intro h
  obtain ⟨a, b, e, _, hb, _⟩ := asks_known q k hk _ (List.contains_iff_mem.1 h)
  simp only [Prod.mk.injEq] at e
  omega
theorem known_asks (q : LLI) {k : Nat} (hk : 1 ≤ k) : Known q (candK q k) (asksK q k) := fun x hx => by
  obtain ⟨a, b, e, _, _, h1, h2⟩ := asks_known q k hk x hx
  exact ⟨a, b, e, h1, h2⟩
theorem known_put {q : LLI} {c a b : Nat} {s : PL} (h : Known q c s) (h1 : a = c → knowsF q a b = false) (h2 : b = c → knowsF q a b = true) : Known q c (askP s a b) := by
  intro x hx
  unfold askP at hx
  split at hx
  · exact h x hx
  · rcases List.mem_append.1 hx with hx | hx
    · exact h x hx
    · exact ⟨a, b, by simpa using hx, h1, h2⟩
theorem known_no {q : LLI} {c x : Nat} {s : PL} (h : Known q c s) (hc : s.contains ((c : Int), (x : Int)) = true) : knowsF q c x = false := by
  obtain ⟨a, b, e, h1, _⟩ := h _ (List.contains_iff_mem.1 hc)
  simp only [Prod.mk.injEq] at e
  have ea : c = a := by omega
  have eb : x = b := by omega
  subst ea eb
  exact h1 rfl
theorem known_yes {q : LLI} {c x : Nat} {s : PL} (h : Known q c s) (hc : s.contains ((x : Int), (c : Int)) = true) : knowsF q x c = true := by
  obtain ⟨a, b, e, _, h2⟩ := h _ (List.contains_iff_mem.1 hc)
  simp only [Prod.mk.injEq] at e
  have ea : x = a := by omega
  have eb : c = b := by omega
  subst ea eb
  exact h2 rfl
theorem run2_len (q : LLI) (c : Nat) : ∀ (xs : List Nat) (s : PL), (run2 q c xs s).1.length ≤ s.length + 2 * xs.length := by
  intro xs
  induction xs with
  | nil => intro s; simp [run2]
  | cons x xs ih =>
    intro s
    have h1 := askP_len s c x
    have h2 := askP_len (askP s c x) x c
    unfold run2
    simp only [List.length_cons]
    split
    · have := ih s; omega
    · split
      · show (askP s c x).length ≤ _; omega
      · split
        · have := ih (askP (askP s c x) x c); omega
        · show (askP (askP s c x) x c).length ≤ _; omega
def resQuestionsForStar (q : LLI) : PL × Bool := if isFameI q then ((run2 q (candK q q.length) (List.range q.length) (asksK q q.length)).1, true) else ([], false)
theorem resQuestionsForStar_len (q : LLI) : (resQuestionsForStar q).1.length ≤ 1048576 := by
  unfold resQuestionsForStar
  split
  · rename_i h
    obtain ⟨_, h12, _⟩ := isFame_parts h
    have h1 := run2_len q (candK q q.length) (List.range q.length) (asksK q q.length)
    have h2 := asksK_len q q.length
    rw [List.length_range] at h1
    show (run2 q (candK q q.length) (List.range q.length) (asksK q q.length)).1.length ≤ _
    omega
  · simp
set_option maxHeartbeats 2000000 in
set_option maxRecDepth 100000 in
theorem implQuestionsForStar_any (q : LLI) (A : Option Addr) (c : Nat) (w : World) (hl : q.length ≤ 1048576) (hm : ∀ l ∈ q, l.length ≤ 1048576) (hA : SRead w w.heap.size A q) :
    Calls Try.prog 42 #[.slice A q.length c] w (GotPairsOk w (resQuestionsForStar q).1 (resQuestionsForStar q).2) := by
  have isf := implIsFame_any q A c w hl hm hA
  unfold resIsFame at isf
  cases hf : isFameI q with
  | false =>
    have e : resQuestionsForStar q = ([], false) := by unfold resQuestionsForStar; rw [hf, if_neg (by simp)]
    rw [e]
    rw [hf] at isf
    have Isf := Lib.hid isf
    clear isf hf e
    go_enter Try.func42, Try.ntmps42
    go_wp2_with fail
    refine Isf.out.mono ?_
    rintro e w2 ⟨rfl, hb2⟩
    go_wp2
    go_ret2
    exact ⟨none, 0, rfl, World.ownsRow_nil _ _ _ _, hb2⟩
  | true =>
    rw [hf] at isf
    obtain ⟨h1, h12, _⟩ := isFame_parts hf
    obtain ⟨R, hR⟩ : ∃ R, run2 q (candK q q.length) (List.range q.length) (asksK q q.length) = R := ⟨_, rfl⟩
    have hres : resQuestionsForStar q = (R.1, true) := by unfold resQuestionsForStar; rw [hf, if_pos rfl, hR]
    rw [hres]
    have HR := Lib.hid hR
    have Isf := Lib.hid isf
    obtain ⟨rv, hrv⟩ : ∃ rv, (if R.2 then ((candK q q.length : Nat) : Int) else 0) = rv := ⟨_, rfl⟩
    have Hrv := Lib.hid hrv
    clear isf hf hR hres hrv
    go_enter Try.func42, Try.ntmps42
    go_wp2_with fail
    refine Isf.out.mono ?_
    rintro e w2 ⟨rfl, hb2⟩
    go_wp2_with fail
    have hrel : InqRel (w2.alloc (Obj.cells #[.slice A q.length c, .slice none 0 0] 88)) (w2.alloc (Obj.cells #[.slice A q.length c, .slice none 0 0] 88)) w2.heap.size A q.length c (.slice none 0 0) [] :=
      ⟨Below.refl _ _, heap_alloc_new w2 _, World.ownsRow_nil _ _ _ _⟩
    have sr : SRead (w2.alloc (Obj.cells #[.slice A q.length c, .slice none 0 0] 88)) w2.heap.size A q :=
      (hA.below (hb2.trans (Below.mono (B := w2.heap.size) (by go_grown) hb2.size)) hb2.size)
    have call := star_any q A c w2.heap.size _ _ h1 h12 hm sr hrel R HR.out
    rw [Hrv.out] at call
    have kb : Below w.heap.size w (w2.alloc (Obj.cells #[.slice A q.length c, .slice none 0 0] 88)) := hb2.trans (Below.mono (B := w2.heap.size) (by go_grown) hb2.size)
    have Call := Lib.hid call
    clear call sr hrel HR
    refine Call.out.mono ?_
    rintro e w3 ⟨rfl, v3, rel3⟩
    have k3 := kb.trans (rel3.below.mono hb2.size)
    obtain ⟨A3, c3, rfl, _⟩ := own_shape rel3.own
    obtain ⟨_, u1, _⟩ := rel3.cells
    have own3 := own_lower rel3.own (show w.heap.size ≤ w2.heap.size + 1 by have := hb2.size; omega)
    have Own3 := Lib.hid own3
    clear rel3 own3
    go_wp2
    go_ret2
    exact ⟨A3, c3, rfl, Own3.out, k3⟩
end Go.Proofs.Ytgkedgfbncljbaa
/-
  'QuestionsForStar': the model's, by its contract.
-/
namespace Go.Proofs.Ytgkedgfbncljbaa
open Go.RowKit

set_option maxHeartbeats 2000000 in
set_option maxRecDepth 100000 in
theorem haAsked_any (l : PL) (a b : Nat) (A : Option Addr) (c : Nat) (w : World) (hl : l.length ≤ 1000) (hA : CRead w w.heap.size A (pcells l)) :
    Calls Try.prog 89 #[.slice A l.length c, .int .i64 a, .int .i64 b] w fun e w' => e = .returned (.bool (l.contains ((a : Int), (b : Int)))) ∧ Below w.heap.size w w' := by
  obtain ⟨r, hr⟩ : ∃ r, l.contains ((a : Int), (b : Int)) = r := ⟨_, rfl⟩
  rw [hr]
  have Hr := Lib.hid hr
  clear hr
  go_enter Try.func89, Try.ntmps89
  go_wp2
  go_loopw [11] (fun i wr => ∃ k : Nat, k ≤ l.length ∧ i = .int .i64 k ∧ Below w.heap.size w wr ∧ ∀ (j : Nat) (x : Int × Int), j < k → l[j]? = some x → x ≠ ((a : Int), (b : Int))) (fun i _ => l.length - (intOf i).toNat)
  case atStart => exact ⟨0, Nat.zero_le _, rfl, Below.refl _ _, fun j x hj => by omega⟩
  case round =>
    obtain ⟨k, hk, rfl, hb, hall⟩ := hrel
    have Hall := Lib.hid hall
    clear hall
    have s0 := hb.size
    by_cases hlt : k < l.length
    · obtain ⟨⟨x, y⟩, hx⟩ := getSome l k hlt
      obtain ⟨bb, off, rfl, hbb, c0, c1⟩ := (hA.below hb (Nat.le_refl _)).pair hx
      have hki : (k : Int) < (l.length : Int) := by omega
      have Hx := Lib.hid hx
      clear hx
      by_cases hxa : x = (a : Int)
      · by_cases hyb : y = (b : Int)
        · have Hf := Lib.hid (show r = true by rw [← Hr.out, List.contains_iff_mem]; rw [← hxa, ← hyb]; exact List.mem_of_getElem? Hx.out)
          have e1 : (x == (a : Int)) = true := by simp [hxa]
          have e2 : (y == (b : Int)) = true := by simp [hyb]
          clear hxa hyb
          go_wp2
          go_ret
          exact ⟨by rw [Hf.out]; rfl, hb.alloc s0 _⟩
        · have e1 : (x == (a : Int)) = true := by simp [hxa]
          have e2 : (y == (b : Int)) = false := by simp [hyb]
          have Hne := Lib.hid (show (x, y) ≠ ((a : Int), (b : Int)) from fun h => hyb (by simp only [Prod.mk.injEq] at h; exact h.2))
          clear hxa hyb
          go_wp2
          go_roundw
          case rel => exact ⟨k + 1, by omega, by go_num, hb.alloc s0 _, fun j z hj hz => by
                        by_cases hjk : j = k
                        · subst hjk
                          rw [Hx.out] at hz
                          rw [← Option.some.inj hz]
                          exact Hne.out
                        · exact Hall.out j z (by omega) hz⟩
          case measure => simp [intOf]; omega
      · have e1 : (x == (a : Int)) = false := by simp [hxa]
        have Hne := Lib.hid (show (x, y) ≠ ((a : Int), (b : Int)) from fun h => hxa (by simp only [Prod.mk.injEq] at h; exact h.1))
        clear hxa
        go_wp2
        go_roundw
        case rel => exact ⟨k + 1, by omega, by go_num, hb.alloc s0 _, fun j z hj hz => by
                      by_cases hjk : j = k
                      · subst hjk
                        rw [Hx.out] at hz
                        rw [← Option.some.inj hz]
                        exact Hne.out
                      · exact Hall.out j z (by omega) hz⟩
        case measure => simp [intOf]; omega
    · have hkl : k = l.length := by omega
      have hge : ¬ ((k : Int) < (l.length : Int)) := by omega
      have He := Lib.hid (show r = false by
        rw [← Hr.out]
        cases hc : l.contains ((a : Int), (b : Int)) with
        | false => rfl
        | true =>
          obtain ⟨j, hj, e⟩ := List.getElem_of_mem (List.contains_iff_mem.1 hc)
          exact absurd e (Hall.out j _ (by omega) (List.getElem?_eq_getElem hj)))
      go_wp2
      go_ret
      exact ⟨by rw [He.out]; rfl, hb⟩
set_option maxHeartbeats 8000000 in
set_option maxRecDepth 100000 in
theorem specQuestionsForStar_any (q : LLI) (A : Option Addr) (c : Nat) (w : World) (hl : q.length ≤ 1048576) (hm : ∀ l ∈ q, l.length ≤ 1048576) (hA : SRead w w.heap.size A q) :
    Calls Try.prog 41 #[.slice A q.length c] w (GotPairsOk w (resQuestionsForStar q).1 (resQuestionsForStar q).2) := by
  have isf := haFame_any q A c w hl hm hA
  cases hf : isFameI q with
  | false =>
    have e : resQuestionsForStar q = ([], false) := by unfold resQuestionsForStar; rw [hf, if_neg (by simp)]
    rw [e]
    rw [hf] at isf
    have Isf := Lib.hid isf
    clear isf hf e
    go_enter Try.func41, Try.ntmps41
    go_wp2_with fail
    refine Isf.out.mono ?_
    rintro e w2 ⟨rfl, hb2⟩
    go_wp2
    go_ret2
    exact ⟨none, 0, rfl, World.ownsRow_nil _ _ _ _, hb2⟩
  | true =>
    rw [hf] at isf
    obtain ⟨i0, hi, hz0, hz1, hz2⟩ := info_parts Try.infoPair
    obtain ⟨h1, h12, _⟩ := isFame_parts hf
    obtain ⟨R, hR⟩ : ∃ R, run2 q (candK q q.length) (List.range q.length) (asksK q q.length) = R := ⟨_, rfl⟩
    have hres : resQuestionsForStar q = (R.1, true) := by unfold resQuestionsForStar; rw [hf, if_pos rfl, hR]
    rw [hres]
    obtain ⟨n, hn⟩ : ∃ n, q.length = n := ⟨_, rfl⟩
    have row : ∀ (a : Nat), a < n → ∃ l b off A1 c1, A = some ⟨b, off, none⟩ ∧ (∀ x : Nat, knowsF q a x = hasI l x) ∧ l.length ≤ 1048576 ∧ ∀ w', Below w.heap.size w w' → w'.cell? ⟨b, off + a, none⟩ = some (.slice A1 l.length c1) ∧ CRead w' w'.heap.size A1 (icells l) := by
      intro a ha
      obtain ⟨l, hx⟩ := getSome q a (by omega)
      obtain ⟨b, off, A1, c1, e, hb1, d1, R1⟩ := hA a l hx
      exact ⟨l, b, off, A1, c1, e, fun x => by unfold knowsF; rw [getD_of hx], hm l (List.mem_of_getElem? hx), fun w' hb => ⟨carry hb d1 hb1, (R1.below hb (Nat.le_refl _)).more hb.size⟩⟩
    rw [hn] at isf h1 h12 hR ⊢
    have Isf := Lib.hid isf
    have HR := Lib.hid hR
    have Row := Lib.hid row
    clear isf hf hR hres row hn hm hl hA
    go_enter Try.func41, Try.ntmps41
    go_wp2_with fail
    refine Isf.out.mono ?_
    rintro e w2 ⟨rfl, hb2⟩
    have HB2 := Lib.hid hb2
    clear hb2 Isf
    go_wp2
    go_loopw [4, 5, 6] (fun v cv i wr => ∃ k : Nat, 1 ≤ k ∧ k ≤ n ∧ i = .int .i64 k ∧ cv = .int .i64 (candK q k : Nat) ∧ wr.ownsRow w.heap.size 71 2 v (asksK q k).length (pcells (asksK q k)) ∧ Below w.heap.size w wr) (fun _ _ i _ => n - (intOf i).toNat)
    case atStart => exact ⟨1, Nat.le_refl _, h1, rfl, rfl, World.ownsRow_nil _ _ _ _, HB2.out⟩
    case round =>
      clear HB2
      obtain ⟨k, hk1, hk, rfl, rfl, hown, hb⟩ := hrel
      have hs := hb.size
      have hck := candK_lt q k hk1
      have hsl := asksK_len q k
      by_cases hlt : k < n
      · have hki : (k : Int) < (n : Int) := by omega
        have hax := asks_new q hk1
        have hnx : candK q (k + 1) = if knowsF q (candK q k) k then k else candK q k := by rw [candK, if_neg (by omega)]
        obtain ⟨C, hC⟩ : ∃ C, candK q k = C := ⟨_, rfl⟩
        rw [hC] at hck hax hnx ⊢
        have hCi : (C : Int) < (n : Int) := by omega
        obtain ⟨l, b, off, A1, c1, rfl, hkn, hll, hrow⟩ := Row.out C (by omega)
        obtain ⟨bb, hbb⟩ : ∃ bb, knowsF q C k = bb := ⟨_, rfl⟩
        rw [hbb] at hnx
        have hhas : hasI l k = bb := by rw [← hkn k]; exact hbb
        have Hax := Lib.hid hax
        have Hnx := Lib.hid hnx
        have Hrow := Lib.hid hrow
        have Hhas := Lib.hid hhas
        clear hax hnx hC hkn hrow hbb hhas
        go_wp2_with (at_builtin; refine wpList_append_own _ rfl _ _ 22 rfl w.heap.size 71 i0 _ 2 16 Try.underlying22 hi hz0 hz1 hz2 rfl (by decide) _ _ _ rfl (hown.alloc _) ⟨wr.heap.size, 0, none⟩ 1 1 [.int .i64 C, .int .i64 k] rfl rfl (two_cells (by simp) (by simp)) (two_one rfl rfl) (by unfold maxLen; omega) (by omega) (by simp; omega) ?_; intro v1 w3 hown3 hg3 _; obtain ⟨A3, d3, rfl, _⟩ := own_shape hown3; have kb3 := ((hb.alloc (by omega) _).grown hg3 (by simp; omega) (fun k hk => (hown.lt k hk).1)); obtain ⟨q0, q1⟩ := Hrow.out w3 kb3)
        refine (l1Has_any l k A1 c1 _ hll q1).mono ?_
        rw [Hhas.out]
        rintro e w4 ⟨rfl, rfl⟩
        have Own3 := Lib.hid hown3
        clear q0 q1
        cases bb with
        | true =>
          go_wp2
          go_roundw
          case rel => exact ⟨k + 1, by omega, by omega, by go_num, by rw [Hnx.out]; rfl, by rw [Hax.out, pcells_append, List.length_append]; exact Own3.out, kb3⟩
          case measure => simp [intOf]; omega
        | false =>
          go_wp2
          go_roundw
          case rel => exact ⟨k + 1, by omega, by omega, by go_num, by rw [Hnx.out]; rfl, by rw [Hax.out, pcells_append, List.length_append]; exact Own3.out, kb3⟩
          case measure => simp [intOf]; omega
      · have hkn : k = n := by omega
        subst hkn
        have hge : ¬ ((k : Int) < (k : Int)) := by omega
        have hkn0 := known_asks q hk1
        have hR := HR.out
        obtain ⟨C, hC⟩ : ∃ C, candK q k = C := ⟨_, rfl⟩
        obtain ⟨S, hS⟩ : ∃ S, asksK q k = S := ⟨_, rfl⟩
        rw [hC] at hck hR hkn0 ⊢
        rw [hS] at hsl hR hkn0 hown
        have HR2 := Lib.hid hR
        have Hkn0 := Lib.hid hkn0
        have Hown := Lib.hid hown
        have Hb := Lib.hid hb
        have hCi : (C : Int) < (k : Int) := by omega
        clear hR HR hC hS hkn0 hown hb hs
        go_wp2
        go_loopw [4, 32] (fun v i wr => ∃ (x : Nat) (s : PL), x ≤ k ∧ i = .int .i64 x ∧ wr.ownsRow w.heap.size 71 2 v s.length (pcells s) ∧ Below w.heap.size w wr ∧ run2 q C ((List.range k).drop x) s = R ∧ Known q C s ∧ s.length ≤ k + 2 * x) (fun _ i _ => k - (intOf i).toNat)
        case atStart => exact ⟨0, _, Nat.zero_le _, rfl, Hown.out, Hb.out, by rw [List.drop_zero]; exact HR2.out, Hkn0.out, by omega⟩
        case round =>
          clear Hown Hb HR2 Hkn0
          obtain ⟨x, s, hx, rfl, hown, hb, hrun, hknown, hsl2⟩ := hrel
          have hs := hb.size
          have Hrun := Lib.hid hrun
          have Hknown := Lib.hid hknown
          obtain ⟨A2, c2, rfl, _⟩ := own_shape hown
          clear hrun hknown
          by_cases hlx2 : x < k
          · have hxi : (x : Int) < (k : Int) := by omega
            by_cases hxc : x = C
            · subst hxc
              have hne : ((x : Int) == (x : Int)) = true := by simp
              have hnext : run2 q x ((List.range k).drop (x + 1)) s = R := by rw [← Hrun.out, range_drop hlx2, run2, if_pos rfl]
              have Hnext := Lib.hid hnext
              clear hnext
              go_wp2
              go_roundw
              case rel => exact ⟨x + 1, _, by omega, by go_num, hown, hb, Hnext.out, Hknown.out, by omega⟩
              case measure => simp [intOf]; omega
            · have hne : ((x : Int) == (C : Int)) = false := by simp; omega
              have hr1 : R = if knowsF q C x then (askP s C x, false) else if knowsF q x C then run2 q C ((List.range k).drop (x + 1)) (askP (askP s C x) x C) else (askP (askP s C x) x C, false) := by
                rw [← Hrun.out, range_drop hlx2, run2, if_neg hxc]
              have Hr1 := Lib.hid hr1
              obtain ⟨lc, b, off, Ac, cc, rfl, hknC, hlc, hrowC⟩ := Row.out C (by omega)
              obtain ⟨lx, b', off', Ax, cx, e', hknX, hlx, hrowX⟩ := Row.out x hlx2
              simp only [Option.some.injEq, Addr.mk.injEq, and_true] at e'
              obtain ⟨rfl, rfl⟩ := e'
              obtain ⟨bc, hbc⟩ : ∃ bc, knowsF q C x = bc := ⟨_, rfl⟩
              obtain ⟨bx, hbx⟩ : ∃ bx, knowsF q x C = bx := ⟨_, rfl⟩
              have hhasC : hasI lc x = bc := by rw [← hknC x]; exact hbc
              have hhasX : hasI lx C = bx := by rw [← hknX C]; exact hbx
              have HbC := Lib.hid hbc
              have HbX := Lib.hid hbx
              have HhasC := Lib.hid hhasC
              have HhasX := Lib.hid hhasX
              have RowC := Lib.hid hrowC
              have RowX := Lib.hid hrowX
              have hl1 : (s ++ [((C : Int), (x : Int))]).length = s.length + 1 := by simp
              have HL1 := Lib.hid hl1
              have call := haAsked_any s C x A2 c2 wr (by omega) (CRead.of_own hown)
              obtain ⟨ha1, hha1⟩ : ∃ ha1, s.contains ((C : Int), (x : Int)) = ha1 := ⟨_, rfl⟩
              rw [hha1] at call
              have Hha1 := Lib.hid hha1
              have Call := Lib.hid call
              clear call hr1 hknC hknX hrowC hrowX hbc hbx hhasC hhasX hha1 hl1
              go_wp2_with fail
              refine Call.out.mono ?_
              rintro e w3 ⟨rfl, hb3⟩
              have k3 := hb.trans (hb3.mono hs)
              have own3 := own_below hown hb3 (Nat.le_refl _)
              have s3 := k3.size
              clear Call hown hb hb3
              cases ha1 with
              | true =>
                have hkC := known_no Hknown.out Hha1.out
                have eA := Lib.hid (show askP s C x = s by unfold askP; rw [Hha1.out, if_pos rfl])
                have hr2 : R = if knowsF q x C then run2 q C ((List.range k).drop (x + 1)) (askP (askP s C x) x C) else (askP (askP s C x) x C, false) := by rw [Hr1.out, hkC, if_neg (by simp)]
                have Hr2 := Lib.hid hr2
                clear hkC hr2
                have call2 := haAsked_any s x C A2 c2 w3 (by omega) (CRead.of_own own3)
                obtain ⟨ha2, hha2⟩ : ∃ ha2, s.contains ((x : Int), (C : Int)) = ha2 := ⟨_, rfl⟩
                rw [hha2] at call2
                have Hha2 := Lib.hid hha2
                have Call2 := Lib.hid call2
                clear call2 hha2
                go_wp2_with fail
                refine Call2.out.mono ?_
                rintro e w6 ⟨rfl, hb6⟩
                have k6 := k3.trans (hb6.mono k3.size)
                have own6 := own_below own3 hb6 (Nat.le_refl _)
                have s6 := k6.size
                cases ha2 with
                | true =>
                  have hkB := known_yes Hknown.out Hha2.out
                  have eB : askP s x C = s := by unfold askP; rw [Hha2.out, if_pos rfl]
                  have hnext : run2 q C ((List.range k).drop (x + 1)) s = R := by rw [Hr2.out, hkB, if_pos rfl, eA.out, eB]
                  have Hnext := Lib.hid hnext
                  clear hkB eB hnext
                  go_wp2
                  go_roundw
                  case rel => exact ⟨x + 1, _, by omega, by go_num, own6, k6, Hnext.out, Hknown.out, by omega⟩
                  case measure => simp [intOf]; omega
                | false =>
                  have eB := Lib.hid (show askP s x C = s ++ [((x : Int), (C : Int))] by unfold askP; rw [Hha2.out, if_neg (by simp)])
                  go_wp2_with (at_builtin; refine wpList_append_own _ rfl _ _ 22 rfl w.heap.size 71 i0 _ 2 16 Try.underlying22 hi hz0 hz1 hz2 rfl (by decide) _ _ _ rfl (own6.alloc _) ⟨w6.heap.size, 0, none⟩ 1 1 [.int .i64 x, .int .i64 C] rfl rfl (two_cells (by simp) (by simp)) (two_one rfl rfl) (by unfold maxLen; omega) (by omega) (by simp; omega) ?_; intro v7 w7 own7 hg7 _; obtain ⟨A7, d7, rfl, _⟩ := own_shape own7; have k7 := ((k6.alloc (by omega) _).grown hg7 (by simp; omega) (fun k hk => (own6.lt k hk).1)); have z7 := k7.size; obtain ⟨p7, q7⟩ := RowX.out w7 k7)
                  refine (l1Has_any lx C Ax cx _ hlx q7).mono ?_
                  rw [HhasX.out]
                  rintro e w8 ⟨rfl, rfl⟩
                  have Own7 := Lib.hid own7
                  clear p7 q7 own7
                  cases bx with
                  | true =>
                    have hnext : run2 q C ((List.range k).drop (x + 1)) (s ++ [((x : Int), (C : Int))]) = R := by rw [Hr2.out, HbX.out, if_pos rfl, eA.out, eB.out]
                    have Hnext := Lib.hid hnext
                    have hkn2 : Known q C (s ++ [((x : Int), (C : Int))]) := by have h := known_put (a := x) (b := C) Hknown.out (fun h => absurd h hxc) (fun _ => HbX.out); rw [eB.out] at h; exact h
                    have Hkn2 := Lib.hid hkn2
                    clear hnext hkn2
                    go_wp2
                    go_roundw
                    case rel => exact ⟨x + 1, _, by omega, by go_num, by rw [pcells_append, List.length_append]; exact Own7.out, k7, Hnext.out, Hkn2.out, by rw [List.length_append]; simp; omega⟩
                    case measure => simp [intOf]; omega
                  | false =>
                    have hRR : R = (s ++ [((x : Int), (C : Int))], false) := by rw [Hr2.out, HbX.out, if_neg (by simp), eA.out, eB.out]
                    have hRl : R.1.length = s.length + 1 := by rw [hRR, List.length_append]; rfl
                    have HRl := Lib.hid hRl
                    have HRR := Lib.hid hRR
                    clear hRl hRR
                    go_wp2
                    go_ret2
                    refine ⟨A7, d7, by rw [HRl.out]; rfl, ?_, k7⟩
                    rw [HRl.out, HRR.out]
                    show World.ownsRow _ _ _ _ _ _ (pcells (s ++ [((x : Int), (C : Int))]))
                    rw [pcells_append]
                    exact Own7.out
              | false =>
                have eA := Lib.hid (show askP s C x = s ++ [((C : Int), (x : Int))] by unfold askP; rw [Hha1.out, if_neg (by simp)])
                go_wp2_with (at_builtin; refine wpList_append_own _ rfl _ _ 22 rfl w.heap.size 71 i0 _ 2 16 Try.underlying22 hi hz0 hz1 hz2 rfl (by decide) _ _ _ rfl (own3.alloc _) ⟨w3.heap.size, 0, none⟩ 1 1 [.int .i64 C, .int .i64 x] rfl rfl (two_cells (by simp) (by simp)) (two_one rfl rfl) (by unfold maxLen; omega) (by omega) (by simp; omega) ?_; intro v4 w4 own4 hg4 _; obtain ⟨A4, d4, rfl, _⟩ := own_shape own4; have k4 := ((k3.alloc (by omega) _).grown hg4 (by simp; omega) (fun k hk => (own3.lt k hk).1)); have z4 := k4.size; obtain ⟨p4, q4⟩ := RowC.out w4 k4)
                refine (l1Has_any lc x Ac cc _ hlc q4).mono ?_
                rw [HhasC.out]
                rintro e w5 ⟨rfl, rfl⟩
                clear p4 q4
                cases bc with
                | true =>
                  have hRR : R = (s ++ [((C : Int), (x : Int))], false) := by rw [Hr1.out, HbC.out, if_pos rfl, eA.out]
                  have hRl : R.1.length = s.length + 1 := by rw [hRR]; exact HL1.out
                  have HRl := Lib.hid hRl
                  have HRR := Lib.hid hRR
                  have Own4 := Lib.hid own4
                  clear hRl hRR own4
                  go_wp2
                  go_ret2
                  refine ⟨A4, d4, by rw [HRl.out]; rfl, ?_, k4⟩
                  rw [HRl.out, HRR.out]
                  show World.ownsRow _ _ _ _ _ _ (pcells (s ++ [((C : Int), (x : Int))]))
                  rw [pcells_append]
                  exact Own4.out
                | false =>
                  have hr2 : R = if knowsF q x C then run2 q C ((List.range k).drop (x + 1)) (askP (askP s C x) x C) else (askP (askP s C x) x C, false) := by rw [Hr1.out, HbC.out, if_neg (by simp)]
                  have Hr2 := Lib.hid hr2
                  have hkn1 : Known q C (s ++ [((C : Int), (x : Int))]) := by have h := known_put (a := C) (b := x) Hknown.out (fun _ => HbC.out) (fun h => absurd h hxc); rw [eA.out] at h; exact h
                  have Hkn1 := Lib.hid hkn1
                  have own4e := own4
                  rw [show pcells s ++ [.int .i64 C, .int .i64 x] = pcells (s ++ [((C : Int), (x : Int))]) by rw [pcells_append]; rfl] at own4e
                  have own4e' := own4e
                  clear hr2 hkn1 own4
                  have call2 := haAsked_any (s ++ [((C : Int), (x : Int))]) x C A4 d4 w4 (by rw [HL1.out]; omega) (CRead.of_own own4e')
                  rw [HL1.out] at call2
                  obtain ⟨ha2, hha2⟩ : ∃ ha2, (s ++ [((C : Int), (x : Int))]).contains ((x : Int), (C : Int)) = ha2 := ⟨_, rfl⟩
                  rw [hha2] at call2
                  have Hha2 := Lib.hid hha2
                  have Call2 := Lib.hid call2
                  clear call2 hha2
                  go_wp2_with fail
                  refine Call2.out.mono ?_
                  rintro e w6 ⟨rfl, hb6⟩
                  have k6 := k4.trans (hb6.mono k4.size)
                  have own6 := own_below own4e hb6 (Nat.le_refl _)
                  have s6 := k6.size
                  cases ha2 with
                  | true =>
                    have hkB := known_yes Hkn1.out Hha2.out
                    have eB : askP (s ++ [((C : Int), (x : Int))]) x C = (s ++ [((C : Int), (x : Int))]) := by unfold askP; rw [Hha2.out, if_pos rfl]
                    have hnext : run2 q C ((List.range k).drop (x + 1)) (s ++ [((C : Int), (x : Int))]) = R := by rw [Hr2.out, hkB, if_pos rfl, eA.out, eB]
                    have Hnext := Lib.hid hnext
                    clear hkB eB hnext
                    go_wp2
                    go_roundw
                    case rel => exact ⟨x + 1, _, by omega, by go_num, (by rw [HL1.out]; exact own6), k6, Hnext.out, Hkn1.out, by rw [HL1.out]; omega⟩
                    case measure => simp [intOf]; omega
                  | false =>
                    have eB := Lib.hid (show askP (s ++ [((C : Int), (x : Int))]) x C = (s ++ [((C : Int), (x : Int))]) ++ [((x : Int), (C : Int))] by unfold askP; rw [Hha2.out, if_neg (by simp)])
                    go_wp2_with (at_builtin; refine wpList_append_own _ rfl _ _ 22 rfl w.heap.size 71 i0 _ 2 16 Try.underlying22 hi hz0 hz1 hz2 rfl (by decide) _ _ _ rfl (own6.alloc _) ⟨w6.heap.size, 0, none⟩ 1 1 [.int .i64 x, .int .i64 C] rfl rfl (two_cells (by simp) (by simp)) (two_one rfl rfl) (by unfold maxLen; omega) (by omega) (by simp; omega) ?_; intro v7 w7 own7 hg7 _; obtain ⟨A7, d7, rfl, _⟩ := own_shape own7; have k7 := ((k6.alloc (by omega) _).grown hg7 (by simp; omega) (fun k hk => (own6.lt k hk).1)); have z7 := k7.size; obtain ⟨p7, q7⟩ := RowX.out w7 k7)
                    refine (l1Has_any lx C Ax cx _ hlx q7).mono ?_
                    rw [HhasX.out]
                    rintro e w8 ⟨rfl, rfl⟩
                    have Own7 := Lib.hid own7
                    clear p7 q7 own7
                    cases bx with
                    | true =>
                      have hnext : run2 q C ((List.range k).drop (x + 1)) ((s ++ [((C : Int), (x : Int))]) ++ [((x : Int), (C : Int))]) = R := by rw [Hr2.out, HbX.out, if_pos rfl, eA.out, eB.out]
                      have Hnext := Lib.hid hnext
                      have hkn2 : Known q C ((s ++ [((C : Int), (x : Int))]) ++ [((x : Int), (C : Int))]) := by have h := known_put (a := x) (b := C) Hkn1.out (fun h => absurd h hxc) (fun _ => HbX.out); rw [eB.out] at h; exact h
                      have Hkn2 := Lib.hid hkn2
                      clear hnext hkn2
                      go_wp2
                      go_roundw
                      case rel => exact ⟨x + 1, _, by omega, by go_num, by rw [pcells_append, List.length_append, HL1.out]; exact Own7.out, k7, Hnext.out, Hkn2.out, by rw [List.length_append, HL1.out]; simp; omega⟩
                      case measure => simp [intOf]; omega
                    | false =>
                      have hRR : R = ((s ++ [((C : Int), (x : Int))]) ++ [((x : Int), (C : Int))], false) := by rw [Hr2.out, HbX.out, if_neg (by simp), eA.out, eB.out]
                      have hRl : R.1.length = (s.length + 1) + 1 := by rw [hRR, List.length_append, HL1.out]; rfl
                      have HRl := Lib.hid hRl
                      have HRR := Lib.hid hRR
                      clear hRl hRR
                      go_wp2
                      go_ret2
                      refine ⟨A7, d7, by rw [HRl.out]; rfl, ?_, k7⟩
                      rw [HRl.out, HRR.out]
                      show World.ownsRow _ _ _ _ _ _ (pcells ((s ++ [((C : Int), (x : Int))]) ++ [((x : Int), (C : Int))]))
                      rw [pcells_append]
                      exact Own7.out
          · have hxk : x = k := by omega
            have hgx : ¬ ((x : Int) < (k : Int)) := by omega
            have hRR : R = (s, true) := by rw [← Hrun.out, hxk, List.drop_of_length_le (by simp)]; rfl
            subst hRR
            have Hown := Lib.hid hown
            clear hown
            go_wp2
            go_ret2
            exact ⟨A2, c2, rfl, Hown.out, hb⟩
end Go.Proofs.Ytgkedgfbncljbaa
