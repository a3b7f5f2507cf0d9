/-
  Texts put together for the claim of 'StrongNumbers' (pack 6): NumsW, PaintP, Ints, SzI, Paint, PaintG, Every, StrongI, LawStrongNumbers, Head, Facts.
-/
import Derived.Test.YthpapkfpcijpoaaStrongNumbersP1
import Derived.Test.YthpapkfpcijpoaaStrongNumbersP2
import Derived.Test.YthpapkfpcijpoaaStrongNumbersP3
import Derived.Test.YthpapkfpcijpoaaStrongNumbersP5
import Derived.BigQuiet
import Derived.Deep.RegionLaw
import Derived.Deep.RegionHeld3
import Derived.Test.YthpapkfpcijpoaaRows
/-
  NUMBERS OF FRIENDS: what they are, by the model's and the program's contracts.
-/
namespace Go.Proofs.Ythpapkfpcijpoaa
open Go.RowKit

def l1AllB (q : List Int) (lo hi : Int) : Bool := q.all fun x => decide (lo ≤ x ∧ x ≤ hi)
theorem l1AllB_yes {q : List Int} {lo hi : Int} (h : ∀ (j : Nat) (x : Int), j < q.length → q[j]? = some x → lo ≤ x ∧ x ≤ hi) : l1AllB q lo hi = true := by
  simp only [l1AllB, List.all_eq_true, decide_eq_true_eq]
  intro x hx
  obtain ⟨i, hi, rfl⟩ := List.getElem_of_mem hx
  exact h i _ hi (List.getElem?_eq_getElem hi)
theorem l1AllB_no {q : List Int} {lo hi : Int} {k : Nat} {x : Int} (hx : q[k]? = some x) (h : ¬ (lo ≤ x ∧ x ≤ hi)) : l1AllB q lo hi = false := by
  cases he : l1AllB q lo hi with
  | false => rfl
  | true =>
    simp only [l1AllB, List.all_eq_true, decide_eq_true_eq] at he
    exact absurd (he x (List.mem_of_getElem? hx)) h

set_option maxHeartbeats 1000000 in
theorem l1All_any (q : List Int) (A : Option Addr) (c : Nat) (lo hi : Int) (w : World) (hl : q.length ≤ 1048576) (hA : CRead w w.heap.size A (icells q)) :
    Calls Try.prog 79 #[.slice A q.length c, .int .i64 lo, .int .i64 hi] w fun e w' => e = .returned (.bool (l1AllB q lo hi)) ∧ w = w' := by
  go_enter Try.func79, Try.ntmps79
  go_wp2
  go_loop [11] (fun i => ∃ k : Nat, k ≤ q.length ∧ i = .int .i64 k ∧ ∀ (j : Nat) (x : Int), j < k → q[j]? = some x → lo ≤ x ∧ x ≤ hi) (fun i => q.length - (intOf i).toNat)
  case atStart => exact ⟨0, Nat.zero_le _, rfl, fun j x hj => by omega⟩
  case round =>
    obtain ⟨k, hk, rfl, hg⟩ := hrel
    have Hg := Lib.hid hg
    clear hg
    by_cases hlt : k < q.length
    · obtain ⟨x, hx⟩ := getSome q k hlt
      obtain ⟨b, off, rfl, hbb, c0⟩ := hA.int hx
      have hki : (k : Int) < (q.length : Int) := by omega
      have Hx := Lib.hid hx
      clear hx
      by_cases hin : lo ≤ x ∧ x ≤ hi
      · go_wp2_with (go_at_call 63; refine (l1In_yes _ _ _ hin.1 hin.2 _).mono ?_; rintro e w' ⟨rfl, rfl⟩)
        go_round
        case rel =>
          refine ⟨k + 1, by omega, by go_num, fun j y hj hy => ?_⟩
          by_cases hjk : j = k
          · subst hjk
            rw [Hx.out] at hy
            simp only [Option.some.injEq] at hy
            subst hy
            exact hin
          · exact Hg.out j y (by omega) hy
        case measure => simp [intOf]; omega
      · have e : l1AllB q lo hi = false := l1AllB_no Hx.out hin
        have He := Lib.hid e
        clear e
        go_wp2_with (go_at_call 63; refine (l1In_no _ _ _ (by omega) _).mono ?_; rintro e w' ⟨rfl, rfl⟩)
        go_ret
        exact ⟨by rw [He.out]; rfl, rfl⟩
    · have hkl : k = q.length := by omega
      have e : l1AllB q lo hi = true := l1AllB_yes fun j x hj hx => Hg.out j x (by omega) hx
      have He := Lib.hid e
      clear e
      have hge : ¬ ((k : Int) < (q.length : Int)) := by omega
      go_wp2
      go_ret
      exact ⟨by rw [He.out]; rfl, rfl⟩

theorem isNums_all {q : List Int} (h : q.length ≤ 12) : l1AllB q 0 ((q.length : Int) - 1) = isNums q := by
  unfold l1AllB isNums
  rw [decide_eq_true h, Bool.true_and]
  congr 1
  funext x
  congr 1
  apply propext
  omega

def resIsNumbers (q : List Int) : Bool := isNums q
/-! ## Sums -/
/-! ## Sorted so that they are falling: the model's -/
end Go.Proofs.Ythpapkfpcijpoaa
/-
  PAINTINGS, PURE: when there is one, the place of a pair among all, the colour of a pair.
-/
namespace Go.Proofs.Ythpapkfpcijpoaa

/-- there is a painting -/
def isX (p k : Int) (l : List Int) : Bool := (decide (0 ≤ p ∧ p ≤ 8) && decide (1 ≤ k ∧ k ≤ 3)) && (decide ((l.length : Int) = (p * (p - 1)).tdiv 2) && l1AllB l 0 (k - 1))
theorem isX_parts {p k : Int} {l : List Int} (h : isX p k l = true) : (0 ≤ p ∧ p ≤ 8) ∧ (1 ≤ k ∧ k ≤ 3) ∧ (l.length : Int) = (p * (p - 1)).tdiv 2 ∧ l1AllB l 0 (k - 1) = true := by
  simp only [isX, Bool.and_eq_true, decide_eq_true_eq] at h
  exact ⟨h.1.1, h.1.2, h.2.1, h.2.2⟩
theorem allP_count : ∀ n : Fin 9, ((allP n.val).length : Int) = ((n.val : Int) * ((n.val : Int) - 1)).tdiv 2 ∧ (allP n.val).length ≤ 28 ∧ waysI (n.val : Int) 2 = ((n.val : Int) * ((n.val : Int) - 1)).tdiv 2 := by decide +kernel
theorem count_of {p : Int} (h : 0 ≤ p ∧ p ≤ 8) : ((allP p.toNat).length : Int) = (p * (p - 1)).tdiv 2 ∧ (allP p.toNat).length ≤ 28 ∧ waysI p 2 = (p * (p - 1)).tdiv 2 := by
  have := allP_count ⟨p.toNat, by omega⟩
  simp only [show ((p.toNat : Nat) : Int) = p from by omega] at this
  exact this
theorem isX_len {p k : Int} {l : List Int} (h : isX p k l = true) : l.length = (allP p.toNat).length := by
  have h1 := isX_parts h
  have h2 := (count_of h1.1).1
  omega
theorem isX_small {p k : Int} {l : List Int} (h : isX p k l = true) : l.length ≤ 28 := by
  rw [isX_len h]
  exact (count_of (isX_parts h).1).2.1
theorem isX_at {p k : Int} {l : List Int} (h : isX p k l = true) {i : Nat} {x : Int} (hx : l[i]? = some x) : 0 ≤ x ∧ x < k := by
  have h1 := (isX_parts h).2.2.2
  simp only [l1AllB, List.all_eq_true, decide_eq_true_eq] at h1
  have := h1 x (List.mem_of_getElem? hx)
  omega
/-- the place of the pair of a and b, a < b, among those of n people -/
def atP (n a b : Nat) : Nat := a * (2 * n - a - 1) / 2 + b - a - 1
theorem atP_all : ∀ n : Fin 9, ∀ a : Fin 8, ∀ b : Fin 8, a.val < b.val → b.val < n.val → (allP n.val)[atP n.val a.val b.val]? = some ((a.val : Int), (b.val : Int)) := by decide +kernel
theorem atP_get {n a b : Nat} (hn : n ≤ 8) (hab : a < b) (hb : b < n) : (allP n)[atP n a b]? = some ((a : Int), (b : Int)) := atP_all ⟨n, by omega⟩ ⟨a, by omega⟩ ⟨b, by omega⟩ hab hb
theorem atP_lt {n a b : Nat} (hn : n ≤ 8) (hab : a < b) (hb : b < n) : atP n a b < (allP n).length := (List.getElem?_eq_some_iff.1 (atP_get hn hab hb)).1
theorem atP_of_all : ∀ n : Fin 9, ∀ i : Fin 28, i.val < (allP n.val).length → ∃ a : Fin 8, ∃ b : Fin 8, a.val < b.val ∧ b.val < n.val ∧ i.val = atP n.val a.val b.val := by decide +kernel
/-- each pair of all is at its place -/
theorem atP_of {n i : Nat} (hn : n ≤ 8) (hi : i < (allP n).length) : ∃ a b : Nat, a < b ∧ b < n ∧ i = atP n a b := by
  have h1 := (count_of (p := (n : Int)) (by omega)).2.1
  rw [Int.toNat_natCast] at h1
  obtain ⟨a, b, h⟩ := atP_of_all ⟨n, by omega⟩ ⟨i, by omega⟩ hi
  exact ⟨a.val, b.val, h⟩
/-- the colour of a pair, in whichever order -/
def colX (n : Nat) (l : List Int) (a b : Nat) : Int := l.getD (atP n (min a b) (max a b)) 0
theorem colX_comm (n : Nat) (l : List Int) (a b : Nat) : colX n l a b = colX n l b a := by unfold colX; rw [Nat.min_comm, Nat.max_comm]
end Go.Proofs.Ythpapkfpcijpoaa
/-
  THE LAWS' COPY OF A LIST OF NUMBERS, by its contract.
-/
namespace Go.Proofs.Ythpapkfpcijpoaa
open Go.RowKit

set_option maxHeartbeats 1000000 in
set_option maxRecDepth 100000 in
theorem toIntS_any (l : List Int) (A : Option Addr) (c : Nat) (w : World) (hl : l.length ≤ 1048576) (hA : CRead w w.heap.size A (icells l)) :
    Calls Try.prog 40 #[.slice A l.length c] w fun e w' =>
      e = .returned (.slice (some ⟨w.heap.size, 0, none⟩) l.length l.length) ∧ w'.ownsRow w.heap.size 3 1 (.slice (some ⟨w.heap.size, 0, none⟩) l.length l.length) l.length (icells l) ∧ Below w.heap.size w w' := by
  obtain ⟨i0, hi, hz0, hz1, hz2⟩ := info_parts Try.infoInt
  generalize hn : l.length = n at *
  have Hn := Lib.hid hn
  clear hn
  generalize hg : w.heap.size = g at *
  have Hg := Lib.hid hg
  clear hg
  go_enter Try.func40, Try.ntmps40
  go_wp2_with (at_make; refine wpList_make_full _ rfl _ _ 45 rfl g 3 i0 _ 1 Try.underlying45 hi hz0 hz1 _ _ _ _ n rfl rfl (by omega) (by omega) (by rw [hz2]; omega) (by unfold maxLen; omega) (by rw [Hg.out]; exact Nat.le_refl _) ?_; rw [Hg.out]; intro w1 hown1 hgr1)
  have hs1 : g < w1.heap.size := (own_lt hown1).2
  have hb1 : Below g w w1 := (Below.refl _ _).grown hgr1 (by rw [Hg.out]; exact Nat.le_refl _) (by simp)
  rw [show Value.cells (.int .i64 0) = #[.int .i64 0] from rfl, made_ints] at hown1
  go_loopw [4] (fun i wr => ∃ k : Nat, k ≤ n ∧ i = .int .i64 k ∧ wr.ownsRow g 3 1 (.slice (some ⟨g, 0, none⟩) n n) n (icells (l.take k ++ List.replicate (n - k) 0)) ∧ Below g w wr) (fun i _ => n - (intOf i).toNat)
  case atStart => exact ⟨0, Nat.zero_le _, rfl, by simpa using hown1, hb1⟩
  case round =>
    obtain ⟨k, hk, rfl, hown, hb⟩ := hrel
    have hs := own_lt hown
    by_cases hlt : k < n
    · obtain ⟨x, hx⟩ := getSome l k (by rw [Hn.out]; exact hlt)
      obtain ⟨b, off, rfl, hbb, c0⟩ := (hA.below hb (Nat.le_refl _)).int hx
      have hlt' : (k : Int) < n := by omega
      have f0 := hown.frozenAt k
      have hz : (l.take k ++ List.replicate (n - k) 0)[k]? = some 0 := by
        rw [List.getElem?_append_right (by simp; omega)]
        have h1 : min k l.length = k := Nat.min_eq_left (by rw [Hn.out]; exact hk)
        simp only [List.length_take, h1, Nat.sub_self]
        rw [List.getElem?_replicate, if_pos (by omega)]
      have d0 := own_intAt hown hz
      clear hz
      have Hx := Lib.hid hx
      clear hx
      go_wp2
      go_roundw
      case rel =>
        refine ⟨k + 1, by omega, by go_num, ?_, hb.setCell (p := ⟨g, k, none⟩) (Nat.le_refl _) _⟩
        have h2 := own_setInt hown k x
        rwa [take_set_replicate l 0 n k x Hn.out Hx.out] at h2
      case measure => simp [intOf]; omega
    · have hkl : k = n := by omega
      subst hkl
      have hge : ¬ ((k : Int) < k) := by omega
      go_wp2
      go_ret
      refine ⟨rfl, ?_, hb⟩
      rwa [Nat.sub_self, List.replicate_zero, List.append_nil, List.take_of_length_le (by rw [Hn.out]; exact Nat.le_refl _)] at hown
theorem toIntS_got (l : List Int) (A : Option Addr) (c : Nat) (w : World) (hl : l.length ≤ 1048576) (hA : CRead w w.heap.size A (icells l)) :
    Calls Try.prog 40 #[.slice A l.length c] w fun e w' => ∃ A' c', e = .returned (.slice A' l.length c') ∧ w'.ownsRow w.heap.size 3 1 (.slice A' l.length c') l.length (icells l) ∧ Below w.heap.size w w' :=
  (toIntS_any l A c w hl hA).mono fun _ _ h => ⟨_, _, h⟩
end Go.Proofs.Ythpapkfpcijpoaa
/-
  THE SIZE OF A LIST OF NUMBERS, by the contract of the laws' helper.
-/
namespace Go.Proofs.Ythpapkfpcijpoaa
open Go.RowKit

end Go.Proofs.Ythpapkfpcijpoaa
/-
  PAINTINGS: the laws' own small functions at them (size, copy, comparison, marks), by their contracts.
-/
namespace Go.Proofs.Ythpapkfpcijpoaa
open Go.RowKit

/-- A call came back with a painting and a bool; its colours lie in memory of its own. -/
def GotPaintOk (w : World) (p k : Int) (l : List Int) (ok : Bool) (e : Ending) (w' : World) : Prop :=
  ∃ A c, e = .returned (.tuple #[.agg #[.int .i64 p, .int .i64 k, .slice A l.length c], .bool ok]) ∧ w'.ownsRow w.heap.size 3 1 (.slice A l.length c) l.length (icells l) ∧ Below w.heap.size w w'
/-- A call came back with a painting whose colours lie in memory of its own. -/
def GotPaint (w : World) (p k : Int) (l : List Int) (e : Ending) (w' : World) : Prop :=
  ∃ A c, e = .returned (.agg #[.int .i64 p, .int .i64 k, .slice A l.length c]) ∧ w'.ownsRow w.heap.size 3 1 (.slice A l.length c) l.length (icells l) ∧ Below w.heap.size w w'

end Go.Proofs.Ythpapkfpcijpoaa
/-
  'IsPainting': the model's and the program's, by their contracts.
-/
namespace Go.Proofs.Ythpapkfpcijpoaa
open Go.RowKit

theorem isX_p {p k : Int} {l : List Int} (h : ¬ (0 ≤ p ∧ p ≤ 8)) : isX p k l = false := by simp [isX, h]
theorem isX_k {p k : Int} {l : List Int} (h : ¬ (1 ≤ k ∧ k ≤ 3)) : isX p k l = false := by simp [isX, h]
theorem isX_l {p k : Int} {l : List Int} (h : ¬ ((l.length : Int) = (p * (p - 1)).tdiv 2)) : isX p k l = false := by simp [isX, h]
theorem isX_else {p k : Int} {l : List Int} (h : 0 ≤ p ∧ p ≤ 8) (h1 : 1 ≤ k ∧ k ≤ 3) (h2 : (l.length : Int) = (p * (p - 1)).tdiv 2) : isX p k l = l1AllB l 0 (k - 1) := by simp [isX, h, h1, h2]
theorem sq_in {p : Int} (h : 0 ≤ p ∧ p ≤ 8) : 0 ≤ p * (p - 1) ∧ p * (p - 1) ≤ 1000 ∧ 0 ≤ (p * (p - 1)).tdiv 2 ∧ (p * (p - 1)).tdiv 2 ≤ 1000 := by
  have all : ∀ n : Fin 9, 0 ≤ (n.val : Int) * ((n.val : Int) - 1) ∧ (n.val : Int) * ((n.val : Int) - 1) ≤ 1000 ∧ 0 ≤ ((n.val : Int) * ((n.val : Int) - 1)).tdiv 2 ∧ ((n.val : Int) * ((n.val : Int) - 1)).tdiv 2 ≤ 1000 := by decide +kernel
  have := all ⟨p.toNat, by omega⟩
  simpa only [show ((p.toNat : Nat) : Int) = p from by omega] using this

def resIsPainting (p k : Int) (l : List Int) : Bool := isX p k l

/-- what the program asks of a colour -/
def isColB (k x : Int) : Bool := decide (0 ≤ x) && decide (x < k)
theorem any_noI {l : List Int} {f : Int → Bool} (h : ∀ (j : Nat) (x : Int), j < l.length → l[j]? = some x → f x = false) : l.any f = false := by
  rw [List.any_eq_false]
  intro x hx
  obtain ⟨j, hj, e⟩ := List.getElem_of_mem hx
  rw [h j x hj (by rw [List.getElem?_eq_getElem hj, e])]
  simp
theorem none_all {k : Int} {l : List Int} : (!l.any fun x => !isColB k x) = l1AllB l 0 (k - 1) := by
  unfold l1AllB
  induction l with
  | nil => rfl
  | cons x l ih =>
    rw [List.any_cons, List.all_cons, ← ih]
    have : decide (0 ≤ x ∧ x ≤ k - 1) = isColB k x := by
      unfold isColB
      by_cases h0 : 0 ≤ x <;> by_cases h1 : x < k <;> simp [h0, h1] <;> omega
    rw [this]
    cases isColB k x <;> simp
end Go.Proofs.Ythpapkfpcijpoaa
/-
  ALL PAIRS: 'everyPair', by its contract.
-/
namespace Go.Proofs.Ythpapkfpcijpoaa
open Go.RowKit

theorem otherP_nil (n : Nat) : otherP n [] = allP n := by
  unfold otherP
  rw [List.filter_eq_self]
  intro q _
  rfl
theorem Try.run_pairsE (a b : Value) (X : World) : (Instr.field 31 (.agg #[a, b]) 1).run Try.prog X = .ok b X := by
  simp [Instr.field, go_sem]
  rfl
set_option maxHeartbeats 1000000 in
set_option maxRecDepth 100000 in
theorem everyPair_any (n : Nat) (hn : n ≤ 12) (w : World) :
    Calls Try.prog 62 #[.int .i64 n] w fun e w' => ∃ A c, e = .returned (.slice A (allP n).length c) ∧ w'.ownsRow w.heap.size 71 2 (.slice A (allP n).length c) (allP n).length (pcells (allP n)) ∧ Below w.heap.size w w' := by
  have hp : isP (n : Int) [] = true := by unfold isP; simp; omega
  have call := fun X : World => other_any (n : Int) [] none 0 X hp CRead.nil
  rw [Int.toNat_natCast, otherP_nil] at call
  have Call := Lib.hid call
  have hf := Try.run_pairsE
  clear call hp
  go_enter Try.func62, Try.ntmps62
  go_wp2_with fail
  refine (Call.out _).mono ?_
  rintro e w2 ⟨A2, c2, rfl, own2, hb2⟩
  go_wp2
  go_ret
  exact ⟨A2, c2, rfl, own2, hb2⟩
end Go.Proofs.Ythpapkfpcijpoaa
/-
  'StrongNumbers': the program's, by its contracts.
-/
namespace Go.Proofs.Ythpapkfpcijpoaa
open Go.RowKit

theorem isP_bounds {n : Nat} {l : PL} (h : isP n l = true) : ∀ x ∈ l, 0 ≤ x.1 ∧ x.1 < n ∧ 0 ≤ x.2 ∧ x.2 < n := fun x hx => by
  have := (isP_list h).2.2.1 x hx
  omega
theorem isP_few {n : Nat} {l : PL} (h : isP n l = true) : l.length ≤ 66 := by
  have h0 := isP_range h
  have h1 := isP_length h
  have h2 := people_sq h0.1 h0.2
  omega
set_option maxHeartbeats 4000000 in
set_option maxRecDepth 100000 in
theorem implStrongNumbers_any (p : Int) (l : PL) (A : Option Addr) (c : Nat) (w : World) (hl : l.length ≤ 1048576) (hA : CRead w w.heap.size A (pcells l)) :
    Calls Try.prog 35 #[.agg #[.int .i64 p, .slice A l.length c]] w (GotIntsOk w (resStrongNumbers p l).1 (resStrongNumbers p l).2) := by
  have hr : CRead (w.alloc (Obj.cells #[.int .i64 p, .slice A l.length c] 31)) (w.alloc (Obj.cells #[.int .i64 p, .slice A l.length c] 31)).heap.size A (pcells l) := (hA.below (B' := w.heap.size) (by go_grown) (Nat.le_refl _)).more (by go_size)
  cases hp : isP p l with
  | false =>
    have e : resStrongNumbers p l = ([], false) := by unfold resStrongNumbers; rw [hp]; rfl
    rw [e]
    have Hp := Lib.hid hp
    clear hp e
    go_enter Try.func35, Try.ntmps35
    go_wp2_with fail
    refine (isParty_any _ _ _ _ _ hl hr).mono ?_
    rw [Hp.out]
    rintro e w2 ⟨rfl, hb2⟩
    simp only [World.size_alloc] at hb2
    go_wp2
    go_ret2
    exact ⟨none, 0, rfl, World.ownsRow_nil _ _ _ _, Below.trans (b := _) (by go_grown) (hb2.mono (by omega))⟩
  | true =>
    have hn := isP_range hp
    obtain ⟨n, rfl⟩ : ∃ n : Nat, p = n := ⟨p.toNat, by omega⟩
    have hres : resStrongNumbers n l = if (onlyI (numsOf n l)).2 && (onlyI (comQ n l l)).2 && (onlyI (comQ n l (otherP n l))).2 then
        ([(n : Int), (onlyI (numsOf n l)).1, (onlyI (comQ n l l)).1, (onlyI (comQ n l (otherP n l))).1], true) else ([], false) := by
      unfold resStrongNumbers; rw [hp, Int.toNat_natCast]; rfl
    have heq := fun (X : World) (hX : CRead X X.heap.size A (pcells l)) => implEqualNumber_any n l A c X hl hX
    rw [show resEqualNumber n l = onlyI (numsOf n l) by simp [resEqualNumber, hp]] at heq
    have hon1 := fun (X : World) (hX : CRead X X.heap.size A (pcells l)) => onlyCommon_any l A A c c X hp (isP_bounds hp) (isP_few hp) hX hX
    have hot := fun (X : World) (hX : CRead X X.heap.size A (pcells l)) => other_any n l A c X hp hX
    rw [Int.toNat_natCast] at hot
    have hpo := other_isP hp
    have hon2 := fun (A2 : Option Addr) (c2 : Nat) (X : World) (hX : CRead X X.heap.size A (pcells l)) (hY : CRead X X.heap.size A2 (pcells (otherP n l))) => onlyCommon_any (otherP n l) A A2 c c2 X hp (isP_bounds hpo) (isP_few hpo) hX hY
    obtain ⟨O, hO⟩ : ∃ O, otherP n l = O := ⟨_, rfl⟩
    rw [hO] at hres hot hon2
    obtain ⟨⟨e1, e2⟩, he⟩ : ∃ x, onlyI (numsOf n l) = x := ⟨_, rfl⟩
    obtain ⟨⟨f1, f2⟩, hf⟩ : ∃ x, onlyI (comQ n l l) = x := ⟨_, rfl⟩
    obtain ⟨⟨s1, s2⟩, hs⟩ : ∃ x, onlyI (comQ n l O) = x := ⟨_, rfl⟩
    rw [he, hf, hs] at hres
    rw [he] at heq
    rw [hf] at hon1
    rw [hs] at hon2
    simp only at hres heq hon1 hon2
    obtain ⟨⟨RL, RB⟩, hR⟩ : ∃ r, resStrongNumbers n l = r := ⟨_, rfl⟩
    rw [hR]
    rw [hR] at hres
    have hfld := Try.run_pairsE
    have Hp := Lib.hid hp
    have Heq := Lib.hid heq
    have Hon1 := Lib.hid hon1
    have Hon2 := Lib.hid hon2
    have Hot := Lib.hid hot
    have Hres := Lib.hid hres
    clear hp heq hon1 hon2 hot hres hpo hO he hf hs hR
    go_enter Try.func35, Try.ntmps35
    go_wp2_with fail
    refine (isParty_any _ _ _ _ _ hl hr).mono ?_
    rw [Hp.out]
    rintro e w2 ⟨rfl, hb2⟩
    have z2 := hb2.size
    have k2 : Below w.heap.size w w2 := Below.trans (b := _) (by go_grown) (hb2.mono (by simp))
    have c0 : w2.cell? ⟨w.heap.size, 0, none⟩ = some (.int .i64 n) := carry hb2 (by simp) (by simp)
    have c1 : w2.cell? ⟨w.heap.size, 1, none⟩ = some (.slice A l.length c) := carry hb2 (by simp) (by simp)
    simp only [World.size_alloc] at z2
    go_wp2_with fail
    refine (Heq.out _ ((hA.below k2 (Nat.le_refl _)).more k2.size)).mono ?_
    rintro e w3 ⟨rfl, hb3⟩
    have k3 := k2.trans (hb3.mono k2.size)
    have d0 : w3.cell? ⟨w.heap.size, 0, none⟩ = some (.int .i64 n) := carry hb3 c0 (by omega)
    have d1 : w3.cell? ⟨w.heap.size, 1, none⟩ = some (.slice A l.length c) := carry hb3 c1 (by omega)
    have z3 : w.heap.size < w3.heap.size := by have := hb3.size; omega
    clear c0 c1 z2 hb2 hb3 k2 hr
    go_wp2_with fail
    refine (Hon1.out _ ((hA.below k3 (Nat.le_refl _)).more k3.size)).mono ?_
    rintro e w4 ⟨rfl, hb4⟩
    have k4 := k3.trans (hb4.mono k3.size)
    have g0 : w4.cell? ⟨w.heap.size, 0, none⟩ = some (.int .i64 n) := carry hb4 d0 z3
    have g1 : w4.cell? ⟨w.heap.size, 1, none⟩ = some (.slice A l.length c) := carry hb4 d1 z3
    have z4 : w.heap.size < w4.heap.size := by have := hb4.size; omega
    have rd4 := (hA.below k4.drew (Nat.le_refl _)).more k4.drew.size
    clear d0 d1 hb4 k3
    go_wp2_with fail
    go_region_law (first
      | (go_simp; go_at_call 78; refine (Hot.out w4.drew rd4).mono ?_; rintro e w6 ⟨A6, c6, rfl, own6, hb6⟩; have kY : Below w4.heap.size w4 w6 := (Below.refl _ _).drew.trans hb6; have k6 := k4.trans (kY.mono k4.size); have y0 : w6.cell? ⟨w.heap.size, 0, none⟩ = some (.int .i64 n) := carry kY g0 z4; have y1 : w6.cell? ⟨w.heap.size, 1, none⟩ = some (.slice A l.length c) := carry kY g1 z4; have z6 : w.heap.size < w6.heap.size := Nat.lt_of_lt_of_le z4 kY.size)
      | (go_simp; go_at_call 77; refine (Hon2.out A6 c6 w6 ((hA.below k6 (Nat.le_refl _)).more k6.size) (CRead.of_own own6)).mono ?_; rintro e w7 ⟨rfl, hb7⟩; have k7 := k6.trans (hb7.mono k6.size); have x0 : w7.cell? ⟨w.heap.size, 0, none⟩ = some (.int .i64 n) := carry hb7 y0 z6; have x1 : w7.cell? ⟨w.heap.size, 1, none⟩ = some (.slice A l.length c) := carry hb7 y1 z6)
      | fail)
    all_goals
      have K7 := Lib.hid k7
      have hres := Hres.out
      clear Hres k7 hb7 y0 y1 own6 hb6 kY k6 g0 g1 k4 rd4 hA
      cases e2 with
      | false =>
        simp only [Bool.false_and, Bool.false_eq_true, if_false, Prod.mk.injEq] at hres
        obtain ⟨rfl, rfl⟩ := hres
        go_wp2
        go_ret2
        exact ⟨none, 0, rfl, World.ownsRow_nil _ _ _ _, K7.out⟩
      | true =>
        cases f2 with
        | false =>
          simp only [Bool.true_and, Bool.false_and, Bool.false_eq_true, if_false, Prod.mk.injEq] at hres
          obtain ⟨rfl, rfl⟩ := hres
          go_wp2
          go_ret2
          exact ⟨none, 0, rfl, World.ownsRow_nil _ _ _ _, K7.out⟩
        | true =>
          cases s2 with
          | false =>
            simp only [Bool.true_and, Bool.false_eq_true, if_false, Prod.mk.injEq] at hres
            obtain ⟨rfl, rfl⟩ := hres
            go_wp2
            go_ret2
            exact ⟨none, 0, rfl, World.ownsRow_nil _ _ _ _, K7.out⟩
          | true =>
            simp only [Bool.true_and, if_true, Prod.mk.injEq] at hres
            obtain ⟨rfl, rfl⟩ := hres
            go_wp2
            go_ret2
            exact ⟨some ⟨w7.heap.size, 0, none⟩, 4, rfl, own_lower (own_built4 w7 _ _ _ _ _) K7.out.size, K7.out.alloc K7.out.size _⟩
end Go.Proofs.Ythpapkfpcijpoaa
/-
  'laws.FnExactStrongNumbers' returns true, whatever its arguments: out of the contracts of the model's function and of the program's.
-/
namespace Go.Proofs.Ythpapkfpcijpoaa
open Go.RowKit

set_option maxHeartbeats 4000000 in
set_option maxRecDepth 100000 in
theorem lawStrongNumbers_any (p0 : Int) (l0 : PL) (A0 : Option Addr) (c0 : Nat) (W : World) (hl0 : l0.length ≤ maxLen) (hA0 : CRead W W.heap.size A0 (pcells l0)) :
    Calls Try.prog 9 #[.agg #[.int .i64 p0, .slice A0 l0.length c0]] W fun e w' => e = .returned (.bool true) ∧ Below W.heap.size W w' := by
  have hone : (0 : Int) ≤ 1 ∧ (1 : Int) ≤ 16777216 := by omega
  by_cases hz0 : szI (1048576) l0.length < 0
  · go_enter Try.func9, Try.ntmps9
    go_wp2_with fail
    refine (szParty_any _ _ _ _ _ hl0 (by omega) (by omega) _).mono ?_
    rintro e w1 ⟨rfl, hb1⟩
    simp only [World.size_alloc] at hb1
    have g1 : Below W.heap.size W w1 := Below.trans (b := _) (by go_grown) (hb1.mono (by omega))
    have s1 := hb1.size
    simp only [World.size_alloc] at s1
    have f1_0 : w1.cell? ⟨W.heap.size, 0, none⟩ = some (.int .i64 p0) := carry hb1 (by simp) (by omega)
    have f1_1 : w1.cell? ⟨W.heap.size, 1, none⟩ = some (.slice A0 l0.length c0) := carry hb1 (by simp) (by omega)
    have k1 : Below W.heap.size W w1 := g1
    go_wp2
    go_ret
    exact ⟨rfl, k1⟩
  have hn0 : l0.length ≤ 1048576 := by have h1 := szI_len _ _ hz0; have h2 := szI_hi (1048576) l0.length (by omega); omega
  have hz0' : 0 ≤ szI (1048576) l0.length := by omega
  have hz0'' : szI (1048576) l0.length ≤ 1048576 := by have h2 := szI_hi (1048576) l0.length (by omega); omega
  obtain ⟨⟨rm, rok⟩, hres⟩ : ∃ r, resStrongNumbers p0 l0 = r := ⟨_, rfl⟩
  have hrn : rm.length ≤ 1048576 := by have h := resStrongNumbers_len p0 l0; rw [hres] at h; exact h
  have hrl : rm.length ≤ maxLen := by unfold maxLen; omega
  have Hres := Lib.hid hres
  clear hres
  go_enter Try.func9, Try.ntmps9
  go_wp2_with fail
  refine (szParty_any _ _ _ _ _ hl0 (by omega) (by omega) _).mono ?_
  rintro e w1 ⟨rfl, hb1⟩
  simp only [World.size_alloc] at hb1
  have g1 : Below W.heap.size W w1 := Below.trans (b := _) (by go_grown) (hb1.mono (by omega))
  have s1 := hb1.size
  simp only [World.size_alloc] at s1
  have f1_0 : w1.cell? ⟨W.heap.size, 0, none⟩ = some (.int .i64 p0) := carry hb1 (by simp) (by omega)
  have f1_1 : w1.cell? ⟨W.heap.size, 1, none⟩ = some (.slice A0 l0.length c0) := carry hb1 (by simp) (by omega)
  have k1 : Below W.heap.size W w1 := g1
  go_wp2_with fail
  refine (toParty_any p0 l0 A0 c0 _ hn0 ((hA0.below k1 (Nat.le_refl _)).more k1.size)).mono ?_
  rintro e w2 ⟨T2, d2, rfl, n2, hb2⟩
  have g2 : Below w1.heap.size w1 w2 := hb2
  have s2 := hb2.size
  have f2_0 := carry g2 f1_0 (by omega)
  have f2_1 := carry g2 f1_1 (by omega)
  have k2 := k1.trans (g2.mono k1.size)
  clear f1_0 f1_1
  have r2 : Lies (.slice T2 l0.length d2) (w1.heap.size) w2.heap.size := own_lies n2
  go_wp2_with fail
  refine (specStrongNumbers_any p0 l0 _ _ _ hn0 (CRead.of_own n2)).mono ?_
  rw [Hres.out]
  rintro e w3 ⟨T3, d3, rfl, n3, hb3⟩
  have g3 : Below w2.heap.size w2 w3 := hb3
  have s3 := hb3.size
  have f3_0 := carry g3 f2_0 (by omega)
  have f3_1 := carry g3 f2_1 (by omega)
  have o3_0 := own_below n2 g3 (Nat.le_refl _)
  have k3 := k2.trans (g3.mono k2.size)
  clear f2_0 f2_1 n2
  have r3 : Lies (.slice T3 rm.length d3) (w2.heap.size) w3.heap.size := own_lies n3
  clear o3_0 r2
  go_wp2_with fail
  refine (toParty_any p0 l0 A0 c0 _ hn0 ((hA0.below k3 (Nat.le_refl _)).more k3.size)).mono ?_
  rintro e w4 ⟨T4, d4, rfl, n4, hb4⟩
  have g4 : Below w3.heap.size w3 w4 := hb4
  have s4 := hb4.size
  have f4_0 := carry g4 f3_0 (by omega)
  have f4_1 := carry g4 f3_1 (by omega)
  have o4_0 := own_below n3 g4 (Nat.le_refl _)
  have k4 := k3.trans (g4.mono k3.size)
  clear f3_0 f3_1 n3
  have r4 : Lies (.slice T4 l0.length d4) (w3.heap.size) w4.heap.size := own_lies n4
  have q5_0 : (w4.alloc (Obj.cells #[.int .i64 p0, .slice T4 l0.length d4] 31)).cell? ⟨W.heap.size, 0, none⟩ = some (.int .i64 p0) := (World.cell?_alloc_lt _ _ _ (show W.heap.size < w4.heap.size by omega)).trans f4_0
  have q5_1 : (w4.alloc (Obj.cells #[.int .i64 p0, .slice T4 l0.length d4] 31)).cell? ⟨W.heap.size, 1, none⟩ = some (.slice A0 l0.length c0) := (World.cell?_alloc_lt _ _ _ (show W.heap.size < w4.heap.size by omega)).trans f4_1
  go_wp2_with fail
  refine (implStrongNumbers_any p0 l0 _ _ _ hn0 (((CRead.of_own n4).below (B' := w4.heap.size) (by go_grown) (Nat.le_refl _)).more (by go_size))).mono ?_
  rw [Hres.out]
  rintro e w6 ⟨T6, d6, rfl, n6, hb6⟩
  simp only [World.size_alloc] at n6
  simp only [World.size_alloc] at hb6
  have g6 : Below w4.heap.size w4 w6 := Below.trans (b := _) (by go_grown) (hb6.mono (by omega))
  have s6 := hb6.size
  simp only [World.size_alloc] at s6
  have f6_0 := carry g6 f4_0 (by omega)
  have f6_1 := carry g6 f4_1 (by omega)
  have f6_2 : w6.cell? ⟨w4.heap.size, 0, none⟩ = some (.int .i64 p0) := carry hb6 (by simp) (by omega)
  have f6_3 : w6.cell? ⟨w4.heap.size, 1, none⟩ = some (.slice T4 l0.length d4) := carry hb6 (by simp) (by omega)
  have o6_0 := own_below o4_0 g6 (Nat.le_refl _)
  have o6_1 := own_below n4 g6 (Nat.le_refl _)
  have k6 := k4.trans (g6.mono k4.size)
  clear f4_0 f4_1 o4_0 n4 q5_0 q5_1
  have r6 : Lies (.slice T6 rm.length d6) (w4.heap.size + 1) w6.heap.size := own_lies n6
  go_wp2_with fail
  refine (eqIntS_any rm rm _ _ _ _ _ hrl hrl (CRead.of_own n6) (CRead.of_own o6_0)).mono ?_
  rw [decide_eq_true rfl]
  rintro e w7 ⟨rfl, hb7⟩
  have g7 : Below w6.heap.size w6 w7 := hb7
  have s7 := hb7.size
  have f7_0 := carry g7 f6_0 (by omega)
  have f7_1 := carry g7 f6_1 (by omega)
  have f7_2 := carry g7 f6_2 (by omega)
  have f7_3 := carry g7 f6_3 (by omega)
  have o7_0 := own_below o6_0 g7 (Nat.le_refl _)
  have o7_1 := own_below o6_1 g7 (Nat.le_refl _)
  have o7_2 := own_below n6 g7 (Nat.le_refl _)
  have k7 := k6.trans (g7.mono k6.size)
  clear f6_0 f6_1 f6_2 f6_3 o6_0 o6_1 n6
  go_wp2
  go_region_held3 (fun w' => w'.cell? ⟨W.heap.size, 0, none⟩ = some (.int .i64 p0) ∧ w'.cell? ⟨W.heap.size, 1, none⟩ = some (.slice A0 l0.length c0) ∧ w'.cell? ⟨w4.heap.size, 0, none⟩ = some (.int .i64 p0) ∧ w'.cell? ⟨w4.heap.size, 1, none⟩ = some (.slice T4 l0.length d4)) (first | exact ⟨f7_0, f7_1, f7_2, f7_3⟩ | exact ⟨f8_0, f8_1, f8_2, f8_3⟩ | exact ⟨f9_0, f9_1, f9_2, f9_3⟩) ((first | (go_at_call 16; refine (toParty_any p0 l0 A0 c0 _ hn0 ((hA0.below k7.drew (Nat.le_refl _)).more k7.size)).mono ?_; rintro e w8 ⟨T8, d8, rfl, n8, hb8⟩; have g8 : Below w7.heap.size w7 w8 := (Below.refl _ _).drew.trans hb8; have s8 := g8.size; have f8_0 := carry g8 f7_0 (by omega); have f8_1 := carry g8 f7_1 (by omega); have f8_2 := carry g8 f7_2 (by omega); have f8_3 := carry g8 f7_3 (by omega); have o8_0 := own_below o7_0 g8 (Nat.le_refl _); have o8_1 := own_below o7_1 g8 (Nat.le_refl _); have o8_2 := own_below o7_2 g8 (Nat.le_refl _); have k8 := k7.trans (g8.mono k7.size)) | (go_at_call 19; refine (eqParty_any p0 p0 l0 l0 _ _ _ _ _ hl0 hl0 (CRead.of_own o8_1) (CRead.of_own n8)).mono ?_; rw [decide_eq_true ⟨rfl, rfl⟩]; rintro e w9 ⟨rfl, hb9⟩; have g9 : Below w8.heap.size w8 w9 := hb9; have s9 := g9.size; have f9_0 := carry g9 f8_0 (by omega); have f9_1 := carry g9 f8_1 (by omega); have f9_2 := carry g9 f8_2 (by omega); have f9_3 := carry g9 f8_3 (by omega); have o9_0 := own_below o8_0 g9 (Nat.le_refl _); have o9_1 := own_below o8_1 g9 (Nat.le_refl _); have o9_2 := own_below o8_2 g9 (Nat.le_refl _); have k9 := k8.trans (g9.mono k8.size))))
  clear f7_0 f7_1 f7_2 f7_3 o7_0 o7_1 o7_2 f8_0 f8_1 f8_2 f8_3 o8_0 o8_1 o8_2 n8
  go_wp2_with fail
  refine (markParty_any p0 l0 _ _ _ (1) _ _ rfl hn0 (by omega) o9_1).mono ?_
  rintro e w10 ⟨rfl, n10, hg10⟩
  have s10 := hg10.size
  have f10_0 := carryG hg10 r4 f9_0 (by omega)
  have f10_1 := carryG hg10 r4 f9_1 (by omega)
  have f10_2 := carryG hg10 r4 f9_2 (by omega)
  have f10_3 := carryG hg10 r4 f9_3 (by omega)
  have o10_0 := keptG hg10 r4 o9_0 r3 (by omega)
  have o10_2 := keptG hg10 r4 o9_2 r6 (by omega)
  have k10 := belowG k9 hg10 r4 k9.size (by omega)
  clear f9_0 f9_1 f9_2 f9_3 o9_0 o9_1 o9_2
  have hmk : ¬ (1 + 2 * (l0.length : Int) < 0) := by omega
  go_wp2_with fail
  refine (eqIntS_any rm rm _ _ _ _ _ hrl hrl (CRead.of_own o10_2) (CRead.of_own o10_0)).mono ?_
  rw [decide_eq_true rfl]
  rintro e w11 ⟨rfl, hb11⟩
  have g11 : Below w10.heap.size w10 w11 := hb11
  have s11 := hb11.size
  have f11_0 := carry g11 f10_0 (by omega)
  have f11_1 := carry g11 f10_1 (by omega)
  have f11_2 := carry g11 f10_2 (by omega)
  have f11_3 := carry g11 f10_3 (by omega)
  have o11_0 := own_below o10_0 g11 (Nat.le_refl _)
  have o11_1 := own_below n10 g11 (Nat.le_refl _)
  have o11_2 := own_below o10_2 g11 (Nat.le_refl _)
  have k11 := k10.trans (g11.mono k10.size)
  clear f10_0 f10_1 f10_2 f10_3 o10_0 n10 o10_2
  clear o11_1 r4
  go_wp2_with fail
  refine (markIntS_any rm _ _ _ 1 _ _ rfl hrn hone o11_2).mono ?_
  rintro e w12 ⟨rfl, n12, hg12⟩
  have s12 := hg12.size
  have f12_0 := carryG hg12 r6 f11_0 (by omega)
  have f12_1 := carryG hg12 r6 f11_1 (by omega)
  have f12_2 := carryG hg12 r6 f11_2 (by omega)
  have f12_3 := carryG hg12 r6 f11_3 (by omega)
  have o12_0 := keptG hg12 r6 o11_0 r3 (by omega)
  have k12 := belowG k11 hg12 r6 k11.size (by omega)
  clear f11_0 f11_1 f11_2 f11_3 o11_0 o11_2
  have hmr : ¬ (1 + (rm.length : Int) < 0) := by omega
  go_wp2_with fail
  refine (heldIntS_any _ _ _ 1 _ hrn hone (CRead.of_own n12)).mono ?_
  rintro e w13 ⟨rfl, h13⟩
  subst h13
  go_wp2_with fail
  refine (toParty_any p0 l0 A0 c0 _ hn0 ((hA0.below k12 (Nat.le_refl _)).more k12.size)).mono ?_
  rintro e w14 ⟨T14, d14, rfl, n14, hb14⟩
  have g14 : Below w12.heap.size w12 w14 := hb14
  have s14 := hb14.size
  have f14_0 := carry g14 f12_0 (by omega)
  have f14_1 := carry g14 f12_1 (by omega)
  have f14_2 := carry g14 f12_2 (by omega)
  have f14_3 := carry g14 f12_3 (by omega)
  have o14_0 := own_below o12_0 g14 (Nat.le_refl _)
  have o14_1 := own_below n12 g14 (Nat.le_refl _)
  have k14 := k12.trans (g14.mono k12.size)
  clear f12_0 f12_1 f12_2 f12_3 o12_0 n12
  have r14 : Lies (.slice T14 l0.length d14) (w12.heap.size) w14.heap.size := own_lies n14
  go_wp2_with fail
  refine (implStrongNumbers_any p0 l0 _ _ _ hn0 (CRead.of_own n14)).mono ?_
  rw [Hres.out]
  rintro e w15 ⟨T15, d15, rfl, n15, hb15⟩
  have g15 : Below w14.heap.size w14 w15 := hb15
  have s15 := hb15.size
  have f15_0 := carry g15 f14_0 (by omega)
  have f15_1 := carry g15 f14_1 (by omega)
  have f15_2 := carry g15 f14_2 (by omega)
  have f15_3 := carry g15 f14_3 (by omega)
  have o15_0 := own_below o14_0 g15 (Nat.le_refl _)
  have o15_1 := own_below o14_1 g15 (Nat.le_refl _)
  have o15_2 := own_below n14 g15 (Nat.le_refl _)
  have k15 := k14.trans (g15.mono k14.size)
  clear f14_0 f14_1 f14_2 f14_3 o14_0 o14_1 n14
  have r15 : Lies (.slice T15 rm.length d15) (w14.heap.size) w15.heap.size := own_lies n15
  clear o15_2 r14
  go_wp2_with fail
  refine (eqIntS_any rm rm _ _ _ _ _ hrl hrl (CRead.of_own n15) (CRead.of_own o15_0)).mono ?_
  rw [decide_eq_true rfl]
  rintro e w16 ⟨rfl, hb16⟩
  have g16 : Below w15.heap.size w15 w16 := hb16
  have s16 := hb16.size
  have f16_0 := carry g16 f15_0 (by omega)
  have f16_1 := carry g16 f15_1 (by omega)
  have f16_2 := carry g16 f15_2 (by omega)
  have f16_3 := carry g16 f15_3 (by omega)
  have o16_0 := own_below o15_0 g16 (Nat.le_refl _)
  have o16_1 := own_below o15_1 g16 (Nat.le_refl _)
  have o16_2 := own_below n15 g16 (Nat.le_refl _)
  have k16 := k15.trans (g16.mono k15.size)
  clear f15_0 f15_1 f15_2 f15_3 o15_0 o15_1 n15
  go_wp2_with fail
  refine (heldIntS_any _ _ _ 1 _ hrn hone (CRead.of_own o16_1)).mono ?_
  rintro e w17 ⟨rfl, h17⟩
  subst h17
  go_wp2
  go_ret
  exact ⟨rfl, k16⟩
end Go.Proofs.Ythpapkfpcijpoaa
/-
  THE PROGRAM's HEAD, LOOKED AT ONCE: which make it is, and that a call may enter it. (The head's text is long: the kernel must not read it twice.)
-/
namespace Go.Proofs.Ythpapkfpcijpoaa

theorem make_of {P : Program} {rest : List (List Char)} (h : behindMainWord (wordsSigns P.initOrder.toList) = "cut".toList :: rest) : P.make = some .cut := by
  unfold Program.make
  rw [h]
  rfl
theorem strip_cut (rest : List (List Char)) : stripLifts liftWords ("cut".toList :: rest) = ([], "cut".toList :: rest) := rfl
theorem lifts_of {P : Program} {rest : List (List Char)} (h : behindMainWord (wordsSigns P.initOrder.toList) = "cut".toList :: rest) : P.headLifts = [] := by
  unfold Program.headLifts
  rw [h, strip_cut]
  rfl
theorem final_of {P : Program} {rest : List (List Char)} (h : behindMainWord (wordsSigns P.initOrder.toList) = "cut".toList :: rest) : P.liftsFinal = false := by
  unfold Program.liftsFinal
  rw [lifts_of h, h]
  rfl
theorem enter_of {P : Program} {rest : List (List Char)} (h : behindMainWord (wordsSigns P.initOrder.toList) = "cut".toList :: rest) (h1 : P.laysLater = false) (h2 : P.bearsReflect = false) (h3 : P.doorFits [] = true) : P.mayEnter = true := by
  unfold Program.mayEnter
  rw [h]
  show (_ || _ || _) = true
  rw [strip_cut, h1, h2, h3]
  rfl
end Go.Proofs.Ythpapkfpcijpoaa
/-
  THE PROGRAM's CLOSED FACTS, EACH ONCE; and how a row's facts are put together out of them.
-/
namespace Go.Proofs.Ythpapkfpcijpoaa
open Go.ChangeShapes Go.WideShapes Go.ChangeAt Go.RowKit

def headSigns : List Char := ([104, 97, 114, 110, 101, 115, 115, 32, 52, 101, 57, 49, 97, 50, 49, 55, 98, 99, 56, 49, 48, 49, 57, 55, 99, 98, 54, 48, 98, 51, 50, 53, 53, 55, 99, 100, 51, 57, 53, 50, 48, 54, 98, 49, 54, 102, 57, 51, 99, 101, 50, 56, 56, 101, 49, 97, 50, 100, 101, 49, 101, 98, 56, 97, 100, 53, 49, 54, 102, 56, 99, 101, 32, 99, 117, 116, 32, 97, 116, 32, 108, 111, 111, 112, 46, 101, 120, 97, 109, 112, 108, 101, 47, 103, 48, 49, 50, 53, 55, 47, 108, 97, 119, 115, 46, 70, 110, 69, 120, 97, 99, 116, 67, 111, 109, 109, 111, 110, 84, 97, 98, 108, 101, 32, 108, 111, 111, 112, 46, 101, 120, 97, 109, 112, 108, 101, 47, 103, 48, 49, 50, 53, 55, 47, 108, 97, 119, 115, 46, 70, 110, 69, 120, 97, 99, 116, 73, 115, 70, 114, 105, 101, 110, 100, 108, 121, 32, 108, 111, 111, 112, 46, 101, 120, 97, 109, 112, 108, 101, 47, 103, 48, 49, 50, 53, 55, 47, 108, 97, 119, 115, 46, 70, 110, 69, 120, 97, 99, 116, 87, 105, 110, 100, 109, 105, 108, 108, 80, 97, 114, 116, 121, 32, 108, 111, 111, 112, 46, 101, 120, 97, 109, 112, 108, 101, 47, 103, 48, 49, 50, 53, 55, 47, 108, 97, 119, 115, 46, 70, 110, 69, 120, 97, 99, 116, 73, 115, 87, 105, 110, 100, 109, 105, 108, 108, 32, 108, 111, 111, 112, 46, 101, 120, 97, 109, 112, 108, 101, 47, 103, 48, 49, 50, 53, 55, 47, 108, 97, 119, 115, 46, 70, 110, 69, 120, 97, 99, 116, 80, 111, 108, 105, 116, 105, 99, 105, 97, 110, 79, 102, 32, 108, 111, 111, 112, 46, 101, 120, 97, 109, 112, 108, 101, 47, 103, 48, 49, 50, 53, 55, 47, 108, 97, 119, 115, 46, 70, 110, 69, 120, 97, 99, 116, 69, 113, 117, 97, 108, 78, 117, 109, 98, 101, 114, 32, 108, 111, 111, 112, 46, 101, 120, 97, 109, 112, 108, 101, 47, 103, 48, 49, 50, 53, 55, 47, 108, 97, 119, 115, 46, 70, 110, 69, 120, 97, 99, 116, 83, 116, 114, 111, 110, 103, 78, 117, 109, 98, 101, 114, 115, 32, 108, 111, 111, 112, 46, 101, 120, 97, 109, 112, 108, 101, 47, 103, 48, 49, 50, 53, 55, 47, 108, 97, 119, 115, 46, 70, 110, 69, 120, 97, 99, 116, 67, 105, 114, 99, 108, 101, 80, 97, 114, 116, 121, 32, 108, 111, 111, 112, 46, 101, 120, 97, 109, 112, 108, 101, 47, 103, 48, 49, 50, 53, 55, 47, 108, 97, 119, 115, 46, 70, 110, 69, 120, 97, 99, 116, 80, 97, 105, 114, 80, 97, 114, 116, 121, 32, 108, 111, 111, 112, 46, 101, 120, 97, 109, 112, 108, 101, 47, 103, 48, 49, 50, 53, 55, 47, 108, 97, 119, 115, 46, 70, 110, 69, 120, 97, 99, 116, 76, 105, 110, 101, 115, 79, 102, 32, 108, 111, 111, 112, 46, 101, 120, 97, 109, 112, 108, 101, 47, 103, 48, 49, 50, 53, 55, 47, 108, 97, 119, 115, 46, 70, 110, 69, 120, 97, 99, 116, 77, 111, 115, 116, 80, 101, 111, 112, 108, 101] : List Nat).map Char.ofNat
set_option maxRecDepth 100000 in
theorem Try.initOrder_is : Try.prog.initOrder = String.ofList headSigns := by kernel_rfl
theorem Try.initOrder_signs : Try.prog.initOrder.toList = headSigns := by rw [Try.initOrder_is]; exact String.toList_ofList
set_option maxRecDepth 100000 in
theorem head_words : (behindMainWord (wordsSigns headSigns)).take 1 = ["cut".toList] := by kernel_rfl
theorem Try.words : ∃ rest, behindMainWord (wordsSigns Try.prog.initOrder.toList) = "cut".toList :: rest := by
  rw [Try.initOrder_signs]
  have h := List.take_append_drop 1 (behindMainWord (wordsSigns headSigns))
  rw [head_words] at h
  exact ⟨_, h.symm⟩
theorem Try.make : Try.prog.make = some .cut := by obtain ⟨_, h⟩ := Try.words; exact make_of h
theorem Try.liftsFinal : Try.prog.liftsFinal = false := by obtain ⟨_, h⟩ := Try.words; exact final_of h
theorem Try.laysLater : Try.prog.laysLater = false := by kernel_rfl
theorem Try.bearsReflect : Try.prog.bearsReflect = false := by kernel_rfl
theorem Try.doorFits : Try.prog.doorFits [] = true := by kernel_rfl
theorem Try.mayEnter : Try.prog.mayEnter = true := by obtain ⟨_, h⟩ := Try.words; exact enter_of h Try.laysLater Try.bearsReflect Try.doorFits
theorem Try.mapsRowed : mapsRowed Try.prog = true := by kernel_rfl
theorem Try.stops : (Try.prog.stops == []) = true := by kernel_rfl
theorem Try.stopKnobs : (Try.prog.stopKnobs == []) = true := by kernel_rfl
theorem Try.plainKeys : Try.prog.plainKeys = true := by kernel_rfl
theorem Try.stopsHeard : Try.prog.stopsHeard = true := by kernel_rfl

/-- What the types of one law give: closed facts on its parameters and its result. -/
def typeFacts (P : Program) (fn : Func) (s : ChangeSpec) (c : OpenClaim) : Bool :=
  fn.params.all (P.readableRec ·) && namedTie P c.named s.vars && (c.stops == []) && (c.knobs == []) &&
  (c.maps == (fn.params.toList ++ s.plain.varTypes P).any (P.mapsRec ·)) && (c.ifaces == (fn.params.toList ++ s.plain.varTypes P).any (P.ifacesRec ·)) && (c.mapsOut == P.mapsAmong fn.resultTypes.toList) &&
  (c.loops == (fn.params.toList ++ s.plain.varTypes P).any (P.loopsFrom ·)) && (c.wideKeys == (fn.params.toList ++ s.plain.varTypes P ++ fn.resultTypes.toList).any (P.wideKeysFrom ·)) &&
  s.vars.all (P.varReadable ·) && fn.resultTypes.all (fun t => P.readableRec t && decide (t < P.types.size)) && (c.ifacesOut == fn.resultTypes.toList.any (P.ifacesRec ·)) && (c.loopsOut == fn.resultTypes.toList.any (P.loopsFrom ·)) && c.shortTexts.isNone &&
  (c.kinds == (if c.domain.isEmpty then [] else fn.params.toList.map fun t => match P.underlying t with | some (.int k) => some k | _ => none)) && (c.pinned == c.pinnedBy) &&
  (c.veiled == (fn.params.toList ++ s.plain.varTypes P ++ fn.resultTypes.toList).any (P.veiledRec ·)) && c.veiledFits P fn.params.toList (fn.params.toList ++ s.plain.varTypes P ++ fn.resultTypes.toList)
theorem joined_all {P : Program} {f : FuncId} {fn : Func} {s : ChangeSpec} {c : OpenClaim} (k1 : c.wf (OpenSpec.ofChange s) = true) (kt : typeFacts P fn s c = true)
    (k10 : (c.inPlace == P.inPlace f) = true) (k11 : (c.unfollowed == P.unfollowed f) = true) (k12 : (c.recurses == P.recurses f) = true) (k13 : (c.named == P.varsNamed f) = true)
    (e2 : laidOutB P = true) (e3 : mapsRowed P = true) (e7 : (P.stops == []) = true) (e9 : (P.stopKnobs == []) = true) (e22 : (c.plainKeys == P.plainKeys) = true) (e23 : P.stopsHeard = true) (e24 : P.mayEnter = true)
    (e24b : (c.lifted == P.liftsFinal) = true) (e24c : (P.make == some c.make) = true) : joinedFacts P f fn s c = true := by
  unfold typeFacts at kt
  unfold joinedFacts
  simp only [Bool.and_eq_true] at kt ⊢
  obtain ⟨⟨⟨⟨⟨⟨⟨⟨⟨⟨⟨⟨⟨⟨⟨⟨⟨t1, t2⟩, t3⟩, t4⟩, t5⟩, t6⟩, t7⟩, t8⟩, t9⟩, t10⟩, t11⟩, t12⟩, t13⟩, t14⟩, t15⟩, t16⟩, t17⟩, t18⟩ := kt
  exact ⟨⟨⟨⟨⟨⟨⟨⟨⟨⟨⟨⟨⟨⟨⟨⟨⟨⟨⟨⟨⟨⟨⟨⟨⟨⟨⟨⟨⟨⟨⟨k1, e2⟩, e3⟩, t1⟩, t2⟩, t3⟩, e7⟩, t4⟩, e9⟩, k10⟩, k11⟩, k12⟩, k13⟩, t5⟩, t6⟩, t7⟩, t8⟩, t9⟩, t10⟩, t11⟩, t12⟩, t13⟩, e22⟩, t14⟩, e23⟩, e24⟩, e24b⟩, e24c⟩, t15⟩, t16⟩, t17⟩, t18⟩
theorem joined_of {f : FuncId} {fn : Func} {s : ChangeSpec} {c : OpenClaim} (k1 : c.wf (OpenSpec.ofChange s) = true) (kt : typeFacts Try.prog fn s c = true)
    (k10 : (c.inPlace == Try.prog.inPlace f) = true) (k11 : (c.unfollowed == Try.prog.unfollowed f) = true) (k12 : (c.recurses == Try.prog.recurses f) = true) (k13 : (c.named == Try.prog.varsNamed f) = true)
    (k22 : c.plainKeys = true) (k24b : c.lifted = false) (k24c : c.make = .cut) : joinedFacts Try.prog f fn s c = true :=
  joined_all k1 kt k10 k11 k12 k13 Try.laidOut Try.mapsRowed Try.stops Try.stopKnobs (by rw [k22, Try.plainKeys]; rfl) Try.stopsHeard Try.mayEnter (by rw [k24b, Try.liftsFinal]; rfl) (by rw [k24c, Try.make]; rfl)
end Go.Proofs.Ythpapkfpcijpoaa
