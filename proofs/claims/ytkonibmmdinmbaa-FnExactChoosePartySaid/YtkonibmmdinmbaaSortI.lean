/-
  NUMBERS SORTED BY THE PROGRAM: slices.SortFunc with its comparison, 'sortedFalling', 'SortNumbers', by their contracts.
-/
import Derived.Test.YtkonibmmdinmbaaNumsW
import Derived.Test.YtkonibmmdinmbaaClone
import Derived.Test.YtkonibmmdinmbaaShelf
import Derived.Lib.OwnBridge
import Derived.Lib.SortBridge
namespace Go.Proofs.Ytkonibmmdinmbaa
open Go.RowKit Go.Shelf Go.Lib Go.Sort

theorem below_grow {B : Nat} {a w : World} (h : Below B a w) (hB : B ≤ w.heap.size) (os : Array Obj) : Below B a (grow w os) :=
  ⟨h.os, h.tape, h.output, by simp only [grow, Array.size_append]; have := h.size; omega, fun k hk => by
    rw [← h.block k hk]
    simp only [grow]
    rw [Array.getElem?_append_left (by omega)]⟩
theorem own_grow {w : World} {base : Nat} {e : TypeId} {size n : Nat} {v : Value} {xs : List Value} (h : w.ownsRow base e size v n xs) (os : Array Obj) : (grow w os).ownsRow base e size v n xs :=
  own_below h (below_grow (Below.refl w.heap.size w) (Nat.le_refl _) os) (Nat.le_refl _)

def cmpDown (x y : Int) : Int := cmpI y x
theorem ltDown (x y : Int) : ltOf cmpDown x y = decide (y < x) := by
  unfold ltOf cmpDown cmpI
  by_cases h1 : y < x
  · simp [h1]
  · by_cases h2 : x < y <;> simp [h1, h2]
theorem swoDown : SWO (ltOf cmpDown) where
  irrefl x := by rw [ltDown]; simp
  trans x y z h1 h2 := by rw [ltDown] at *; simp at *; omega
  ntrans x y z h1 h2 := by rw [ltDown] at *; simp at *; omega
theorem totDown (x y : Int) (h1 : ltOf cmpDown x y = false) (h2 : ltOf cmpDown y x = false) : x = y := by rw [ltDown] at *; simp at *; omega
theorem geDown : (fun x y : Int => !ltOf cmpDown y x) = fun x y => decide (y ≤ x) := by
  funext x y
  rw [ltDown]
  by_cases h : y ≤ x
  · have h' : ¬ x < y := by omega
    simp [h, h']
  · have h' : x < y := by omega
    simp [h, h']

set_option maxHeartbeats 400000 in
theorem downClosure_any (x y : Int) (w : World) : Calls Try.prog 180 #[.int .i64 x, .int .i64 y] w fun e w' => e = .returned (.int .i64 (cmpDown x y)) ∧ ∃ q, w' = w.drewN q := by
  unfold cmpDown
  go_enter Try.func180, Try.ntmps180
  go_wp2_with fail
  refine (compare_any y x _).mono ?_
  rintro e w' ⟨rfl, rfl⟩
  go_wp2
  go_ret
  exact ⟨rfl, 0, rfl⟩

set_option maxRecDepth 100000 in
/-- slices.SortFunc over a row of numbers of the call's own: falling. -/
theorem sortI_any (q : List Int) (A : Option Addr) (c : Nat) (base : Nat) (w : World) (hl : q.length ≤ 1048576) (hown : w.ownsRow base 3 1 (.slice A q.length c) q.length (icells q)) :
    Calls Try.prog 179 #[.slice A q.length c, .func (.func 180) #[] #[]] w fun e w' => e = .returned (.tuple #[]) ∧
      w'.ownsRow base 3 1 (.slice A q.length c) q.length (icells (fall q)) ∧ (∀ B, B ≤ base → B ≤ w.heap.size → Below B w w') ∧ w.heap.size ≤ w'.heap.size := by
  by_cases h0 : q.length = 0
  · have hq : q = [] := List.eq_nil_of_length_eq_zero h0
    subst hq
    have h := AnyF.slices_SortFunc_none (P := Try.prog) (ρ := Try.sortI_ren) { Try.sortI with } A c (.func (.func 180) #[] #[]) w
    change Calls Try.prog 179 _ _ _ at h
    refine h.mono ?_
    rintro e w' ⟨rfl, rfl⟩
    exact ⟨rfl, by rw [show fall [] = [] from by simp [fall]]; exact hown, fun B _ _ => Below.refl _ _, Nat.le_refl _⟩
  · obtain ⟨g, rfl⟩ := own_form hown (by omega)
    obtain ⟨g', cap, hv, hbg, hgl, hnc, hcm, _, hH⟩ := holds_of_ownsRow (enc := Value.int .i64) (zs := q) hown (by simp)
    simp only [Value.slice.injEq, Option.some.injEq, Addr.mk.injEq, and_true, true_and] at hv
    obtain ⟨rfl, rfl⟩ := hv
    have eg : ∀ args w, (callFunc 180 args).run Try.prog w = .ok (.enter 180 args) w := enters_of Try.func180 (by kernel_rfl) rfl
    have hr : CmpReads Try.prog 180 #[] (Value.int .i64) cmpDown g 0 q.toArray.size w := fun _ _ _ _ x y => downClosure_any x y _
    have h := Any.slices_SortFunc_total Try.sortI (Value.int .i64) (fun _ => rfl) cmpDown swoDown 180 #[] g 0 c q.toArray w eg hr.lays hH hgl (by simp; omega) totDown
    rw [geDown] at h
    change Calls Try.prog 179 _ _ _ at h
    rw [show q.toArray.size = q.length from by simp] at h
    refine h.mono ?_
    rintro e w' ⟨rfl, n, os, rfl⟩
    have hf : (fall q).length = q.length := fall_length q
    have ho := ownsRow_putRow (enc := Value.int .i64) (q := n) (k := q.length) (ys := fall q) hown hf (Nat.le_refl _)
    rw [List.take_of_length_le (by omega)] at ho
    have hb : ∀ B, B ≤ g → Below B w (putRow (Value.int .i64) (Sort.ahead w n) g 0 (fall q).toArray) := fun B hB => below_putRow (Below.refl B w) hB
    have hs : (putRow (Value.int .i64) (Sort.ahead w n) g 0 (fall q).toArray).heap.size = w.heap.size := by simp [putRow, mapBlock, Sort.ahead]
    refine ⟨rfl, own_grow ho os, fun B hB hB2 => below_grow (hb B (by omega)) (by rw [hs]; exact hB2) os, ?_⟩
    show w.heap.size ≤ (grow (putRow (Value.int .i64) (Sort.ahead w n) g 0 (fall q).toArray) os).heap.size
    simp only [grow, Array.size_append, hs]
    omega

set_option maxHeartbeats 1000000 in
set_option maxRecDepth 100000 in
theorem sortedFalling_any (q : List Int) (A : Option Addr) (c : Nat) (w : World) (hl : q.length ≤ 1048576) (hA : CRead w w.heap.size A (icells q)) :
    Calls Try.prog 125 #[.slice A q.length c] w fun e w' => ∃ A' c', e = .returned (.slice A' (fall q).length c') ∧
      w'.ownsRow w.heap.size 3 1 (.slice A' (fall q).length c') (fall q).length (icells (fall q)) ∧ Below w.heap.size w w' := by
  rw [fall_length]
  go_enter Try.func125, Try.ntmps125
  go_wp2_with fail
  refine (cloneI_any q A c _ hl hA).mono ?_
  rintro e w1 ⟨A1, c1, rfl, own1, hb1⟩
  go_wp2_with fail
  refine (sortI_any q A1 c1 _ _ hl own1).mono ?_
  rintro e w2 ⟨rfl, own2, hb2, hs2⟩
  go_wp2
  go_ret
  exact ⟨A1, c1, rfl, own2, hb1.trans (hb2 _ (Nat.le_refl _) hb1.size)⟩

def resSortNumbers (q : List Int) : List Int × Bool := if isNums q then (fall q, true) else ([], false)
theorem resSortNumbers_len (q : List Int) : (resSortNumbers q).1.length ≤ 1048576 := by
  unfold resSortNumbers
  split
  · rename_i h
    have := isNums_len h
    rw [fall_length]
    omega
  · simp
set_option maxHeartbeats 1000000 in
set_option maxRecDepth 100000 in
theorem specSortNumbers_any (q : List Int) (A : Option Addr) (c : Nat) (w : World) (hl : q.length ≤ 1048576) (hA : CRead w w.heap.size A (icells q)) :
    Calls Try.prog 60 #[.slice A q.length c] w (GotIntsOk w (resSortNumbers q).1 (resSortNumbers q).2) := by
  cases hq : isNums q with
  | false =>
    have e : resSortNumbers q = ([], false) := by simp [resSortNumbers, hq]
    rw [e]
    have Hq := Lib.hid hq
    clear hq e
    go_enter Try.func60, Try.ntmps60
    go_wp2_with fail
    refine (deGood_any _ _ _ _ hl hA).mono ?_
    rw [Hq.out]
    rintro e w' ⟨rfl, rfl⟩
    go_wp2
    go_ret2
    exact ⟨none, 0, rfl, World.ownsRow_nil _ _ _ _, Below.refl _ _⟩
  | true =>
    have e : resSortNumbers q = (fall q, true) := by simp [resSortNumbers, hq]
    rw [e]
    have Hq := Lib.hid hq
    clear hq e
    go_enter Try.func60, Try.ntmps60
    go_wp2_with fail
    refine (deGood_any _ _ _ _ hl hA).mono ?_
    rw [Hq.out]
    rintro e w' ⟨rfl, rfl⟩
    go_wp2_with fail
    refine (deSorted_any q A c _ Hq.out hA).mono ?_
    rintro e w1 ⟨A1, c1, rfl, own1, hb1⟩
    go_wp2
    go_ret2
    exact ⟨A1, c1, rfl, own1, hb1⟩
set_option maxHeartbeats 1000000 in
set_option maxRecDepth 100000 in
theorem implSortNumbers_any (q : List Int) (A : Option Addr) (c : Nat) (w : World) (hl : q.length ≤ 1048576) (hA : CRead w w.heap.size A (icells q)) :
    Calls Try.prog 61 #[.slice A q.length c] w (GotIntsOk w (resSortNumbers q).1 (resSortNumbers q).2) := by
  cases hq : isNums q with
  | false =>
    have e : resSortNumbers q = ([], false) := by simp [resSortNumbers, hq]
    rw [e]
    have Hq := Lib.hid hq
    clear hq e
    go_enter Try.func61, Try.ntmps61
    go_wp2_with fail
    refine (isNumbers_any _ _ _ _ hl hA).mono ?_
    rw [Hq.out]
    rintro e w' ⟨rfl, rfl⟩
    go_wp2
    go_ret2
    exact ⟨none, 0, rfl, World.ownsRow_nil _ _ _ _, Below.refl _ _⟩
  | true =>
    have e : resSortNumbers q = (fall q, true) := by simp [resSortNumbers, hq]
    rw [e]
    have Hq := Lib.hid hq
    clear hq e
    go_enter Try.func61, Try.ntmps61
    go_wp2_with fail
    refine (isNumbers_any _ _ _ _ hl hA).mono ?_
    rw [Hq.out]
    rintro e w' ⟨rfl, rfl⟩
    go_wp2_with fail
    refine (sortedFalling_any q A c _ hl hA).mono ?_
    rintro e w1 ⟨A1, c1, rfl, own1, hb1⟩
    go_wp2
    go_ret2
    exact ⟨A1, c1, rfl, own1, hb1⟩
end Go.Proofs.Ytkonibmmdinmbaa
