/-
  NUMBERS SORTED BY THE PROGRAM: slices.SortFunc with its comparison, 'sortedFalling', 'SortNumbers', by their contracts.
-/
import Derived.Test.YtaemodpolopcfaaNumsW
import Derived.Test.YtaemodpolopcfaaClone
import Derived.Test.YtaemodpolopcfaaShelf
import Derived.Lib.OwnBridge
import Derived.Lib.SortBridge
namespace Go.Proofs.Ytaemodpolopcfaa
open Go.RowKit Go.Shelf Go.Lib Go.Sort

theorem below_grow {B : Nat} {a w : World} (h : Below B a w) (hB : B ≤ w.heap.size) (os : Array Obj) : Below B a (grow w os) :=
  ⟨h.os, h.tape, h.output, by simp only [grow, Array.size_append]; have := h.size; omega, fun k hk => by
    rw [← h.block k hk]
    simp only [grow]
    rw [Array.getElem?_append_left (by omega)]⟩
theorem own_grow {w : World} {base : Nat} {e : TypeId} {size n : Nat} {v : Value} {xs : List Value} (h : w.ownsRow base e size v n xs) (os : Array Obj) : (grow w os).ownsRow base e size v n xs :=
  own_below h (below_grow (Below.refl w.heap.size w) (Nat.le_refl _) os) (Nat.le_refl _)

def cmpDown (x y : Int) : Int := cmpI y x
theorem ltDown (x y : Int) : ltOf cmpDown x y = decide (y < x) := by
  unfold ltOf cmpDown cmpI
  by_cases h1 : y < x
  · simp [h1]
  · by_cases h2 : x < y <;> simp [h1, h2]
theorem swoDown : SWO (ltOf cmpDown) where
  irrefl x := by rw [ltDown]; simp
  trans x y z h1 h2 := by rw [ltDown] at *; simp at *; omega
  ntrans x y z h1 h2 := by rw [ltDown] at *; simp at *; omega
theorem totDown (x y : Int) (h1 : ltOf cmpDown x y = false) (h2 : ltOf cmpDown y x = false) : x = y := by rw [ltDown] at *; simp at *; omega
theorem geDown : (fun x y : Int => !ltOf cmpDown y x) = fun x y => decide (y ≤ x) := by
  funext x y
  rw [ltDown]
  by_cases h : y ≤ x
  · have h' : ¬ x < y := by omega
    simp [h, h']
  · have h' : x < y := by omega
    simp [h, h']

def resSortNumbers (q : List Int) : List Int × Bool := if isNums q then (fall q, true) else ([], false)
theorem resSortNumbers_len (q : List Int) : (resSortNumbers q).1.length ≤ 1048576 := by
  unfold resSortNumbers
  split
  · rename_i h
    have := isNums_len h
    rw [fall_length]
    omega
  · simp
end Go.Proofs.Ytaemodpolopcfaa
