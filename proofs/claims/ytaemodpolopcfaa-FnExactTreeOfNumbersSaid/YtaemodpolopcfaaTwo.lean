/-
  'TwoAlike': the model's and the program's, by their contracts.
-/
import Derived.Test.YtaemodpolopcfaaHang
import Derived.Test.YtaemodpolopcfaaNumbers
import Derived.OwnWalk
namespace Go.Proofs.Ytaemodpolopcfaa
open Go.RowKit

/-- how far behind a the next one with as many is, or -1 -/
def alikeAt (s : List Int) (a : Nat) : Int := Lib.idxOf (s.drop (a + 1)) (s.getD a 0)
def alikeI (s : List Int) : Int × Int × Bool := match (List.range s.length).find? fun a => decide (0 ≤ alikeAt s a) with | none => (0, 0, false) | some a => ((a : Int), (a : Int) + 1 + alikeAt s a, true)
theorem alikeAt_hit {s : List Int} {a b : Nat} (hab : a < b) (hb : b < s.length) (h : s.getD b 0 = s.getD a 0) (hne : ∀ j, a < j → j < b → s.getD j 0 ≠ s.getD a 0) : alikeAt s a = (b : Int) - a - 1 := by
  have hd : ∀ j, (s.drop (a + 1)).getD j 0 = s.getD (a + 1 + j) 0 := fun j => by simp [List.getD_eq_getElem?_getD, List.getElem?_drop]
  have h1 := Lib.idxOf_hit (s.drop (a + 1)) (s.drop (a + 1)).length (b - (a + 1)) (s.getD a 0) (by rw [List.length_drop]; omega) (Nat.le_refl _) (by rw [hd, show a + 1 + (b - (a + 1)) = b from by omega]; exact h) (fun j hj => by rw [hd]; exact hne _ (by omega) (by omega))
  rw [List.take_length] at h1
  unfold alikeAt
  rw [h1]
  omega
theorem alikeAt_miss {s : List Int} {a : Nat} (hne : ∀ j, a < j → j < s.length → s.getD j 0 ≠ s.getD a 0) : alikeAt s a = -1 := by
  have hd : ∀ j, (s.drop (a + 1)).getD j 0 = s.getD (a + 1 + j) 0 := fun j => by simp [List.getD_eq_getElem?_getD, List.getElem?_drop]
  have h1 := Lib.idxOf_miss (s.drop (a + 1)) (s.drop (a + 1)).length (s.getD a 0) (fun j hj => by rw [List.length_drop] at hj; rw [hd]; exact hne _ (by omega) (by omega))
  rw [List.take_length] at h1
  exact h1
theorem alikeI_at {s : List Int} {a : Nat} (ha : a < s.length) (h : ∀ j, j < a → alikeAt s j = -1) (hf : 0 ≤ alikeAt s a) : alikeI s = ((a : Int), (a : Int) + 1 + alikeAt s a, true) := by
  have : (List.range s.length).find? (fun a => decide (0 ≤ alikeAt s a)) = some a := by
    rw [List.find?_range_eq_some]
    exact ⟨decide_eq_true hf, by simpa using ha, fun j hj => by rw [h j hj]; rfl⟩
  unfold alikeI
  rw [this]
theorem alikeI_none {s : List Int} (h : ∀ j, j < s.length → alikeAt s j = -1) : alikeI s = (0, 0, false) := by
  have : (List.range s.length).find? (fun a => decide (0 ≤ alikeAt s a)) = none := by
    rw [List.find?_range_eq_none]
    intro j hj
    rw [h j hj]
    rfl
  unfold alikeI
  rw [this]
def resTwoAlike (p : Int) (l : PL) : Int × Int × Bool := if isP p l then alikeI (numsOf p.toNat l) else (0, 0, false)
theorem getD_at {s : List Int} {k : Nat} {x : Int} (h : s[k]? = some x) : s.getD k 0 = x := by rw [List.getD_eq_getElem?_getD, h]; rfl

set_option maxRecDepth 100000 in
theorem indexI_any (b off n c : Nat) (zs : List Int) (x : Int) (w : World) (hz : zs.length = n) (hbig : n ≤ 1048576) (hc : ∀ j, j < zs.length → w.cell? ⟨b, off + j, none⟩ = some (.int .i64 (zs.getD j 0))) :
    Calls Try.prog 98 #[.slice (some ⟨b, off, none⟩) n c, .int .i64 x] w fun e w' => e = .returned (.int .i64 (Lib.idxOf zs x)) ∧ w' = w := by
  have h := AnyG.slices_Index_int Try.indexI b off n c zs x w (by omega) (by omega) hc
  rw [List.take_of_length_le (by omega)] at h
  change Calls Try.prog 98 _ _ _ at h
  exact h
theorem indexI_none (a : Option Addr) (c : Nat) (x : Int) (w : World) :
    Calls Try.prog 98 #[.slice a 0 c, .int .i64 x] w fun e w' => e = .returned (.int .i64 (Lib.idxOf [] x)) ∧ w' = w := by
  have h := AnyG.slices_Index_int_empty Try.indexI a c x w
  change Calls Try.prog 98 _ _ _ at h
  exact h

end Go.Proofs.Ytaemodpolopcfaa
