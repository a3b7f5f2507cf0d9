/-
  Texts put together for the claims of 'PuzzleText' (pack 3): PuzTS, Ways, ClueI, ClueJ, PartyTI, PuzTI, LawPuzzleText, Said, OpenU, Head.
-/
import Derived.Test.YtefkcfkicmfhlaaDoorPuzzleTextP1
import Derived.Test.YtefkcfkicmfhlaaDoorPuzzleTextP2
import Derived.BigQuiet
import Derived.Recover
import Derived.Defers
import Derived.Laws.Pointers
import Derived.WalkLawsBesides
import Derived.StillTailTactics
import Derived.Deep.RegionHeld3
import Derived.Test.YtefkcfkicmfhlaaDoorRows
import Derived.ProofKit
import Derived.OpenShut
import Derived.Deep.SlicePairs
import Derived.Lib.SmallJoins
import Derived.Deep.Slices
import Derived.Deep.Strs
/-
  'PuzzleText': the model's function.
-/
namespace Go.Proofs.YtefkcfkicmfhlaaDoor
open Go.RowKit

set_option maxHeartbeats 4000000 in
set_option maxRecDepth 100000 in
theorem pzText_any (p : Int) (l : CL) (A : Option Addr) (c : Nat) (w : World) (hp : isU p l = true) (hA : CRead w w.heap.size A (ccells l)) :
    Calls Tryd.prog 102 #[.agg #[.int .i64 p, .slice A l.length c]] w fun e w' => e = .returned (.string (textU p l)) ∧ Below w.heap.size w w' := by
  have hparts := isU_parts hp
  have hnums := isU_nums hp
  have hl : l.length ≤ 1048576 := by have := hparts.2.2.1; omega
  have hpc := pieceU_size hp
  have hat : ∀ (i : Nat) (x y z : Int), l[i]? = some (x, y, z) → 0 ≤ x ∧ x ≤ 19 ∧ 0 ≤ y ∧ y ≤ 19 ∧ 0 ≤ z ∧ z ≤ 19 := fun i x y z h => by
    have := hnums (x, y, z) (List.mem_of_getElem? h)
    simp only at this
    omega
  have hsz : ∀ j, (textU p (l.take j)).size ≤ 3 + 9 * 1048576 := fun j => by
    have := textU_size p (by omega) (by omega) (l.take j) fun q hq => hpc q (List.mem_of_mem_take hq)
    rw [List.length_take] at this
    omega
  have hd := dgs_size (x := p) (by omega) (by omega)
  obtain ⟨F, hF⟩ : ∃ F, textU p l = F := ⟨_, rfl⟩
  rw [hF]
  have HF := Lib.hid hF
  have Hat := Lib.hid hat
  have Hsz := Lib.hid hsz
  have Hpc := Lib.hid hpc
  have h0 : 0 ≤ p := by omega
  have h12 : p ≤ 12 := by omega
  clear hF hat hsz hpc hp hparts hnums
  have h58 : (ByteArray.mk #[58]).size = 1 := rfl
  have h46 : (ByteArray.mk #[46]).size = 1 := rfl
  have h44 : (ByteArray.mk #[44]).size = 1 := rfl
  go_enter Tryd.func102, Tryd.ntmps102
  go_wp2_with fail
  refine (num_any p (by omega) (by omega) _).mono ?_
  rintro e w2 ⟨rfl, hb2⟩
  have k2 : Below w.heap.size w w2 := Below.trans (b := _) (by go_grown) (hb2.mono (by simp))
  have a1 : w2.cell? ⟨w.heap.size, 1, none⟩ = some (.slice A l.length c) := carry hb2 (by simp) (by simp)
  have s2 : w.heap.size < w2.heap.size := by have := hb2.size; simp at this; omega
  have hadd := run_string_add_sum (P := Tryd.prog) w2 (dgs p) ⟨#[58]⟩ (by omega)
  have ht0 : dgs p ++ ⟨#[58]⟩ = textU p (l.take 0) := by rw [List.take_zero, textU_nil]; rfl
  obtain ⟨H0, hH0⟩ : ∃ H, dgs p ++ (⟨#[58]⟩ : ByteArray) = H := ⟨_, rfl⟩
  rw [hH0] at ht0 hadd
  have Ht0 := Lib.hid ht0
  clear ht0 hb2 hH0
  go_wp2_with fail
  clear hadd
  go_loopw [3, 13] (fun v i wr => ∃ j : Nat, j ≤ l.length ∧ i = .int .i64 j ∧ v = .string (textU p (l.take j)) ∧ Below w2.heap.size w2 wr) (fun _ i _ => l.length - (intOf i).toNat)
  case atStart => exact ⟨0, Nat.zero_le _, rfl, congrArg _ Ht0.out, Below.refl _ _⟩
  case round =>
    obtain ⟨j, hj, rfl, rfl, hb⟩ := hrel
    have kX := k2.trans (hb.mono k2.size)
    clear Ht0
    by_cases hlt : j < l.length
    · obtain ⟨⟨x, y, z⟩, hy⟩ := getSome l j hlt
      obtain ⟨bb, off, rfl, hbb, c0, c1, c2⟩ := (hA.below kX (Nat.le_refl _)).clue hy
      obtain ⟨hx0, hx1, hy0, hy1, hz0, hz1⟩ := Hat.out j x y z hy
      have hji : (j : Int) < (l.length : Int) := by omega
      have dx := dgs_size hx0 hx1
      have dy := dgs_size hy0 hy1
      have dz := dgs_size hz0 hz1
      have hp5 := Hpc.out (x, y, z) (List.mem_of_getElem? hy)
      have ad1 := fun X => run_string_add_sum (P := Tryd.prog) X (dgs x) ⟨#[46]⟩ (by omega)
      have ad2 := fun X => run_string_add_sum (P := Tryd.prog) X (dgs x ++ ⟨#[46]⟩) (dgs y) (by rw [ByteArray.size_append]; omega)
      have ad4 := fun X => run_string_add_sum (P := Tryd.prog) X (dgs x ++ ⟨#[46]⟩ ++ dgs y) ⟨#[46]⟩ (by simp only [ByteArray.size_append]; omega)
      have ad5 := fun X => run_string_add_sum (P := Tryd.prog) X (dgs x ++ ⟨#[46]⟩ ++ dgs y ++ ⟨#[46]⟩) (dgs z) (by simp only [ByteArray.size_append]; omega)
      have hs0 := Hsz.out j
      obtain ⟨Q, hQ⟩ : ∃ Q, dgs x ++ (⟨#[46]⟩ : ByteArray) ++ dgs y ++ (⟨#[46]⟩ : ByteArray) ++ dgs z = Q := ⟨_, rfl⟩
      have hQ' : pieceU (x, y, z) = Q := hQ
      rw [hQ'] at hp5
      rw [hQ] at ad5
      obtain ⟨W, hW⟩ : ∃ W, wr.alloc (Obj.cells #[.int .i64 x, .int .i64 y, .int .i64 z] 30) = W := ⟨_, rfl⟩
      have bW : Below w2.heap.size w2 W := by rw [← hW]; exact hb.alloc hb.size _
      have sW : wr.heap.size < W.heap.size := by rw [← hW]; simp
      have q0 : W.cell? ⟨wr.heap.size, 0, none⟩ = some (.int .i64 x) := by rw [← hW]; simp
      have q1 : W.cell? ⟨wr.heap.size, 1, none⟩ = some (.int .i64 y) := by rw [← hW]; simp
      have q2 : W.cell? ⟨wr.heap.size, 2, none⟩ = some (.int .i64 z) := by rw [← hW]; simp
      have p0 : ∀ z : Ext W.heap.size W, z.val.cell? ⟨wr.heap.size, 0, none⟩ = some (.int .i64 x) := fun z => z.cell q0 sW
      have p1 : ∀ z : Ext W.heap.size W, z.val.cell? ⟨wr.heap.size, 1, none⟩ = some (.int .i64 y) := fun z => z.cell q1 sW
      have p2 : ∀ v : Ext W.heap.size W, v.val.cell? ⟨wr.heap.size, 2, none⟩ = some (.int .i64 z) := fun v => v.cell q2 sW
      have call : ∀ (z : Ext W.heap.size W) (v : Int), 0 ≤ v → v ≤ 19 → Calls Tryd.prog 130 #[.int .i64 v] z.val fun e w' => e = .returned (.string (dgs v)) ∧ Below z.val.heap.size z.val w' := fun z v h0 h1 => num_any v h0 h1 z.val
      have Call := Lib.hid call
      have HW := Lib.hid hW
      have HQ := Lib.hid hQ'
      clear hW call hQ hQ' q0 q1 q2 hb
      by_cases hj0 : j = 0
      · have hnp : ¬ (0 : Int) < (j : Int) := by omega
        have hnext : textU p (l.take (j + 1)) = textU p (l.take j) ++ pieceU (x, y, z) := by subst hj0; exact textU_first p hy
        rw [HQ.out] at hnext
        obtain ⟨S, hS⟩ : ∃ S, textU p (l.take j) = S := ⟨_, rfl⟩
        rw [hS] at hs0 hnext ⊢
        have Hnext := Lib.hid hnext
        have ad3 := fun X => run_string_add_sum (P := Tryd.prog) X S Q (by omega)
        clear hS hnext hy hj0
        go_wp2_with fail
        rw [HW.out]
        refine wp_region_ext W.heap.size (by kernel_rfl) (by kernel_rfl) ?_
        repeat (go_big_quiet_step ((first | (go_at_call 130; exact Calls.ext_of ((Call.out _ _ (by omega) (by omega)).mono fun _ _ h => ⟨h.1, h.2.mono (Ext.size _)⟩)))))
        refine wpQuiet_nil ?_
        rintro w3 ⟨⟨_, hb3⟩, rfl⟩
        have hb4 := bW.trans (hb3.mono bW.size)
        clear p0 p1 p2 c0 c1 c2 ad1 ad2 ad3 ad4 ad5 hb3
        go_wp2
        go_roundw
        case rel => exact ⟨j + 1, by omega, by go_num, congrArg _ Hnext.out.symm, hb4⟩
        case measure => simp [intOf]; omega
      · have hpos : (0 : Int) < (j : Int) := by omega
        have hnext := textU_next p (by omega) hy
        rw [HQ.out] at hnext
        obtain ⟨S, hS⟩ : ∃ S, textU p (l.take j) = S := ⟨_, rfl⟩
        rw [hS] at hs0 hnext ⊢
        have ad0 := fun X => run_string_add_sum (P := Tryd.prog) X S ⟨#[44]⟩ (by omega)
        have hs1 : (S ++ (⟨#[44]⟩ : ByteArray)).size ≤ 4 + 9 * 1048576 := by rw [ByteArray.size_append]; omega
        obtain ⟨S1, hS1⟩ : ∃ S1, S ++ (⟨#[44]⟩ : ByteArray) = S1 := ⟨_, rfl⟩
        rw [hS1] at ad0 hnext hs1
        have Hnext := Lib.hid hnext
        have ad3 := fun X => run_string_add_sum (P := Tryd.prog) X S1 Q (by omega)
        clear hS hnext hy hS1
        go_wp2_with fail
        rw [HW.out]
        refine wp_region_ext W.heap.size (by kernel_rfl) (by kernel_rfl) ?_
        repeat (go_big_quiet_step ((first | (go_at_call 130; exact Calls.ext_of ((Call.out _ _ (by omega) (by omega)).mono fun _ _ h => ⟨h.1, h.2.mono (Ext.size _)⟩)))))
        refine wpQuiet_nil ?_
        rintro w3 ⟨⟨_, hb3⟩, rfl⟩
        have hb4 := bW.trans (hb3.mono bW.size)
        clear p0 p1 p2 c0 c1 c2 ad0 ad1 ad2 ad3 ad4 ad5 hb3
        go_wp2
        go_roundw
        case rel => exact ⟨j + 1, by omega, by go_num, congrArg _ Hnext.out.symm, hb4⟩
        case measure => simp [intOf]; omega
    · have hjl : j = l.length := by omega
      subst hjl
      have hge : ¬ ((l.length : Int) < (l.length : Int)) := by omega
      have hfin : textU p (l.take l.length) = F := by rw [List.take_length, HF.out]
      rw [hfin]
      clear hfin
      go_wp2
      go_ret
      exact ⟨rfl, kX⟩
set_option maxHeartbeats 2000000 in
set_option maxRecDepth 100000 in
theorem specPuzzleText_any (p : Int) (l : CL) (A : Option Addr) (c : Nat) (w : World) (hl : l.length ≤ 1048576) (hA : CRead w w.heap.size A (ccells l)) :
    Calls Tryd.prog 58 #[.agg #[.int .i64 p, .slice A l.length c]] w fun e w' => e = .returned (.tuple #[.string (resPuzzleText p l).1, .bool (resPuzzleText p l).2]) ∧ Below w.heap.size w w' := by
  have RA : CRead (w.alloc (Obj.cells #[.int .i64 p, .slice A l.length c] 47)) (w.alloc (Obj.cells #[.int .i64 p, .slice A l.length c] 47)).heap.size A (ccells l) := (hA.below (B' := w.heap.size) (by go_grown) (Nat.le_refl _)).more (by go_size)
  cases hp : isU p l with
  | false =>
    have e : resPuzzleText p l = (⟨#[]⟩, false) := by simp [resPuzzleText, hp]
    rw [e]
    have Hp := Lib.hid hp
    clear hp e
    go_enter Tryd.func58, Tryd.ntmps58
    go_wp2_with fail
    refine (pzGood_any _ _ _ _ _ hl RA).mono ?_
    rw [Hp.out]
    rintro e w2 ⟨rfl, hb2⟩
    simp only [World.size_alloc] at hb2
    go_wp2
    go_ret2
    exact ⟨rfl, Below.trans (b := _) (by go_grown) (hb2.mono (by omega))⟩
  | true =>
    have e : resPuzzleText p l = (textU p l, true) := by simp [resPuzzleText, hp]
    rw [e]
    have call := fun (X : World) (hR : CRead X X.heap.size A (ccells l)) => pzText_any p l A c X hp hR
    obtain ⟨F, hF⟩ : ∃ F, textU p l = F := ⟨_, rfl⟩
    simp only [hF] at call ⊢
    have Call := Lib.hid call
    have Hp := Lib.hid hp
    clear hp e hF call
    go_enter Tryd.func58, Tryd.ntmps58
    go_wp2_with fail
    refine (pzGood_any _ _ _ _ _ hl RA).mono ?_
    rw [Hp.out]
    rintro e w2 ⟨rfl, hb2⟩
    have k2 : Below w.heap.size w w2 := Below.trans (b := _) (by go_grown) (hb2.mono (by simp))
    have c0 : w2.cell? ⟨w.heap.size, 0, none⟩ = some (.int .i64 p) := carry hb2 (by simp) (by simp)
    have c1 : w2.cell? ⟨w.heap.size, 1, none⟩ = some (.slice A l.length c) := carry hb2 (by simp) (by simp)
    go_wp2_with fail
    refine (Call.out _ ((hA.below k2 (Nat.le_refl _)).more k2.size)).mono ?_
    rintro e w3 ⟨rfl, hb3⟩
    have k3 := k2.trans (hb3.mono k2.size)
    clear c0 c1 hb2 hb3
    go_wp2
    go_ret2
    exact ⟨rfl, k3⟩
end Go.Proofs.YtefkcfkicmfhlaaDoor
/-
  WAYS TO CHOOSE: the program's 'waysToChoose' and the model's 'trChoose', by their contracts; 'GroupBound', 'LeastMustHave', 'LeastOneKind'.
-/
namespace Go.Proofs.YtefkcfkicmfhlaaDoor
open Go.RowKit

/-- the product of the first steps, as the program takes them -/
def waysI (n : Int) : Nat → Int
  | 0 => 1
  | i + 1 => (waysI n i * (n - i)).tdiv (i + 1)
/-- as the model takes them -/
def stepsI (n k : Int) : Nat → Int
  | 0 => 1
  | i + 1 => (stepsI n k i * (n - k + (i + 1))).tdiv (i + 1)
def InWays (n : Int) (k : Nat) : Prop := (0 ≤ n ∧ n ≤ 12 ∧ k ≤ 12) ∨ (0 ≤ n ∧ n ≤ 132 ∧ k ≤ 2)
theorem waysI_all : (∀ n : Fin 13, ∀ k : Fin 13, 0 ≤ waysI (n.val : Int) k.val ∧ waysI (n.val : Int) k.val ≤ 10000) ∧ (∀ n : Fin 133, ∀ k : Fin 3, 0 ≤ waysI (n.val : Int) k.val ∧ waysI (n.val : Int) k.val ≤ 10000) := by
  constructor <;> decide +kernel
theorem waysI_bound {n : Int} {k : Nat} (h : InWays n k) : 0 ≤ waysI n k ∧ waysI n k ≤ 10000 := by
  rcases h with ⟨h0, h1, h2⟩ | ⟨h0, h1, h2⟩
  · have := waysI_all.1 ⟨n.toNat, by omega⟩ ⟨k, by omega⟩
    rwa [show ((n.toNat : Nat) : Int) = n from by omega] at this
  · have := waysI_all.2 ⟨n.toNat, by omega⟩ ⟨k, by omega⟩
    rwa [show ((n.toNat : Nat) : Int) = n from by omega] at this
theorem InWays.less {n : Int} {k i : Nat} (h : InWays n k) (hi : i ≤ k) : InWays n i := by unfold InWays at *; omega
theorem stepsI_all : (∀ n : Fin 13, ∀ k : Fin 13, k.val ≤ n.val → ∀ i : Fin 13, i.val ≤ k.val → 0 ≤ stepsI (n.val : Int) (k.val : Int) i.val ∧ stepsI (n.val : Int) (k.val : Int) i.val ≤ 10000) ∧ (∀ n : Fin 133, ∀ k : Fin 3, k.val ≤ n.val → ∀ i : Fin 3, i.val ≤ k.val → 0 ≤ stepsI (n.val : Int) (k.val : Int) i.val ∧ stepsI (n.val : Int) (k.val : Int) i.val ≤ 10000) := by
  constructor <;> decide +kernel
theorem stepsI_bound {n : Int} {k i : Nat} (h : InWays n k) (hk : (k : Int) ≤ n) (hi : i ≤ k) : 0 ≤ stepsI n k i ∧ stepsI n k i ≤ 10000 := by
  rcases h with ⟨h0, h1, h2⟩ | ⟨h0, h1, h2⟩
  · have := stepsI_all.1 ⟨n.toNat, by omega⟩ ⟨k, by omega⟩ (by show k ≤ n.toNat; omega) ⟨i, by omega⟩ hi
    rwa [show ((n.toNat : Nat) : Int) = n from by omega] at this
  · have := stepsI_all.2 ⟨n.toNat, by omega⟩ ⟨k, by omega⟩ (by show k ≤ n.toNat; omega) ⟨i, by omega⟩ hi
    rwa [show ((n.toNat : Nat) : Int) = n from by omega] at this
theorem ways_steps_all : (∀ n : Fin 13, ∀ k : Fin 13, waysI (n.val : Int) k.val = if k.val > n.val then 0 else stepsI (n.val : Int) (k.val : Int) k.val) ∧ (∀ n : Fin 133, ∀ k : Fin 3, waysI (n.val : Int) k.val = if k.val > n.val then 0 else stepsI (n.val : Int) (k.val : Int) k.val) := by
  constructor <;> decide +kernel
theorem ways_steps {n : Int} {k : Nat} (h : InWays n k) : waysI n k = if (k : Int) > n then 0 else stepsI n k k := by
  rcases h with ⟨h0, h1, h2⟩ | ⟨h0, h1, h2⟩
  · have := ways_steps_all.1 ⟨n.toNat, by omega⟩ ⟨k, by omega⟩
    rw [show ((n.toNat : Nat) : Int) = n from by omega] at this
    rw [this]
    by_cases hk : k > n.toNat
    · rw [if_pos hk, if_pos (by omega)]
    · rw [if_neg hk, if_neg (by omega)]
  · have := ways_steps_all.2 ⟨n.toNat, by omega⟩ ⟨k, by omega⟩
    rw [show ((n.toNat : Nat) : Int) = n from by omega] at this
    rw [this]
    by_cases hk : k > n.toNat
    · rw [if_pos hk, if_pos (by omega)]
    · rw [if_neg hk, if_neg (by omega)]
/-- what a step's product is within -/
theorem mul_within {a b : Int} (ha : 0 ≤ a ∧ a ≤ 10000) (hb : -200 ≤ b ∧ b ≤ 200) : -2000000 ≤ a * b ∧ a * b ≤ 2000000 := by
  constructor
  · have h1 : a * (-200) ≤ a * b := Int.mul_le_mul_of_nonneg_left hb.1 ha.1
    omega
  · have h1 : a * b ≤ a * 200 := Int.mul_le_mul_of_nonneg_left hb.2 ha.1
    omega
theorem wrap_small {x : Int} (h : -9223372036854775808 ≤ x ∧ x ≤ 9223372036854775807) : IntKind.i64.wrap x = x := by simp [IntKind.wrap, IntKind.bits, IntKind.signed]; omega

set_option maxHeartbeats 1000000 in
set_option maxRecDepth 100000 in
theorem waysToChoose_any (n : Int) (k : Nat) (w : World) (h : InWays n k) :
    Calls Tryd.prog 168 #[.int .i64 n, .int .i64 k] w fun e w' => e = .returned (.int .i64 (waysI n k)) ∧ w = w' := by
  have hk12 : k ≤ 12 := by unfold InWays at h; omega
  have hn0 : 0 ≤ n ∧ n ≤ 132 := by unfold InWays at h; omega
  obtain ⟨hn0, hn1⟩ := hn0
  have H := Lib.hid h
  clear h
  go_enter Tryd.func168, Tryd.ntmps168
  go_wp2
  go_loop [5, 8] (fun v i => ∃ (j : Nat) (u : Int), j ≤ k ∧ i = .int .i64 j ∧ v = .int .i64 u ∧ u = waysI n j) (fun _ i => k - (intOf i).toNat)
  case atStart => exact ⟨0, 1, Nat.zero_le _, rfl, rfl, rfl⟩
  case round =>
    obtain ⟨j, u, hj, rfl, rfl, hu⟩ := hrel
    have hub := waysI_bound (H.out.less hj)
    rw [← hu] at hub
    obtain ⟨hu0, hu1⟩ := hub
    have Hu := Lib.hid hu
    by_cases hlt : j < k
    · have hnx := waysI_bound (H.out.less hlt)
      have e : waysI n (j + 1) = (u * (n - j)).tdiv ((j : Int) + 1) := by rw [hu]; rfl
      rw [e] at hnx
      have He := Lib.hid e
      obtain ⟨hm0, hm1⟩ := mul_within (a := u) (b := n - j) ⟨hu0, hu1⟩ (by omega)
      have hw1 : IntKind.i64.wrap (u * (n - j)) = u * (n - j) := wrap_small (by omega)
      have hw2 : IntKind.i64.wrap ((u * (n - j)).tdiv ((j : Int) + 1)) = (u * (n - j)).tdiv ((j : Int) + 1) := wrap_small (by omega)
      have hji : (j : Int) < (k : Int) := by omega
      have hj1 : ¬ ((j : Int) + 1 = 0) := by omega
      clear hu e hnx
      go_wp2
      go_round
      case rel => exact ⟨j + 1, _, by omega, by go_num, rfl, He.out.symm⟩
      case measure => simp [intOf]; omega
    · have hjk : j = k := by omega
      have hge : ¬ ((j : Int) < (k : Int)) := by omega
      clear hu
      go_wp2
      go_ret
      exact ⟨by rw [Hu.out, hjk]; rfl, rfl⟩

end Go.Proofs.YtefkcfkicmfhlaaDoor
/-
  WHAT A CLUE, A PUZZLE IS: the program's functions, by their contracts: 'requireClue' panics with a clue that is none; 'areClues' recovers.
-/
namespace Go.Proofs.YtefkcfkicmfhlaaDoor
open Go.RowKit

set_option maxHeartbeats 400000 in
theorem areGuests_any (n : Int) (w : World) : Calls Tryd.prog 99 #[.int .i64 n] w fun e w' => e = .returned (.bool (isGuests n)) ∧ w = w' := by
  by_cases h1 : 1 ≤ n
  · by_cases h5 : n ≤ 5
    · rw [show isGuests n = true from by simp [isGuests, l1InB, h1, h5]]
      go_enter Tryd.func99, Tryd.ntmps99
      go_wp2
      go_ret
      exact ⟨rfl, rfl⟩
    · rw [show isGuests n = false from by simp [isGuests, l1InB, h5]]
      go_enter Tryd.func99, Tryd.ntmps99
      go_wp2
      go_ret
      exact ⟨rfl, rfl⟩
  · rw [show isGuests n = false from by simp [isGuests, l1InB, h1]]
    go_enter Tryd.func99, Tryd.ntmps99
    go_wp2
    go_ret
    exact ⟨rfl, rfl⟩

/-- how 'requireClue' ends -/
def ReqPost (n k a b : Int) (w : World) (e : Ending) (w' : World) : Prop :=
  (if isCB n (k, a, b) = true then e = .returned (.tuple #[]) else e = .panicked [{ v := .iface 30 (.agg #[.int .i64 k, .int .i64 a, .int .i64 b]), recovered := false }]) ∧ Below w.heap.size w w'
theorem ReqPost.yes {n k a b : Int} {w w' : World} (h : isCB n (k, a, b) = true) (hb : Below w.heap.size w w') : ReqPost n k a b w (.returned (.tuple #[])) w' := ⟨by rw [if_pos h], hb⟩
theorem ReqPost.no {n k a b : Int} {w w' : World} (h : isCB n (k, a, b) = false) (hb : Below w.heap.size w w') : ReqPost n k a b w (.panicked [{ v := .iface 30 (.agg #[.int .i64 k, .int .i64 a, .int .i64 b]), recovered := false }]) w' := ⟨by rw [h]; rfl, hb⟩
set_option maxHeartbeats 8000000 in
set_option maxRecDepth 100000 in
theorem requireClue_any (n k a b : Int) (h1 : 1 ≤ n) (h5 : n ≤ 5) (w : World) :
    Calls Tryd.prog 144 #[.int .i64 n, .agg #[.int .i64 k, .int .i64 a, .int .i64 b]] w (ReqPost n k a b w) := by
  by_cases hk0 : k = 0
  · subst hk0
    by_cases g0 : 0 ≤ a
    rotate_left
    · have e : isCB n (0, a, b) = false := by unfold isCB l1InB; simp; omega
      go_enter Tryd.func144, Tryd.ntmps144
      go_wp2
      exact ⟨rfl, .no e (by go_grown)⟩
    · skip
      by_cases g1 : a < b
      rotate_left
      · have e : isCB n (0, a, b) = false := by unfold isCB l1InB; simp; omega
        go_enter Tryd.func144, Tryd.ntmps144
        go_wp2
        exact ⟨rfl, .no e (by go_grown)⟩
      · skip
        by_cases g2 : b < n
        rotate_left
        · have e : isCB n (0, a, b) = false := by unfold isCB l1InB; simp; omega
          go_enter Tryd.func144, Tryd.ntmps144
          go_wp2
          exact ⟨rfl, .no e (by go_grown)⟩
        · skip
          have e : isCB n (0, a, b) = true := by unfold isCB l1InB; simp; omega
          go_enter Tryd.func144, Tryd.ntmps144
          go_wp2
          go_end0
          exact .yes e (by go_grown)
  by_cases hk1 : k = 1
  · subst hk1
    by_cases g0 : 0 ≤ a
    rotate_left
    · have e : isCB n (1, a, b) = false := by unfold isCB l1InB; simp; omega
      go_enter Tryd.func144, Tryd.ntmps144
      go_wp2
      exact ⟨rfl, .no e (by go_grown)⟩
    · skip
      by_cases g1 : a < b
      rotate_left
      · have e : isCB n (1, a, b) = false := by unfold isCB l1InB; simp; omega
        go_enter Tryd.func144, Tryd.ntmps144
        go_wp2
        exact ⟨rfl, .no e (by go_grown)⟩
      · skip
        by_cases g2 : b < n
        rotate_left
        · have e : isCB n (1, a, b) = false := by unfold isCB l1InB; simp; omega
          go_enter Tryd.func144, Tryd.ntmps144
          go_wp2
          exact ⟨rfl, .no e (by go_grown)⟩
        · skip
          have e : isCB n (1, a, b) = true := by unfold isCB l1InB; simp; omega
          go_enter Tryd.func144, Tryd.ntmps144
          go_wp2
          go_end0
          exact .yes e (by go_grown)
  by_cases hk2 : k = 2
  · subst hk2
    by_cases g0 : 0 ≤ a
    rotate_left
    · have e : isCB n (2, a, b) = false := by unfold isCB l1InB; simp; omega
      go_enter Tryd.func144, Tryd.ntmps144
      go_wp2
      exact ⟨rfl, .no e (by go_grown)⟩
    · skip
      by_cases g1 : a < n
      rotate_left
      · have e : isCB n (2, a, b) = false := by unfold isCB l1InB; simp; omega
        go_enter Tryd.func144, Tryd.ntmps144
        go_wp2
        exact ⟨rfl, .no e (by go_grown)⟩
      · skip
        by_cases g2 : 0 ≤ b
        rotate_left
        · have e : isCB n (2, a, b) = false := by unfold isCB l1InB; simp; omega
          go_enter Tryd.func144, Tryd.ntmps144
          go_wp2
          exact ⟨rfl, .no e (by go_grown)⟩
        · skip
          by_cases g3 : b < n
          rotate_left
          · have e : isCB n (2, a, b) = false := by unfold isCB l1InB; simp; omega
            go_enter Tryd.func144, Tryd.ntmps144
            go_wp2
            exact ⟨rfl, .no e (by go_grown)⟩
          · skip
            have e : isCB n (2, a, b) = true := by unfold isCB l1InB; simp; omega
            go_enter Tryd.func144, Tryd.ntmps144
            go_wp2
            go_end0
            exact .yes e (by go_grown)
  by_cases hk3 : k = 3
  · subst hk3
    have W1 : Hid (∀ X : World, Calls Tryd.prog 168 #[.int .i64 1, .int .i64 2] X fun e w' => e = .returned (.int .i64 0) ∧ X = w') := Lib.hid fun X => by
      have h := waysToChoose_any 1 2 X (by unfold InWays; omega)
      rwa [show waysI 1 2 = 0 from by decide +kernel] at h
    have W2 : Hid (∀ X : World, Calls Tryd.prog 168 #[.int .i64 2, .int .i64 2] X fun e w' => e = .returned (.int .i64 1) ∧ X = w') := Lib.hid fun X => by
      have h := waysToChoose_any 2 2 X (by unfold InWays; omega)
      rwa [show waysI 2 2 = 1 from by decide +kernel] at h
    have W3 : Hid (∀ X : World, Calls Tryd.prog 168 #[.int .i64 3, .int .i64 2] X fun e w' => e = .returned (.int .i64 3) ∧ X = w') := Lib.hid fun X => by
      have h := waysToChoose_any 3 2 X (by unfold InWays; omega)
      rwa [show waysI 3 2 = 3 from by decide +kernel] at h
    have W4 : Hid (∀ X : World, Calls Tryd.prog 168 #[.int .i64 4, .int .i64 2] X fun e w' => e = .returned (.int .i64 6) ∧ X = w') := Lib.hid fun X => by
      have h := waysToChoose_any 4 2 X (by unfold InWays; omega)
      rwa [show waysI 4 2 = 6 from by decide +kernel] at h
    have W5 : Hid (∀ X : World, Calls Tryd.prog 168 #[.int .i64 5, .int .i64 2] X fun e w' => e = .returned (.int .i64 10) ∧ X = w') := Lib.hid fun X => by
      have h := waysToChoose_any 5 2 X (by unfold InWays; omega)
      rwa [show waysI 5 2 = 10 from by decide +kernel] at h
    obtain rfl | rfl | rfl | rfl | rfl : n = 1 ∨ n = 2 ∨ n = 3 ∨ n = 4 ∨ n = 5 := by omega
    · by_cases g0 : 0 ≤ a
      rotate_left
      · have e : isCB 1 (3, a, b) = false := by unfold isCB l1InB prsI; simp; omega
        have g' : decide (0 ≤ a) = false := decide_eq_false g0
        go_enter Tryd.func144, Tryd.ntmps144
        go_wp2
        go_quiet (fail)
        go_wp2
        exact ⟨rfl, .no e (Below.trans (b := w.alloc _) (by go_grown) ⟨rfl, rfl, rfl, Nat.le_refl _, fun _ _ => rfl⟩)⟩
      · skip
        by_cases g1 : a ≤ 0
        rotate_left
        · have e : isCB 1 (3, a, b) = false := by unfold isCB l1InB prsI; simp; omega
          have gz : decide (0 ≤ a) = true := decide_eq_true g0
          have gy : decide (a ≤ 0) = false := decide_eq_false g1
          go_enter Tryd.func144, Tryd.ntmps144
          go_wp2
          go_quiet (first | (go_at_call 168; refine Calls.quiet_of_same (((W1.out) _).mono fun _ _ ⟨he, hw⟩ => ⟨he, hw.symm⟩)))
          go_wp2
          exact ⟨rfl, .no e (Below.trans (b := w.alloc _) (by go_grown) ⟨rfl, rfl, rfl, Nat.le_refl _, fun _ _ => rfl⟩)⟩
        · skip
          by_cases g2 : b = 0
          rotate_left
          · have e : isCB 1 (3, a, b) = false := by unfold isCB l1InB prsI; simp; omega
            have g' : (b == 0) = false := by simp [g2]
            have gz : decide (0 ≤ a) = true := decide_eq_true g0
            have gy : decide (a ≤ 0) = true := decide_eq_true g1
            go_enter Tryd.func144, Tryd.ntmps144
            go_wp2
            go_quiet (first | (go_at_call 168; refine Calls.quiet_of_same (((W1.out) _).mono fun _ _ ⟨he, hw⟩ => ⟨he, hw.symm⟩)))
            go_wp2
            exact ⟨rfl, .no e (Below.trans (b := w.alloc _) (by go_grown) ⟨rfl, rfl, rfl, Nat.le_refl _, fun _ _ => rfl⟩)⟩
          · skip
            have e : isCB 1 (3, a, b) = true := by unfold isCB l1InB prsI; simp; omega
            have g' : (b == 0) = true := by simp; omega
            have gz : decide (0 ≤ a) = true := decide_eq_true g0
            have gy : decide (a ≤ 0) = true := decide_eq_true g1
            go_enter Tryd.func144, Tryd.ntmps144
            go_wp2
            go_quiet (first | (go_at_call 168; refine Calls.quiet_of_same (((W1.out) _).mono fun _ _ ⟨he, hw⟩ => ⟨he, hw.symm⟩)))
            go_wp2
            go_end0
            exact .yes e (Below.trans (b := w.alloc _) (by go_grown) ⟨rfl, rfl, rfl, Nat.le_refl _, fun _ _ => rfl⟩)
    · by_cases g0 : 0 ≤ a
      rotate_left
      · have e : isCB 2 (3, a, b) = false := by unfold isCB l1InB prsI; simp; omega
        have g' : decide (0 ≤ a) = false := decide_eq_false g0
        go_enter Tryd.func144, Tryd.ntmps144
        go_wp2
        go_quiet (fail)
        go_wp2
        exact ⟨rfl, .no e (Below.trans (b := w.alloc _) (by go_grown) ⟨rfl, rfl, rfl, Nat.le_refl _, fun _ _ => rfl⟩)⟩
      · skip
        by_cases g1 : a ≤ 1
        rotate_left
        · have e : isCB 2 (3, a, b) = false := by unfold isCB l1InB prsI; simp; omega
          have gz : decide (0 ≤ a) = true := decide_eq_true g0
          have gy : decide (a ≤ 1) = false := decide_eq_false g1
          go_enter Tryd.func144, Tryd.ntmps144
          go_wp2
          go_quiet (first | (go_at_call 168; refine Calls.quiet_of_same (((W2.out) _).mono fun _ _ ⟨he, hw⟩ => ⟨he, hw.symm⟩)))
          go_wp2
          exact ⟨rfl, .no e (Below.trans (b := w.alloc _) (by go_grown) ⟨rfl, rfl, rfl, Nat.le_refl _, fun _ _ => rfl⟩)⟩
        · skip
          by_cases g2 : b = 0
          rotate_left
          · have e : isCB 2 (3, a, b) = false := by unfold isCB l1InB prsI; simp; omega
            have g' : (b == 0) = false := by simp [g2]
            have gz : decide (0 ≤ a) = true := decide_eq_true g0
            have gy : decide (a ≤ 1) = true := decide_eq_true g1
            go_enter Tryd.func144, Tryd.ntmps144
            go_wp2
            go_quiet (first | (go_at_call 168; refine Calls.quiet_of_same (((W2.out) _).mono fun _ _ ⟨he, hw⟩ => ⟨he, hw.symm⟩)))
            go_wp2
            exact ⟨rfl, .no e (Below.trans (b := w.alloc _) (by go_grown) ⟨rfl, rfl, rfl, Nat.le_refl _, fun _ _ => rfl⟩)⟩
          · skip
            have e : isCB 2 (3, a, b) = true := by unfold isCB l1InB prsI; simp; omega
            have g' : (b == 0) = true := by simp; omega
            have gz : decide (0 ≤ a) = true := decide_eq_true g0
            have gy : decide (a ≤ 1) = true := decide_eq_true g1
            go_enter Tryd.func144, Tryd.ntmps144
            go_wp2
            go_quiet (first | (go_at_call 168; refine Calls.quiet_of_same (((W2.out) _).mono fun _ _ ⟨he, hw⟩ => ⟨he, hw.symm⟩)))
            go_wp2
            go_end0
            exact .yes e (Below.trans (b := w.alloc _) (by go_grown) ⟨rfl, rfl, rfl, Nat.le_refl _, fun _ _ => rfl⟩)
    · by_cases g0 : 0 ≤ a
      rotate_left
      · have e : isCB 3 (3, a, b) = false := by unfold isCB l1InB prsI; simp; omega
        have g' : decide (0 ≤ a) = false := decide_eq_false g0
        go_enter Tryd.func144, Tryd.ntmps144
        go_wp2
        go_quiet (fail)
        go_wp2
        exact ⟨rfl, .no e (Below.trans (b := w.alloc _) (by go_grown) ⟨rfl, rfl, rfl, Nat.le_refl _, fun _ _ => rfl⟩)⟩
      · skip
        by_cases g1 : a ≤ 3
        rotate_left
        · have e : isCB 3 (3, a, b) = false := by unfold isCB l1InB prsI; simp; omega
          have gz : decide (0 ≤ a) = true := decide_eq_true g0
          have gy : decide (a ≤ 3) = false := decide_eq_false g1
          go_enter Tryd.func144, Tryd.ntmps144
          go_wp2
          go_quiet (first | (go_at_call 168; refine Calls.quiet_of_same (((W3.out) _).mono fun _ _ ⟨he, hw⟩ => ⟨he, hw.symm⟩)))
          go_wp2
          exact ⟨rfl, .no e (Below.trans (b := w.alloc _) (by go_grown) ⟨rfl, rfl, rfl, Nat.le_refl _, fun _ _ => rfl⟩)⟩
        · skip
          by_cases g2 : b = 0
          rotate_left
          · have e : isCB 3 (3, a, b) = false := by unfold isCB l1InB prsI; simp; omega
            have g' : (b == 0) = false := by simp [g2]
            have gz : decide (0 ≤ a) = true := decide_eq_true g0
            have gy : decide (a ≤ 3) = true := decide_eq_true g1
            go_enter Tryd.func144, Tryd.ntmps144
            go_wp2
            go_quiet (first | (go_at_call 168; refine Calls.quiet_of_same (((W3.out) _).mono fun _ _ ⟨he, hw⟩ => ⟨he, hw.symm⟩)))
            go_wp2
            exact ⟨rfl, .no e (Below.trans (b := w.alloc _) (by go_grown) ⟨rfl, rfl, rfl, Nat.le_refl _, fun _ _ => rfl⟩)⟩
          · skip
            have e : isCB 3 (3, a, b) = true := by unfold isCB l1InB prsI; simp; omega
            have g' : (b == 0) = true := by simp; omega
            have gz : decide (0 ≤ a) = true := decide_eq_true g0
            have gy : decide (a ≤ 3) = true := decide_eq_true g1
            go_enter Tryd.func144, Tryd.ntmps144
            go_wp2
            go_quiet (first | (go_at_call 168; refine Calls.quiet_of_same (((W3.out) _).mono fun _ _ ⟨he, hw⟩ => ⟨he, hw.symm⟩)))
            go_wp2
            go_end0
            exact .yes e (Below.trans (b := w.alloc _) (by go_grown) ⟨rfl, rfl, rfl, Nat.le_refl _, fun _ _ => rfl⟩)
    · by_cases g0 : 0 ≤ a
      rotate_left
      · have e : isCB 4 (3, a, b) = false := by unfold isCB l1InB prsI; simp; omega
        have g' : decide (0 ≤ a) = false := decide_eq_false g0
        go_enter Tryd.func144, Tryd.ntmps144
        go_wp2
        go_quiet (fail)
        go_wp2
        exact ⟨rfl, .no e (Below.trans (b := w.alloc _) (by go_grown) ⟨rfl, rfl, rfl, Nat.le_refl _, fun _ _ => rfl⟩)⟩
      · skip
        by_cases g1 : a ≤ 6
        rotate_left
        · have e : isCB 4 (3, a, b) = false := by unfold isCB l1InB prsI; simp; omega
          have gz : decide (0 ≤ a) = true := decide_eq_true g0
          have gy : decide (a ≤ 6) = false := decide_eq_false g1
          go_enter Tryd.func144, Tryd.ntmps144
          go_wp2
          go_quiet (first | (go_at_call 168; refine Calls.quiet_of_same (((W4.out) _).mono fun _ _ ⟨he, hw⟩ => ⟨he, hw.symm⟩)))
          go_wp2
          exact ⟨rfl, .no e (Below.trans (b := w.alloc _) (by go_grown) ⟨rfl, rfl, rfl, Nat.le_refl _, fun _ _ => rfl⟩)⟩
        · skip
          by_cases g2 : b = 0
          rotate_left
          · have e : isCB 4 (3, a, b) = false := by unfold isCB l1InB prsI; simp; omega
            have g' : (b == 0) = false := by simp [g2]
            have gz : decide (0 ≤ a) = true := decide_eq_true g0
            have gy : decide (a ≤ 6) = true := decide_eq_true g1
            go_enter Tryd.func144, Tryd.ntmps144
            go_wp2
            go_quiet (first | (go_at_call 168; refine Calls.quiet_of_same (((W4.out) _).mono fun _ _ ⟨he, hw⟩ => ⟨he, hw.symm⟩)))
            go_wp2
            exact ⟨rfl, .no e (Below.trans (b := w.alloc _) (by go_grown) ⟨rfl, rfl, rfl, Nat.le_refl _, fun _ _ => rfl⟩)⟩
          · skip
            have e : isCB 4 (3, a, b) = true := by unfold isCB l1InB prsI; simp; omega
            have g' : (b == 0) = true := by simp; omega
            have gz : decide (0 ≤ a) = true := decide_eq_true g0
            have gy : decide (a ≤ 6) = true := decide_eq_true g1
            go_enter Tryd.func144, Tryd.ntmps144
            go_wp2
            go_quiet (first | (go_at_call 168; refine Calls.quiet_of_same (((W4.out) _).mono fun _ _ ⟨he, hw⟩ => ⟨he, hw.symm⟩)))
            go_wp2
            go_end0
            exact .yes e (Below.trans (b := w.alloc _) (by go_grown) ⟨rfl, rfl, rfl, Nat.le_refl _, fun _ _ => rfl⟩)
    · by_cases g0 : 0 ≤ a
      rotate_left
      · have e : isCB 5 (3, a, b) = false := by unfold isCB l1InB prsI; simp; omega
        have g' : decide (0 ≤ a) = false := decide_eq_false g0
        go_enter Tryd.func144, Tryd.ntmps144
        go_wp2
        go_quiet (fail)
        go_wp2
        exact ⟨rfl, .no e (Below.trans (b := w.alloc _) (by go_grown) ⟨rfl, rfl, rfl, Nat.le_refl _, fun _ _ => rfl⟩)⟩
      · skip
        by_cases g1 : a ≤ 10
        rotate_left
        · have e : isCB 5 (3, a, b) = false := by unfold isCB l1InB prsI; simp; omega
          have gz : decide (0 ≤ a) = true := decide_eq_true g0
          have gy : decide (a ≤ 10) = false := decide_eq_false g1
          go_enter Tryd.func144, Tryd.ntmps144
          go_wp2
          go_quiet (first | (go_at_call 168; refine Calls.quiet_of_same (((W5.out) _).mono fun _ _ ⟨he, hw⟩ => ⟨he, hw.symm⟩)))
          go_wp2
          exact ⟨rfl, .no e (Below.trans (b := w.alloc _) (by go_grown) ⟨rfl, rfl, rfl, Nat.le_refl _, fun _ _ => rfl⟩)⟩
        · skip
          by_cases g2 : b = 0
          rotate_left
          · have e : isCB 5 (3, a, b) = false := by unfold isCB l1InB prsI; simp; omega
            have g' : (b == 0) = false := by simp [g2]
            have gz : decide (0 ≤ a) = true := decide_eq_true g0
            have gy : decide (a ≤ 10) = true := decide_eq_true g1
            go_enter Tryd.func144, Tryd.ntmps144
            go_wp2
            go_quiet (first | (go_at_call 168; refine Calls.quiet_of_same (((W5.out) _).mono fun _ _ ⟨he, hw⟩ => ⟨he, hw.symm⟩)))
            go_wp2
            exact ⟨rfl, .no e (Below.trans (b := w.alloc _) (by go_grown) ⟨rfl, rfl, rfl, Nat.le_refl _, fun _ _ => rfl⟩)⟩
          · skip
            have e : isCB 5 (3, a, b) = true := by unfold isCB l1InB prsI; simp; omega
            have g' : (b == 0) = true := by simp; omega
            have gz : decide (0 ≤ a) = true := decide_eq_true g0
            have gy : decide (a ≤ 10) = true := decide_eq_true g1
            go_enter Tryd.func144, Tryd.ntmps144
            go_wp2
            go_quiet (first | (go_at_call 168; refine Calls.quiet_of_same (((W5.out) _).mono fun _ _ ⟨he, hw⟩ => ⟨he, hw.symm⟩)))
            go_wp2
            go_end0
            exact .yes e (Below.trans (b := w.alloc _) (by go_grown) ⟨rfl, rfl, rfl, Nat.le_refl _, fun _ _ => rfl⟩)
  by_cases hk4 : k = 4
  · subst hk4
    by_cases g0 : 0 ≤ a
    rotate_left
    · have e : isCB n (4, a, b) = false := by unfold isCB l1InB; simp; omega
      go_enter Tryd.func144, Tryd.ntmps144
      go_wp2
      exact ⟨rfl, .no e (by go_grown)⟩
    · skip
      by_cases g1 : a ≤ 10
      rotate_left
      · have e : isCB n (4, a, b) = false := by unfold isCB l1InB; simp; omega
        go_enter Tryd.func144, Tryd.ntmps144
        go_wp2
        exact ⟨rfl, .no e (by go_grown)⟩
      · skip
        by_cases g2 : b = 0
        rotate_left
        · have e : isCB n (4, a, b) = false := by unfold isCB l1InB; simp; omega
          have g' : (b == 0) = false := by simp [g2]
          go_enter Tryd.func144, Tryd.ntmps144
          go_wp2
          exact ⟨rfl, .no e (by go_grown)⟩
        · skip
          have e : isCB n (4, a, b) = true := by unfold isCB l1InB; simp; omega
          have g' : (b == 0) = true := by simp; omega
          go_enter Tryd.func144, Tryd.ntmps144
          go_wp2
          go_end0
          exact .yes e (by go_grown)
  by_cases hk5 : k = 5
  · subst hk5
    by_cases g0 : 1 ≤ a
    rotate_left
    · have e : isCB n (5, a, b) = false := by unfold isCB l1InB; simp; omega
      go_enter Tryd.func144, Tryd.ntmps144
      go_wp2
      exact ⟨rfl, .no e (by go_grown)⟩
    · skip
      by_cases g1 : a ≤ n
      rotate_left
      · have e : isCB n (5, a, b) = false := by unfold isCB l1InB; simp; omega
        go_enter Tryd.func144, Tryd.ntmps144
        go_wp2
        exact ⟨rfl, .no e (by go_grown)⟩
      · skip
        by_cases g2 : b = 0
        rotate_left
        · have e : isCB n (5, a, b) = false := by unfold isCB l1InB; simp; omega
          have g' : (b == 0) = false := by simp [g2]
          go_enter Tryd.func144, Tryd.ntmps144
          go_wp2
          exact ⟨rfl, .no e (by go_grown)⟩
        · skip
          have e : isCB n (5, a, b) = true := by unfold isCB l1InB; simp; omega
          have g' : (b == 0) = true := by simp; omega
          go_enter Tryd.func144, Tryd.ntmps144
          go_wp2
          go_end0
          exact .yes e (by go_grown)
  have e : isCB n (k, a, b) = false := by unfold isCB; simp [hk0, hk1, hk2, hk3, hk4, hk5]
  go_enter Tryd.func144, Tryd.ntmps144
  go_wp2
  exact ⟨rfl, .no e (by go_grown)⟩
end Go.Proofs.YtefkcfkicmfhlaaDoor
/-
  WHAT A CLUE, A PUZZLE IS: the program's functions, by their contracts: 'areClues' recovers what 'requireClue' panics with.
-/
namespace Go.Proofs.YtefkcfkicmfhlaaDoor
open Go.RowKit



theorem assert_yes {P : Program} {w : World} {t xT : TypeId} {v : Value} {fs : Array Field} (hu : P.underlying t = some (.struct fs)) : (Instr.typeAssert (.iface t v) xT t true).run P w = .ok (.tuple #[v, .bool true]) w := by
  simp [Instr.typeAssert, run_underlying hu]
theorem assert_nil {P : Program} {w : World} {t xT : TypeId} {z : Value} {i : TypeInfo} {fs : Array Field} (hu : P.underlying t = some (.struct fs)) (hi : P.info? t = some i) (hz : i.zero = some z) : (Instr.typeAssert .nilIface xT t true).run P w = .ok (.tuple #[z, .bool false]) w := by
  simp [Instr.typeAssert, run_underlying hu, zeroValue, typeInfo, hi, hz]
section
variable {P : Program} {ops : Array Oper} {Q : Exit → Act → List Frame → World → Prop} {i : Nat} {rest : List Nat} {a : Act} {cs cs' : List Frame} {w w' : World} {o : Oper} {v : Value}
theorem opsS_recover (ho : ops[i]? = some o) (hw : Region.wanted o (yielded ops a.tmps) = true) (hr : (execOp a.eval o).run P w = .ok .recover w') (hc : recoverD cs = some (v, cs')) (h : wpOpsS P ops Q rest (a.put o.dst v) cs' w') : wpOpsS P ops Q (i :: rest) a cs w := by
  simp only [wpOpsS, ho, hw, if_true, hr, hc]
  exact h
theorem opsS_recover_none (ho : ops[i]? = some o) (hw : Region.wanted o (yielded ops a.tmps) = true) (hr : (execOp a.eval o).run P w = .ok .recover w') (hc : recoverD cs = none) (h : wpOpsS P ops Q rest (a.put o.dst .nilIface) cs w') : wpOpsS P ops Q (i :: rest) a cs w := by
  simp only [wpOpsS, ho, hw, if_true, hr, hc]
  exact h
/-- operations that do not recover are walked as everywhere -/
theorem opsS_of_list (hno : ¬ LetsOut (fun e a w => Q e a cs w)) (l : List Oper) : ∀ (k : Nat) (a : Act) (w : World), (∀ j, l[j]? = ops[k + j]?) → wpList P ops (fun e a w => Q e a cs w) l a w → wpOpsS P ops Q (List.range' k l.length) a cs w := by
  induction l with
  | nil => intro k a w _ h; exact h
  | cons o l ih =>
    intro k a w h hw
    have h0 : ops[k]? = some o := by simpa using (h 0).symm
    have ih' := ih (k + 1)
    have hj : ∀ j, l[j]? = ops[k + 1 + j]? := fun j => by have := h (j + 1); simpa [Nat.add_assoc, Nat.add_comm 1 j] using this
    simp only [List.length_cons, List.range'_succ, wpOpsS, h0]
    unfold wpList at hw
    by_cases hwn : Region.wanted o (yielded ops a.tmps) = true
    · simp only [hwn, if_true] at hw ⊢
      rcases hw with hw | ⟨_, hl⟩
      · have hw2 := Oper.wp_mono (fun a' w' hh => ih' a' w' hj hh) hw
        unfold Oper.wp at hw2
        split
        · rename_i w' hr
          rw [hr] at hw2
          exact hw2.elim
        · exact hw2
      · exact absurd hl hno
    · simp only [hwn, if_false, Bool.false_eq_true] at hw ⊢
      exact ih' _ _ hj hw
/-- a region whose first operation recovers -/
theorem regionS_recover {id : Nat} {l : List Oper} (hg : o.guard = none) (hr : (execOp a.eval o).run P w = .ok .recover w') (hc : recoverD cs = some (v, cs')) (hno : ¬ LetsOut (fun e a w => Q e a cs' w))
    (h : wpList P (o :: l).toArray (fun e a w => Q e a cs' w) l (a.put o.dst v) w') : (Code.region id (o :: l).toArray false).wpS P Q a cs w := by
  refine wpS_region ?_
  rw [List.size_toArray, List.length_cons, List.range_eq_range', List.range'_succ]
  refine opsS_recover (o := o) (by simp) (by simp only [Region.wanted, hg]) hr hc ?_
  exact opsS_of_list hno l (0 + 1) _ _ (fun j => by simp [Nat.add_comm]) h
theorem regionS_recover_none {id : Nat} {l : List Oper} (hg : o.guard = none) (hr : (execOp a.eval o).run P w = .ok .recover w') (hc : recoverD cs = none) (hno : ¬ LetsOut (fun e a w => Q e a cs w))
    (h : wpList P (o :: l).toArray (fun e a w => Q e a cs w) l (a.put o.dst .nilIface) w') : (Code.region id (o :: l).toArray false).wpS P Q a cs w := by
  refine wpS_region ?_
  rw [List.size_toArray, List.length_cons, List.range_eq_range', List.range'_succ]
  refine opsS_recover_none (o := o) (by simp) (by simp only [Region.wanted, hg]) hr hc ?_
  exact opsS_of_list hno l (0 + 1) _ _ (fun j => by simp [Nat.add_comm]) h
end

set_option maxHeartbeats 4000000 in
set_option maxRecDepth 100000 in
/-- THE DEFERRED CLOSURE in a frame that panics with a clue: recovered; the answer is false. -/
theorem catch_clue (b : Nat) (x : Bool) (y0 y1 y2 : Int) (older : List PanicEntry) (w : World) (hc : w.cell? ⟨b, 0, none⟩ = some (.bool x)) (hz : w.frozen? ⟨b, 0, none⟩ = false) (hp : b < w.heap.size) :
    CallsD Tryd.prog 143 #[.pointer (some ⟨b, 0, none⟩)] (.panicking ({ v := .iface 30 (.agg #[.int .i64 y0, .int .i64 y1, .int .i64 y2]), recovered := false } :: older)) w fun e u' w' => e = .returned (.tuple #[]) ∧ u' = .panicking ({ v := .iface 30 (.agg #[.int .i64 y0, .int .i64 y1, .int .i64 y2]), recovered := true } :: older) ∧ w' = (w.alloc (Obj.cells #[.int .i64 y0, .int .i64 y1, .int .i64 y2] 30)).setCell ⟨b, 0, none⟩ (.bool false) := by
  have ha := fun (X : World) (xT : TypeId) => assert_yes (P := Tryd.prog) (w := X) (xT := xT) (v := .agg #[.int .i64 y0, .int .i64 y1, .int .i64 y2]) Tryd.underlying30
  refine callsD_of_wpS Tryd.func143 rfl fun c₀ cs hu => ?_
  apply wpS_seq
  simp only [Tryd.ntmps143, List.size_toArray, List.length_cons, List.length_nil, Nat.reduceAdd, Nat.reduceSub, Array.replicate_succ, Array.replicate_zero, List.push_toArray, List.append_toArray, List.nil_append, List.cons_append]
  refine regionS_recover (v := .iface 30 (.agg #[.int .i64 y0, .int .i64 y1, .int .i64 y2])) (cs' := { c₀ with mode := .panicking ({ v := .iface 30 (.agg #[.int .i64 y0, .int .i64 y1, .int .i64 y2]), recovered := true } :: older) } :: cs) (w' := w) ?hg ?hr ?hc ?hno ?hrest
  case hg => exact rfl
  case hr => simp [go_sem]
  case hc => simp [recoverD, hu]
  case hno =>
    rintro ⟨a, w, u', h, _⟩
    cases h
  case hrest =>
    simp only [Act.put]
    have c1 : (w.alloc (Obj.cells #[.int .i64 y0, .int .i64 y1, .int .i64 y2] 30)).cell? ⟨b, 0, none⟩ = some (.bool x) := (World.cell?_alloc_lt _ _ _ hp).trans hc
    have z1 : (w.alloc (Obj.cells #[.int .i64 y0, .int .i64 y1, .int .i64 y2] 30)).frozen? ⟨b, 0, none⟩ = false := (World.frozen?_alloc_old w _ ⟨b, 0, none⟩ (by show b ≠ w.heap.size; omega)).trans hz
    clear hu hp hc hz
    go_wp2
    refine wpS_of_wp ?_
    go_wp2
    exact ⟨rfl, _, rfl, .tuple #[], by simp [results, Tryd.results143, go_sem], rfl, rfl, rfl⟩

set_option maxHeartbeats 4000000 in
set_option maxRecDepth 100000 in
/-- in a frame that returns: nothing is recovered; the answer is true. -/
theorem catch_none (b : Nat) (x : Bool) (w : World) (hc : w.cell? ⟨b, 0, none⟩ = some (.bool x)) (hz : w.frozen? ⟨b, 0, none⟩ = false) (hp : b < w.heap.size) :
    CallsD Tryd.prog 143 #[.pointer (some ⟨b, 0, none⟩)] .returning w fun e u' w' => e = .returned (.tuple #[]) ∧ u' = .returning ∧ w' = (w.alloc (Obj.cells #[.int .i64 0, .int .i64 0, .int .i64 0] 30)).setCell ⟨b, 0, none⟩ (.bool true) := by
  obtain ⟨i0, hi, hz0, _, _⟩ := info_parts Tryd.infoClue
  have ha := fun (X : World) (xT : TypeId) => assert_nil (P := Tryd.prog) (w := X) (xT := xT) Tryd.underlying30 hi hz0
  refine callsD_of_wpS Tryd.func143 rfl fun c₀ cs hu => ?_
  apply wpS_seq
  simp only [Tryd.ntmps143, List.size_toArray, List.length_cons, List.length_nil, Nat.reduceAdd, Nat.reduceSub, Array.replicate_succ, Array.replicate_zero, List.push_toArray, List.append_toArray, List.nil_append, List.cons_append]
  refine regionS_recover_none (w' := w) ?hg ?hr ?hc ?hno ?hrest
  case hg => exact rfl
  case hr => simp [go_sem]
  case hc => simp [recoverD, hu]
  case hno =>
    rintro ⟨a, w, u', h, _⟩
    cases h
  case hrest =>
    simp only [Act.put]
    have c1 : (w.alloc (Obj.cells #[.int .i64 0, .int .i64 0, .int .i64 0] 30)).cell? ⟨b, 0, none⟩ = some (.bool x) := (World.cell?_alloc_lt _ _ _ hp).trans hc
    have z1 : (w.alloc (Obj.cells #[.int .i64 0, .int .i64 0, .int .i64 0] 30)).frozen? ⟨b, 0, none⟩ = false := (World.frozen?_alloc_old w _ ⟨b, 0, none⟩ (by show b ≠ w.heap.size; omega)).trans hz
    have Hu := Lib.hid hu
    clear hu hp hc hz
    go_wp2
    refine wpS_of_wp ?_
    go_wp2
    refine ⟨rfl, .returning, ?_, .tuple #[], by simp [results, Tryd.results143, go_sem], rfl, rfl, rfl⟩
    have h := Hu.out
    cases c₀
    simp only at h
    subst h
    rfl

set_option maxHeartbeats 4000000 in
set_option maxRecDepth 100000 in
theorem areClues_any (n : Int) (l : CL) (A : Option Addr) (c : Nat) (w : World) (h1 : 1 ≤ n) (h5 : n ≤ 5) (hl : l.length ≤ 1048576) (hA : CRead w w.heap.size A (ccells l)) :
    Calls Tryd.prog 111 #[.int .i64 n, .slice A l.length c] w fun e w' => e = .returned (.bool (l.all (isCB n))) ∧ Below w.heap.size w w' := by
  have hmf : ∀ (fn : Fn) (first cap : Array Value) (w : World), (Instr.makeFunc fn first cap).run Tryd.prog w = .ok (.func fn first cap) w := fun _ _ _ _ => rfl
  obtain ⟨r, hr⟩ : ∃ r, l.all (isCB n) = r := ⟨_, rfl⟩
  rw [hr]
  have Hr := Lib.hid hr
  clear hr
  generalize hn : l.length = m at *
  have Hn := Lib.hid hn
  clear hn
  go_enter_defers Tryd.func111, Tryd.ntmps111
  go_wp2
  go_loopw [10] (fun i wr => ∃ k : Nat, k ≤ m ∧ i = .int .i64 k ∧ (l.take k).all (isCB n) = true ∧ Below (w.heap.size + 1) (w.alloc (Obj.cells #[.bool false] 4)) wr) (fun i _ => m - (intOf i).toNat)
  case atStart => exact ⟨0, Nat.zero_le _, rfl, rfl, Below.refl _ _⟩
  case round =>
    obtain ⟨k, hk, rfl, hgood, hb⟩ := hrel
    have Hgood := Lib.hid hgood
    clear hgood
    have hs := hb.size
    simp only [World.size_alloc] at hs
    have hbw : Below w.heap.size w wr := Below.trans (b := _) (by go_grown) (hb.mono (by omega))
    have u0 : wr.cell? ⟨w.heap.size, 0, none⟩ = some (.bool false) := (hb.cell (p := ⟨w.heap.size, 0, none⟩) (by simp)).trans (by simp)
    have f0 : wr.frozen? ⟨w.heap.size, 0, none⟩ = false := (hb.frozen (p := ⟨w.heap.size, 0, none⟩) (by simp)).trans (by simp)
    by_cases hlt : k < m
    · obtain ⟨⟨x, y, z⟩, hx⟩ := getSome l k (by rw [Hn.out]; exact hlt)
      obtain ⟨b, off, rfl, hbb, c0, c1, c2⟩ := (hA.below hbw (Nat.le_refl _)).clue hx
      have hki : (k : Int) < (m : Int) := by omega
      have Hx := Lib.hid hx
      clear hx
      go_wp2_with fail
      refine (requireClue_any n x y z h1 h5 _).mono ?_
      rintro e w2 ⟨he, hb2⟩
      simp only [World.size_alloc] at hb2
      have hb3 : Below wr.heap.size wr w2 := Below.trans (b := _) (by go_grown) (hb2.mono (by omega))
      have hb4 := hb.trans (hb3.mono (by omega))
      have hb5 := hbw.trans (hb3.mono (by omega))
      have u2 := carry hb3 u0 (by omega)
      have f2 := (hb3.frozen (p := ⟨w.heap.size, 0, none⟩) (by show w.heap.size < wr.heap.size; omega)).trans f0
      have hs3 := hb3.size
      clear c0 c1 c2 u0 f0 hb2
      cases hq : isCB n (x, y, z) with
      | false =>
        have hall : r = false := by
          rw [← Hr.out, List.all_eq_false]
          exact ⟨_, List.mem_of_getElem? Hx.out, by simp [hq]⟩
        rw [hq, if_neg (by simp)] at he
        subst he hall
        refine leaves_cons (f := 143) (args := #[.pointer (some ⟨w.heap.size, 0, none⟩)]) (by simp) (by simp [go_sem]) ?_
        refine (catch_clue w.heap.size false x y z [] w2 u2 f2 (by omega)).mono ?_
        rintro e u' w'' ⟨rfl, rfl, rfl⟩
        have c3 : ((w2.alloc (Obj.cells #[.int .i64 x, .int .i64 y, .int .i64 z] 30)).setCell ⟨w.heap.size, 0, none⟩ (.bool false)).cell? ⟨w.heap.size, 0, none⟩ = some (.bool false) := by
          refine World.cell?_setCell_same' _ _ _ ?_
          rw [(World.cell?_alloc_lt _ _ _ (by show w.heap.size < w2.heap.size; omega)).trans u2]; rfl
        refine ⟨.bool false, by simp [results, Tryd.results111, go_sem, c3], rfl, (hb5.alloc (by omega) _).setCell (p := ⟨w.heap.size, 0, none⟩) (Nat.le_refl _) _⟩
      | true =>
        rw [hq, if_pos rfl] at he
        subst he
        go_wp2
        go_roundw
        case rel =>
          refine ⟨k + 1, by omega, by go_num, ?_, hb4⟩
          rw [List.take_add_one, Hx.out, List.all_append, Hgood.out]
          simp [hq]
        case measure => simp [intOf]; omega
    · have hkl : k = m := by omega
      have hall : r = true := by
        have e := Hgood.out
        rw [hkl, List.take_of_length_le (by rw [Hn.out]; exact Nat.le_refl _), Hr.out] at e
        exact e
      subst hkl hall
      have hge : ¬ ((k : Int) < k) := by omega
      have u1 : (wr.setCell ⟨w.heap.size, 0, none⟩ (.bool true)).cell? ⟨w.heap.size, 0, none⟩ = some (.bool true) := World.cell?_setCell_same' _ _ _ (by rw [u0]; rfl)
      have f1 : (wr.setCell ⟨w.heap.size, 0, none⟩ (.bool true)).frozen? ⟨w.heap.size, 0, none⟩ = false := (World.frozen?_setCell _ _ _ _).trans f0
      have U1 := Lib.hid u1
      have F1 := Lib.hid f1
      clear u1 f1
      go_wp2
      refine leaves_cons (f := 143) (args := #[.pointer (some ⟨w.heap.size, 0, none⟩)]) (by simp) (by simp [go_sem]) ?_
      refine (catch_none w.heap.size true _ U1.out F1.out (by simp; omega)).mono ?_
      rintro e u' w'' ⟨rfl, rfl, rfl⟩
      have c3 : (((wr.setCell ⟨w.heap.size, 0, none⟩ (.bool true)).alloc (Obj.cells #[.int .i64 0, .int .i64 0, .int .i64 0] 30)).setCell ⟨w.heap.size, 0, none⟩ (.bool true)).cell? ⟨w.heap.size, 0, none⟩ = some (.bool true) := by
        refine World.cell?_setCell_same' _ _ _ ?_
        rw [(World.cell?_alloc_lt _ _ _ (by simp; omega)).trans U1.out]; rfl
      refine ⟨.bool true, by simp [results, Tryd.results111, go_sem, c3], rfl, ?_⟩
      exact ((hbw.setCell (p := ⟨w.heap.size, 0, none⟩) (Nat.le_refl _) _).alloc (by simp; omega) _).setCell (p := ⟨w.heap.size, 0, none⟩) (Nat.le_refl _) _
set_option maxHeartbeats 1000000 in
set_option maxRecDepth 100000 in
theorem implIsClue_any (n k a b : Int) (w : World) :
    Calls Tryd.prog 69 #[.int .i64 n, .agg #[.int .i64 k, .int .i64 a, .int .i64 b]] w fun e w' => e = .returned (.bool (resIsClue n k a b)) ∧ Below w.heap.size w w' := by
  cases hg : isGuests n with
  | false =>
    rw [show resIsClue n k a b = false from by unfold resIsClue; rw [hg]; rfl]
    have Hg := Lib.hid hg
    clear hg
    go_enter Tryd.func69, Tryd.ntmps69
    go_wp2_with (go_at_call 99; refine (areGuests_any _ _).mono ?_; rw [Hg.out]; rintro e w' ⟨rfl, rfl⟩)
    go_ret
    exact ⟨rfl, by go_grown⟩
  | true =>
    have hp : 1 ≤ n ∧ n ≤ 5 := by simpa [isGuests, l1InB] using hg
    rw [show resIsClue n k a b = isCB n (k, a, b) from by unfold resIsClue; rw [hg]; rfl]
    have Hg := Lib.hid hg
    have call := fun (X : World) (A : Option Addr) (c : Nat) (hA : CRead X X.heap.size A (ccells [(k, a, b)])) => areClues_any n [(k, a, b)] A c X hp.1 hp.2 (by simp) hA
    simp only [List.all_cons, List.all_nil, Bool.and_true, List.length_cons, List.length_nil, Nat.zero_add] at call
    have Call := Lib.hid call
    clear hg call
    go_enter Tryd.func69, Tryd.ntmps69
    go_wp2_with (go_at_call 99; refine (areGuests_any _ _).mono ?_; rw [Hg.out]; rintro e w' ⟨rfl, rfl⟩)
    refine (Call.out _ _ _ ?_).mono ?_
    · intro j u hu
      refine ⟨w.heap.size + 1, 0, rfl, by simp, ?_⟩
      match j with
      | 0 => simp [ccells] at hu; subst hu; simp
      | 1 => simp [ccells] at hu; subst hu; simp
      | 2 => simp [ccells] at hu; subst hu; simp
      | j + 3 => simp [ccells] at hu
    rintro e w2 ⟨rfl, hb2⟩
    simp only [World.size_alloc] at hb2
    go_wp2
    go_ret
    exact ⟨rfl, Below.trans (b := _) (by go_grown) (hb2.mono (by omega))⟩
set_option maxHeartbeats 1000000 in
set_option maxRecDepth 100000 in
theorem isPuzzle_any (p : Int) (l : CL) (A : Option Addr) (c : Nat) (w : World) (hl : l.length ≤ 1048576) (hA : CRead w w.heap.size A (ccells l)) :
    Calls Tryd.prog 75 #[.agg #[.int .i64 p, .slice A l.length c]] w fun e w' => e = .returned (.bool (isU p l)) ∧ Below w.heap.size w w' := by
  cases hg : isGuests p with
  | false =>
    rw [show isU p l = false from by unfold isU; rw [hg]; rfl]
    have Hg := Lib.hid hg
    clear hg
    go_enter Tryd.func75, Tryd.ntmps75
    go_wp2_with (go_at_call 99; refine (areGuests_any _ _).mono ?_; rw [Hg.out]; rintro e w' ⟨rfl, rfl⟩)
    go_ret
    exact ⟨rfl, by go_grown⟩
  | true =>
    have hp : 1 ≤ p ∧ p ≤ 5 := by simpa [isGuests, l1InB] using hg
    obtain ⟨h1, h5⟩ := hp
    have Hg := Lib.hid hg
    by_cases h8 : (l.length : Int) ≤ 8
    · have he : isU p l = l.all (isCB p) := by unfold isU; rw [hg, show decide (l.length ≤ 8) = true from decide_eq_true (by omega)]; simp
      rw [he]
      clear hg he
      have hd : decide ((l.length : Int) ≤ 8) = true := decide_eq_true h8
      go_enter Tryd.func75, Tryd.ntmps75
      go_wp2_with (go_at_call 99; refine (areGuests_any _ _).mono ?_; rw [Hg.out]; rintro e w' ⟨rfl, rfl⟩)
      refine (areClues_any p l A c _ h1 h5 hl ((hA.below (B' := w.heap.size) (by go_grown) (Nat.le_refl _)).more (by go_size))).mono ?_
      rintro e w2 ⟨rfl, hb2⟩
      simp only [World.size_alloc] at hb2
      go_wp2
      go_ret
      exact ⟨rfl, Below.trans (b := _) (by go_grown) (hb2.mono (by omega))⟩
    · rw [show isU p l = false from by unfold isU; rw [show decide (l.length ≤ 8) = false from decide_eq_false (by omega)]; simp]
      clear hg
      have hd : decide ((l.length : Int) ≤ 8) = false := decide_eq_false h8
      go_enter Tryd.func75, Tryd.ntmps75
      go_wp2_with (go_at_call 99; refine (areGuests_any _ _).mono ?_; rw [Hg.out]; rintro e w' ⟨rfl, rfl⟩)
      go_ret
      exact ⟨rfl, by go_grown⟩
theorem implIsPuzzle_any (p : Int) (l : CL) (A : Option Addr) (c : Nat) (w : World) (hl : l.length ≤ 1048576) (hA : CRead w w.heap.size A (ccells l)) :
    Calls Tryd.prog 75 #[.agg #[.int .i64 p, .slice A l.length c]] w fun e w' => e = .returned (.bool (resIsPuzzle p l)) ∧ Below w.heap.size w w' := isPuzzle_any p l A c w hl hA
end Go.Proofs.YtefkcfkicmfhlaaDoor
/-
  'PartyText': the program's function.
-/
namespace Go.Proofs.YtefkcfkicmfhlaaDoor
open Go.RowKit

theorem Tryd.infoText : (Tryd.prog.info? 9).map (fun i => (i.zero, i.size, i.bytes)) = some (some (.string ⟨#[]⟩), 1, 16) := by kernel_rfl
/-- the texts laid so far, and those still empty -/
def tcellsT (l : PL) (j : Nat) : List Value := (l.take j).map (fun q => Value.string (pieceT q)) ++ List.replicate (l.length - j) (.string ⟨#[]⟩)
theorem tcellsT_len (l : PL) {j : Nat} (h : j ≤ l.length) : (tcellsT l j).length = l.length := by
  unfold tcellsT
  rw [List.length_append, List.length_map, List.length_take, List.length_replicate]; omega
theorem tcellsT_set {l : PL} {j : Nat} {q : Int × Int} (h : l[j]? = some q) : (tcellsT l j).set j (.string (pieceT q)) = tcellsT l (j + 1) := by
  have hj : j < l.length := (List.getElem?_eq_some_iff.1 h).1
  unfold tcellsT
  rw [List.set_append_right _ _ (by simp; omega), show j - ((l.take j).map (fun q => Value.string (pieceT q))).length = 0 from by simp; omega, show l.length - j = (l.length - (j + 1)) + 1 by omega, List.replicate_succ, List.set_cons_zero, List.take_add_one, h, List.map_append, List.append_assoc]
  rfl
theorem tcellsT_at {l : PL} {j : Nat} (h : j < l.length) : (tcellsT l j)[j]? = some (.string ⟨#[]⟩) := by
  unfold tcellsT
  rw [List.getElem?_append_right (by simp; omega)]
  simp only [List.length_map, List.length_take, Nat.min_eq_left (Nat.le_of_lt h), Nat.sub_self]
  rw [List.getElem?_replicate, if_pos (by omega)]
theorem tcellsT_all (l : PL) : tcellsT l l.length = l.map fun q => Value.string (pieceT q) := by
  unfold tcellsT
  rw [List.take_length, Nat.sub_self, List.replicate_zero, List.append_nil]
end Go.Proofs.YtefkcfkicmfhlaaDoor
/-
  'PuzzleText': the program's function.
-/
namespace Go.Proofs.YtefkcfkicmfhlaaDoor
open Go.RowKit

/-- the texts laid so far, and those still empty -/
def tcellsU (l : CL) (j : Nat) : List Value := (l.take j).map (fun q => Value.string (pieceU q)) ++ List.replicate (l.length - j) (.string ⟨#[]⟩)
theorem tcellsU_len (l : CL) {j : Nat} (h : j ≤ l.length) : (tcellsU l j).length = l.length := by
  unfold tcellsU
  rw [List.length_append, List.length_map, List.length_take, List.length_replicate]; omega
theorem tcellsU_set {l : CL} {j : Nat} {q : CT} (h : l[j]? = some q) : (tcellsU l j).set j (.string (pieceU q)) = tcellsU l (j + 1) := by
  have hj : j < l.length := (List.getElem?_eq_some_iff.1 h).1
  unfold tcellsU
  rw [List.set_append_right _ _ (by simp; omega), show j - ((l.take j).map (fun q => Value.string (pieceU q))).length = 0 from by simp; omega, show l.length - j = (l.length - (j + 1)) + 1 by omega, List.replicate_succ, List.set_cons_zero, List.take_add_one, h, List.map_append, List.append_assoc]
  rfl
theorem tcellsU_at {l : CL} {j : Nat} (h : j < l.length) : (tcellsU l j)[j]? = some (.string ⟨#[]⟩) := by
  unfold tcellsU
  rw [List.getElem?_append_right (by simp; omega)]
  simp only [List.length_map, List.length_take, Nat.min_eq_left (Nat.le_of_lt h), Nat.sub_self]
  rw [List.getElem?_replicate, if_pos (by omega)]
theorem tcellsU_all (l : CL) : tcellsU l l.length = l.map fun q => Value.string (pieceU q) := by
  unfold tcellsU
  rw [List.take_length, Nat.sub_self, List.replicate_zero, List.append_nil]
set_option maxHeartbeats 4000000 in
set_option maxRecDepth 100000 in
theorem implPuzzleText_any (p : Int) (l : CL) (A : Option Addr) (c : Nat) (w : World) (hl : l.length ≤ 1048576) (hA : CRead w w.heap.size A (ccells l)) :
    Calls Tryd.prog 59 #[.agg #[.int .i64 p, .slice A l.length c]] w fun e w' => e = .returned (.tuple #[.string (resPuzzleText p l).1, .bool (resPuzzleText p l).2]) ∧ Below w.heap.size w w' := by
  have RA : CRead (w.alloc (Obj.cells #[.int .i64 p, .slice A l.length c] 47)) (w.alloc (Obj.cells #[.int .i64 p, .slice A l.length c] 47)).heap.size A (ccells l) := (hA.below (B' := w.heap.size) (by go_grown) (Nat.le_refl _)).more (by go_size)
  cases hp : isU p l with
  | false =>
    have e : resPuzzleText p l = (⟨#[]⟩, false) := by simp [resPuzzleText, hp]
    rw [e]
    have Hp := Lib.hid hp
    clear hp e
    go_enter Tryd.func59, Tryd.ntmps59
    go_wp2_with fail
    refine (isPuzzle_any _ _ _ _ _ hl RA).mono ?_
    rw [Hp.out]
    rintro e w2 ⟨rfl, hb2⟩
    simp only [World.size_alloc] at hb2
    go_wp2
    go_ret2
    exact ⟨rfl, Below.trans (b := _) (by go_grown) (hb2.mono (by omega))⟩
  | true =>
    have e : resPuzzleText p l = (textU p l, true) := by simp [resPuzzleText, hp]
    rw [e]
    obtain ⟨i0, hi, hz0, hz1, hz2⟩ := info_parts Tryd.infoText
    have hparts := isU_parts hp
    have hnums := isU_nums hp
    have hpc := pieceU_size hp
    have hat : ∀ (i : Nat) (x y z : Int), l[i]? = some (x, y, z) → 0 ≤ x ∧ x ≤ 19 ∧ 0 ≤ y ∧ y ≤ 19 ∧ 0 ≤ z ∧ z ≤ 19 := fun i x y z h => by
      have := hnums (x, y, z) (List.mem_of_getElem? h)
      simp only at this
      omega
    have hd := dgs_size (x := p) (by omega) (by omega)
    obtain ⟨F, hF⟩ : ∃ F, textU p l = F := ⟨_, rfl⟩
    have hjs := joinU_size l hpc
    have hjs2 : (joinU l).size = (Lib.join (l.map fun q => (pieceU q).data.toList) [44]).length := rfl
    rw [← hjs2] at hjs
    rw [hF]
    have HF := Lib.hid hF
    have Hat := Lib.hid hat
    have Hpc := Lib.hid hpc
    have Hp := Lib.hid hp
    have h0 : 0 ≤ p := by omega
    have h12 : p ≤ 12 := by omega
    have h58 : (ByteArray.mk #[58]).size = 1 := rfl
    have h46 : (ByteArray.mk #[46]).size = 1 := rfl
    clear hp e hF hat hpc hparts hnums hjs2
    go_enter Tryd.func59, Tryd.ntmps59
    go_wp2_with fail
    refine (isPuzzle_any _ _ _ _ _ hl RA).mono ?_
    rw [Hp.out]
    rintro e w2 ⟨rfl, hb2⟩
    have k2 : Below w.heap.size w w2 := Below.trans (b := _) (by go_grown) (hb2.mono (by simp))
    have c0 : w2.cell? ⟨w.heap.size, 0, none⟩ = some (.int .i64 p) := carry hb2 (by simp) (by simp)
    have c1 : w2.cell? ⟨w.heap.size, 1, none⟩ = some (.slice A l.length c) := carry hb2 (by simp) (by simp)
    have sP : w.heap.size < w2.heap.size := by have := hb2.size; simp at this; omega
    clear hb2
    go_wp2_with (at_make; refine wpList_make_full _ rfl _ _ 118 rfl w2.heap.size 9 i0 _ 1 Tryd.underlying118 hi hz0 hz1 _ _ _ _ l.length rfl rfl (by omega) (by omega) (by rw [hz2]; omega) (by unfold maxLen; omega) (Nat.le_refl _) ?_; intro w3 hown3 hgr3; have hb3 := below_of_gb hgr3 (Nat.le_refl _); have d0 := carry hb3 c0 sP; have d1 := carry hb3 c1 sP; clear c0 c1 hgr3)
    have own0 : w3.ownsRow w2.heap.size 9 1 (.slice (some ⟨w2.heap.size, 0, none⟩) l.length l.length) l.length (tcellsU l 0) := by
      have h := hown3
      rw [show Value.cells (.string ⟨#[]⟩) = #[.string ⟨#[]⟩] from rfl, Nat.mul_one, toList_madeCells_one] at h
      exact h
    have D0 := Lib.hid d0
    have D1 := Lib.hid d1
    have k3 := k2.trans (hb3.mono k2.size)
    obtain ⟨G, hG⟩ : ∃ G, w2.heap.size = G := ⟨_, rfl⟩
    rw [hG] at own0 sP
    rw [hG]
    have Own1 := Lib.hid own0
    have hsG : G < w3.heap.size := (own_lies own0 G rfl).2
    clear own0 hown3 d0 d1 hb3 hG
    go_loopw [17] (fun i wr => ∃ j : Nat, j ≤ l.length ∧ i = .int .i64 j ∧ wr.ownsRow G 9 1 (.slice (some ⟨G, 0, none⟩) l.length l.length) l.length (tcellsU l j) ∧ Below G w3 wr) (fun i _ => l.length - (intOf i).toNat)
    case atStart => exact ⟨0, Nat.zero_le _, rfl, Own1.out, Below.refl _ _⟩
    case round =>
      clear Own1
      obtain ⟨j, hj, rfl, own, hb⟩ := hrel
      have kX := k3.trans (hb.mono (by omega))
      by_cases hlt : j < l.length
      · obtain ⟨⟨x, y, z⟩, hy⟩ := getSome l j hlt
        obtain ⟨bb, off, rfl, hbb, c0, c1, c2⟩ := (hA.below kX (Nat.le_refl _)).clue hy
        obtain ⟨hx0, hx1, hy0, hy1, hz0', hz1'⟩ := Hat.out j x y z hy
        have hji : (j : Int) < (l.length : Int) := by omega
        have dx := dgs_size hx0 hx1
        have dy := dgs_size hy0 hy1
        have dz := dgs_size hz0' hz1'
        have ad1 := fun X => run_string_add_sum (P := Tryd.prog) X (dgs x) ⟨#[46]⟩ (by omega)
        have ad2 := fun X => run_string_add_sum (P := Tryd.prog) X (dgs x ++ ⟨#[46]⟩) (dgs y) (by rw [ByteArray.size_append]; omega)
        have ad4 := fun X => run_string_add_sum (P := Tryd.prog) X (dgs x ++ ⟨#[46]⟩ ++ dgs y) ⟨#[46]⟩ (by simp only [ByteArray.size_append]; omega)
        have ad5 := fun X => run_string_add_sum (P := Tryd.prog) X (dgs x ++ ⟨#[46]⟩ ++ dgs y ++ ⟨#[46]⟩) (dgs z) (by simp only [ByteArray.size_append]; omega)
        obtain ⟨Q, hQ⟩ : ∃ Q, dgs x ++ (⟨#[46]⟩ : ByteArray) ++ dgs y ++ (⟨#[46]⟩ : ByteArray) ++ dgs z = Q := ⟨_, rfl⟩
        have hQ' : pieceU (x, y, z) = Q := hQ
        rw [hQ] at ad5
        have hset := tcellsU_set hy
        rw [hQ'] at hset
        obtain ⟨W, hW⟩ : ∃ W, wr.alloc (Obj.cells #[.int .i64 x, .int .i64 y, .int .i64 z] 30) = W := ⟨_, rfl⟩
        have bW0 : Below wr.heap.size wr W := by rw [← hW]; go_grown
        have sW : wr.heap.size < W.heap.size := by rw [← hW]; simp
        have q0 : W.cell? ⟨wr.heap.size, 0, none⟩ = some (.int .i64 x) := by rw [← hW]; simp
        have q1 : W.cell? ⟨wr.heap.size, 1, none⟩ = some (.int .i64 y) := by rw [← hW]; simp
        have q2 : W.cell? ⟨wr.heap.size, 2, none⟩ = some (.int .i64 z) := by rw [← hW]; simp
        have sGr : G < wr.heap.size := by have := hb.size; omega
        have bW : Below G w3 W := hb.trans (bW0.mono (by omega))
        have ownW := own_below own bW0 (Nat.le_refl _)
        have fz := ownW.frozenAt j
        have ce := ownW.cellAt j (by omega)
        rw [tcellsU_at hlt] at ce
        have own2 := (ownW.stored j (.string Q)).1
        rw [hset] at own2
        have bb2 := bW.setCell (p := ⟨G, j, none⟩) (Nat.le_refl _) (.string Q)
        have Own2 := Lib.hid own2
        have Bb2 := Lib.hid bb2
        have HW := Lib.hid hW
        clear hy hset hQ hQ' own ownW own2 bb2 bW bW0 hb hW
        go_wp2_with fail
        rw [HW.out]
        refine wp_region_still_tail 16 (by kernel_rfl) (by kernel_rfl) ?_
        simp only [List.take_succ_cons, List.take_zero, List.drop_succ_cons, List.drop_zero]
        still_step
        still_step
        still_step
        still_step
        still_call (dec_any x hx0 hx1 _)
        still_step
        still_step
        still_step
        still_call (dec_any y hy0 hy1 _)
        still_step
        still_step
        still_step
        still_step
        still_call (dec_any z hz0' hz1' _)
        still_step
        still_step
        refine wpStill_nil ?_
        change wpList _ _ _ _ _ (World.drew _)
        go_wp2
        go_roundw
        case rel => exact ⟨j + 1, by omega, by go_num, Own2.out, ⟨Bb2.out.os, Bb2.out.tape, Bb2.out.output, Bb2.out.size, Bb2.out.block⟩⟩
        case measure => simp [intOf]; omega
      · have hjl : j = l.length := by omega
        subst hjl
        have hge : ¬ ((l.length : Int) < (l.length : Int)) := by omega
        have e0 := carry hb D0.out sP
        have call := joinU_any l G l.length wr hl Hpc.out (fun j q h => by
          have hj := (List.getElem?_eq_some_iff.1 h).1
          rw [own.cellAt j (by omega), tcellsU_all, List.getElem?_map, h]; rfl) (by have := hb.size; omega) (Nat.le_refl _)
        have hF : dgs p ++ ⟨#[58]⟩ ++ joinU l = F := HF.out
        have ad1 := fun X => run_string_add_sum (P := Tryd.prog) X (dgs p) ⟨#[58]⟩ (by omega)
        have ad2 := fun X => run_string_add_sum (P := Tryd.prog) X (dgs p ++ ⟨#[58]⟩) (joinU l) (by rw [ByteArray.size_append]; omega)
        rw [hF] at ad2
        have Call := Lib.hid call
        clear own call hF
        go_wp2_with (first
          | (go_at_call 103; refine (dec_any p (by omega) (by omega) _).mono ?_; rintro e w4 ⟨rfl, rfl⟩)
          | (go_at_call 104; refine Call.out.mono ?_; rintro e w5 ⟨rfl, hb5⟩))
        go_ret2
        exact ⟨rfl, kX.trans (hb5.mono kX.size)⟩
end Go.Proofs.YtefkcfkicmfhlaaDoor
/-
  'laws.FnExactPuzzleText' returns true, whatever its arguments: out of the contracts of the model's function and of the program's.
-/
namespace Go.Proofs.YtefkcfkicmfhlaaDoor
open Go.RowKit

set_option maxHeartbeats 4000000 in
set_option maxRecDepth 100000 in
theorem lawPuzzleText_any (p0 : Int) (l0 : CL) (A0 : Option Addr) (c0 : Nat) (W : World) (hl0 : l0.length ≤ maxLen) (hA0 : CRead W W.heap.size A0 (ccells l0)) :
    Calls Tryd.prog 14 #[.agg #[.int .i64 p0, .slice A0 l0.length c0]] W fun e w' => e = .returned (.bool true) ∧ Below W.heap.size W w' := by
  have hone : (0 : Int) ≤ 1 ∧ (1 : Int) ≤ 16777216 := by omega
  by_cases hz0 : szI (1048576) l0.length < 0
  · go_enter Tryd.func14, Tryd.ntmps14
    go_wp2_with fail
    refine (szPuzzle_any _ _ _ _ _ hl0 (by omega) (by omega) _).mono ?_
    rintro e w1 ⟨rfl, hb1⟩
    simp only [World.size_alloc] at hb1
    have g1 : Below W.heap.size W w1 := Below.trans (b := _) (by go_grown) (hb1.mono (by omega))
    have s1 := hb1.size
    simp only [World.size_alloc] at s1
    have f1_0 : w1.cell? ⟨W.heap.size, 0, none⟩ = some (.int .i64 p0) := carry hb1 (by simp) (by omega)
    have f1_1 : w1.cell? ⟨W.heap.size, 1, none⟩ = some (.slice A0 l0.length c0) := carry hb1 (by simp) (by omega)
    have k1 : Below W.heap.size W w1 := g1
    go_wp2
    go_ret
    exact ⟨rfl, k1⟩
  have hn0 : l0.length ≤ 1048576 := by have h1 := szI_len _ _ hz0; have h2 := szI_hi (1048576) l0.length (by omega); omega
  have hz0' : 0 ≤ szI (1048576) l0.length := by omega
  have hz0'' : szI (1048576) l0.length ≤ 1048576 := by have h2 := szI_hi (1048576) l0.length (by omega); omega
  obtain ⟨⟨rb, rok⟩, hres⟩ : ∃ r, resPuzzleText p0 l0 = r := ⟨_, rfl⟩
  have Hres := Lib.hid hres
  clear hres
  go_enter Tryd.func14, Tryd.ntmps14
  go_wp2_with fail
  refine (szPuzzle_any _ _ _ _ _ hl0 (by omega) (by omega) _).mono ?_
  rintro e w1 ⟨rfl, hb1⟩
  simp only [World.size_alloc] at hb1
  have g1 : Below W.heap.size W w1 := Below.trans (b := _) (by go_grown) (hb1.mono (by omega))
  have s1 := hb1.size
  simp only [World.size_alloc] at s1
  have f1_0 : w1.cell? ⟨W.heap.size, 0, none⟩ = some (.int .i64 p0) := carry hb1 (by simp) (by omega)
  have f1_1 : w1.cell? ⟨W.heap.size, 1, none⟩ = some (.slice A0 l0.length c0) := carry hb1 (by simp) (by omega)
  have k1 : Below W.heap.size W w1 := g1
  go_wp2_with fail
  refine (toPuzzle_any p0 l0 A0 c0 _ hn0 ((hA0.below k1 (Nat.le_refl _)).more k1.size)).mono ?_
  rintro e w2 ⟨T2, d2, rfl, n2, hb2⟩
  have g2 : Below w1.heap.size w1 w2 := hb2
  have s2 := hb2.size
  have f2_0 := carry g2 f1_0 (by omega)
  have f2_1 := carry g2 f1_1 (by omega)
  have k2 := k1.trans (g2.mono k1.size)
  clear f1_0 f1_1
  have r2 : Lies (.slice T2 l0.length d2) (w1.heap.size) w2.heap.size := own_lies n2
  go_wp2_with fail
  refine (specPuzzleText_any p0 l0 _ _ _ hn0 (CRead.of_own n2)).mono ?_
  rw [Hres.out]
  rintro e w3 ⟨rfl, hb3⟩
  have g3 : Below w2.heap.size w2 w3 := hb3
  have s3 := hb3.size
  have f3_0 := carry g3 f2_0 (by omega)
  have f3_1 := carry g3 f2_1 (by omega)
  have o3_0 := own_below n2 g3 (Nat.le_refl _)
  have k3 := k2.trans (g3.mono k2.size)
  clear f2_0 f2_1 n2
  clear o3_0 r2
  go_wp2_with fail
  refine (toPuzzle_any p0 l0 A0 c0 _ hn0 ((hA0.below k3 (Nat.le_refl _)).more k3.size)).mono ?_
  rintro e w4 ⟨T4, d4, rfl, n4, hb4⟩
  have g4 : Below w3.heap.size w3 w4 := hb4
  have s4 := hb4.size
  have f4_0 := carry g4 f3_0 (by omega)
  have f4_1 := carry g4 f3_1 (by omega)
  have k4 := k3.trans (g4.mono k3.size)
  clear f3_0 f3_1
  have r4 : Lies (.slice T4 l0.length d4) (w3.heap.size) w4.heap.size := own_lies n4
  have q5_0 : (w4.alloc (Obj.cells #[.int .i64 p0, .slice T4 l0.length d4] 47)).cell? ⟨W.heap.size, 0, none⟩ = some (.int .i64 p0) := (World.cell?_alloc_lt _ _ _ (show W.heap.size < w4.heap.size by omega)).trans f4_0
  have q5_1 : (w4.alloc (Obj.cells #[.int .i64 p0, .slice T4 l0.length d4] 47)).cell? ⟨W.heap.size, 1, none⟩ = some (.slice A0 l0.length c0) := (World.cell?_alloc_lt _ _ _ (show W.heap.size < w4.heap.size by omega)).trans f4_1
  go_wp2_with fail
  refine (implPuzzleText_any p0 l0 _ _ _ hn0 (((CRead.of_own n4).below (B' := w4.heap.size) (by go_grown) (Nat.le_refl _)).more (by go_size))).mono ?_
  rw [Hres.out]
  rintro e w6 ⟨rfl, hb6⟩
  simp only [World.size_alloc] at hb6
  have g6 : Below w4.heap.size w4 w6 := Below.trans (b := _) (by go_grown) (hb6.mono (by omega))
  have s6 := hb6.size
  simp only [World.size_alloc] at s6
  have f6_0 := carry g6 f4_0 (by omega)
  have f6_1 := carry g6 f4_1 (by omega)
  have f6_2 : w6.cell? ⟨w4.heap.size, 0, none⟩ = some (.int .i64 p0) := carry hb6 (by simp) (by omega)
  have f6_3 : w6.cell? ⟨w4.heap.size, 1, none⟩ = some (.slice T4 l0.length d4) := carry hb6 (by simp) (by omega)
  have o6_0 := own_below n4 g6 (Nat.le_refl _)
  have k6 := k4.trans (g6.mono k4.size)
  clear f4_0 f4_1 n4 q5_0 q5_1
  go_wp2
  go_region_held3 (fun w' => w'.cell? ⟨W.heap.size, 0, none⟩ = some (.int .i64 p0) ∧ w'.cell? ⟨W.heap.size, 1, none⟩ = some (.slice A0 l0.length c0) ∧ w'.cell? ⟨w4.heap.size, 0, none⟩ = some (.int .i64 p0) ∧ w'.cell? ⟨w4.heap.size, 1, none⟩ = some (.slice T4 l0.length d4)) (first | exact ⟨f6_0, f6_1, f6_2, f6_3⟩ | exact ⟨f7_0, f7_1, f7_2, f7_3⟩ | exact ⟨f8_0, f8_1, f8_2, f8_3⟩) ((first | (go_at_call 24; refine (toPuzzle_any p0 l0 A0 c0 _ hn0 ((hA0.below k6.drew (Nat.le_refl _)).more k6.size)).mono ?_; rintro e w7 ⟨T7, d7, rfl, n7, hb7⟩; have g7 : Below w6.heap.size w6 w7 := (Below.refl _ _).drew.trans hb7; have s7 := g7.size; have f7_0 := carry g7 f6_0 (by omega); have f7_1 := carry g7 f6_1 (by omega); have f7_2 := carry g7 f6_2 (by omega); have f7_3 := carry g7 f6_3 (by omega); have o7_0 := own_below o6_0 g7 (Nat.le_refl _); have k7 := k6.trans (g7.mono k6.size)) | (go_at_call 27; refine (eqPuzzle_any p0 p0 l0 l0 _ _ _ _ _ hl0 hl0 (CRead.of_own o7_0) (CRead.of_own n7)).mono ?_; rw [decide_eq_true ⟨rfl, rfl⟩]; rintro e w8 ⟨rfl, hb8⟩; have g8 : Below w7.heap.size w7 w8 := hb8; have s8 := g8.size; have f8_0 := carry g8 f7_0 (by omega); have f8_1 := carry g8 f7_1 (by omega); have f8_2 := carry g8 f7_2 (by omega); have f8_3 := carry g8 f7_3 (by omega); have o8_0 := own_below o7_0 g8 (Nat.le_refl _); have k8 := k7.trans (g8.mono k7.size))))
  clear f6_0 f6_1 f6_2 f6_3 o6_0 f7_0 f7_1 f7_2 f7_3 o7_0 n7
  go_wp2
  go_ret
  exact ⟨rfl, k8⟩
end Go.Proofs.YtefkcfkicmfhlaaDoor
/-
  FROM A LAW's WALK TO ITS STATEMENT: arguments opened (numbers, lists of numbers, parties), and what every law's post asks.
-/
namespace Go.Proofs.YtefkcfkicmfhlaaDoor
open Go.ChangeShapes Go.WideShapes Go.ChangeAt Go.RowKit Go.Deep

theorem Tryd.own : ownKnob Tryd.prog.godebug = none := by kernel_rfl
theorem Tryd.laidOut : laidOutB Tryd.prog = true := by kernel_rfl
theorem Tryd.cellsPair : Tryd.prog.cellsOf 123 = 2 := by kernel_rfl
theorem Tryd.cellsParty : Tryd.prog.cellsOf 26 = 2 := by kernel_rfl
theorem Tryd.cellsInt : Tryd.prog.cellsOf 3 = 1 := by kernel_rfl

section
variable {H : Type} {enc : TypeId × Value → H} {P : Program}
theorem below_trodAll (hl : laidOutB P = true) : ∀ (ts : List TypeId), (ts.all fun t => P.readableRec t && decide (t < P.types.size)) = true → ∀ {vs : List Value} {ds : List (DataW H)} {ps : List MemPlace} {W W' : World},
    DataW.TrodAll enc P W 0 (fun _ => true) true ts vs ds ps → Below W.heap.size W W' → (∀ x ∈ ps, x.block < W.heap.size) → DataW.TrodAll enc P W' 0 (fun b => decide (b < W.heap.size)) true ts vs ds ps
  | [], _, vs, ds, ps, W, W', h, _, _ => by
    obtain ⟨rfl, rfl, rfl⟩ := trodAll_nil h
    exact trodAll_mk0
  | t :: ts, hr, vs, ds, ps, W, W', h, hb, hlt => by
    obtain ⟨v, vs', d, ds', p, q, rfl, rfl, rfl, h0, h1⟩ := trodAll_cons h
    simp only [List.all_cons, Bool.and_eq_true, decide_eq_true_eq] at hr
    refine trodAll_cons_mk (Below.trod hl hr.1.1 hr.1.2 h0 hb (fun x hx => hlt x (List.mem_append_left _ hx))) (below_trodAll hl ts (by simpa using hr.2) h1 hb (fun x hx => hlt x (List.mem_append_right _ hx)))

theorem law_post {f : Func} {s : ChangeSpec} {W W' : World} {args : Array Value} {ds gs : List (DataW H)} {before : List MemPlace} {tb : TypeId} (hl : laidOutB P = true)
    (hr : (f.params.toList.all fun t => P.readableRec t && decide (t < P.types.size)) = true) (hres : f.resultTypes = #[tb]) (htb : P.underlying tb = some .bool) (hsv : s.vars = [])
    (hspec : s.fn H (ds ++ gs) = { results := [.lit (.bool true)], args := ds })
    (hW : DataW.Whole enc P f.params.toList s.vars false W args.toList ds gs before) (hb : Below W.heap.size W W') : s.post enc P f false true false false W args (.bool true) W' := by
  have hW' := hW
  obtain ⟨p, q, hA, hV, rfl, _, _⟩ := hW
  rw [hsv] at hV
  obtain ⟨rfl, rfl⟩ := trodVars_none hV
  have hlt : ∀ x ∈ p, x.block < W.heap.size := fun x hx => by simpa using hW'.lt x (by simpa using hx)
  refine ⟨ds, _, _, [] ++ [], p, [], hW', ?_, ?_, ?_, hb.frame _, fun h => by cases h⟩
  · rw [hspec, hres]
    exact trodAll_mk1 (shut_bool htb _)
  · rw [hspec]
    exact below_trodAll hl _ hr hA hb hlt
  · rw [hspec, hsv]
    rfl
end

section
variable {H : Type} {enc : TypeId × Value → H} {W : World}
set_option maxRecDepth 100000 in
/-- A party that came in. -/
theorem open_party {v : Value} {d : DataW H} {p : List MemPlace} {r : Reach} {b0 : Nat} (hv : Value.okWide Tryd.prog W r b0 26 v) (h : DataW.Trod enc Tryd.prog W 0 (fun _ => true) true 26 v d p) :
    ∃ (x : Int) (l : PL) (A : Option Addr) (c : Nat), v = .agg #[.int .i64 x, .slice A l.length c] ∧ l.length ≤ maxLen ∧ CRead W W.heap.size A (pcells l) := by
  obtain ⟨v0, v1, y0, y1, n, rfl, _, _, h0, h1⟩ := Joins.open_agg2 Tryd.underlying26 (by kernel_rfl) Tryd.cellsParty hv h
  obtain ⟨x, hx, _, _⟩ := DataW.trod_int Tryd.underlying3 h0
  simp only [List.cons.injEq, and_true] at hx
  subst hx
  rcases open_slice_pairs Tryd.underlying24 Tryd.underlying123 Tryd.cellsPair rfl rfl (by kernel_rfl) (by kernel_rfl) h1 with ⟨hcs, _⟩ | ⟨a, len, cap, m, n', V0, V1, D0, D1, P0, P1, hcs, _, hlc, hcm, hm, _, hall⟩
  · simp only [List.cons.injEq, and_true] at hcs
    subst hcs
    exact ⟨x, [], none, 0, rfl, Nat.zero_le _, CRead.nil⟩
  · simp only [List.cons.injEq, and_true] at hcs
    subst hcs
    have hm' : m = cap := by simpa using hm
    subst hm'
    have each : ∀ i, i < len → ∃ a0 a1 : Int, W.cell? (a.add (i * 2)) = some (.int .i64 a0) ∧ W.cell? (a.add (i * 2 + 1)) = some (.int .i64 a1) := by
      intro i hi
      obtain ⟨c0, c1, t0, t1⟩ := hall i (by omega)
      obtain ⟨a0, e0, _, _⟩ := DataW.trod_int Tryd.underlying3 t0
      obtain ⟨a1, e1, _, _⟩ := DataW.trod_int Tryd.underlying3 t1
      simp only [List.cons.injEq, and_true] at e0 e1
      exact ⟨a0, a1, by rw [c0, e0], by rw [c1, e1]⟩
    let num : Option Value → Int := fun | some (.int _ z) => z | _ => 0
    let l : PL := (List.range len).map fun i => (num (W.cell? (a.add (i * 2))), num (W.cell? (a.add (i * 2 + 1))))
    have hll : l.length = len := by simp [l]
    refine ⟨x, l, some a, m, by rw [hll], by rw [hll]; omega, ?_⟩
    intro j u hu
    have hjl : j < (pcells l).length := (List.getElem?_eq_some_iff.1 hu).1
    rw [pcells_length, hll] at hjl
    have hi : j / 2 < len := by omega
    obtain ⟨a0, a1, c0, c1⟩ := each (j / 2) hi
    have hl : l[j / 2]? = some (a0, a1) := by simp [l, hi, c0, c1, num]
    obtain ⟨z0, _, cz, _⟩ := each 0 (by omega)
    have hspot : a.spot = none := by simpa [Addr.add] using World.cell?_spot cz
    obtain ⟨b, off, sp⟩ := a
    simp only at hspot
    subst hspot
    have hb : b < W.heap.size := by
      have := World.block_lt_of_cell? W _ cz
      simpa [Addr.add] using this
    refine ⟨b, off, rfl, hb, ?_⟩
    rw [add_plain] at c0 c1
    rcases Nat.mod_two_eq_zero_or_one j with h2 | h2
    · have e : j = j / 2 * 2 := by omega
      have e2 := pcells_fst hl
      rw [← e] at e2 c0
      rw [hu] at e2
      rw [c0, e2]
    · have e : j = j / 2 * 2 + 1 := by omega
      have e2 := pcells_snd hl
      rw [← e] at e2 c1
      rw [hu] at e2
      rw [c1, e2]
end
end Go.Proofs.YtefkcfkicmfhlaaDoor
/-
  A CLUE, A PUZZLE THAT CAME IN, opened.
-/
namespace Go.Proofs.YtefkcfkicmfhlaaDoor
open Go.ChangeShapes Go.WideShapes Go.ChangeAt Go.RowKit Go.Deep

theorem Tryd.cellsClue : Tryd.prog.cellsOf 23 = 3 := by kernel_rfl
theorem Tryd.cellsPuzzle : Tryd.prog.cellsOf 40 = 2 := by kernel_rfl
section
variable {H : Type} {enc : TypeId × Value → H} {W : World}
set_option maxRecDepth 100000 in
/-- A clue that came in. -/
theorem open_clue {v : Value} {d : DataW H} {p : List MemPlace} {r : Reach} {b0 : Nat} (hv : Value.okWide Tryd.prog W r b0 23 v) (h : DataW.Trod enc Tryd.prog W 0 (fun _ => true) true 23 v d p) :
    ∃ x y z : Int, v = .agg #[.int .i64 x, .int .i64 y, .int .i64 z] := by
  obtain ⟨v0, v1, v2, y0, y1, y2, n, rfl, _, _, h0, h1, h2⟩ := Joins.open_agg3 Tryd.underlying23 (by kernel_rfl) Tryd.cellsClue hv h
  obtain ⟨x, hx, _, _⟩ := DataW.trod_int Tryd.underlying3 h0
  obtain ⟨y, hy, _, _⟩ := DataW.trod_int Tryd.underlying3 h1
  obtain ⟨z, hz, _, _⟩ := DataW.trod_int Tryd.underlying3 h2
  simp only [List.cons.injEq, and_true] at hx hy hz
  subst hx hy hz
  exact ⟨x, y, z, rfl⟩
set_option maxRecDepth 100000 in
/-- A puzzle that came in. -/
theorem open_puzzle {v : Value} {d : DataW H} {p : List MemPlace} {r : Reach} {b0 : Nat} (hv : Value.okWide Tryd.prog W r b0 40 v) (h : DataW.Trod enc Tryd.prog W 0 (fun _ => true) true 40 v d p) :
    ∃ (x : Int) (l : CL) (A : Option Addr) (c : Nat), v = .agg #[.int .i64 x, .slice A l.length c] ∧ l.length ≤ maxLen ∧ CRead W W.heap.size A (ccells l) := by
  obtain ⟨v0, v1, y0, y1, n, rfl, _, _, h0, h1⟩ := Joins.open_agg2 Tryd.underlying40 (by kernel_rfl) Tryd.cellsPuzzle hv h
  obtain ⟨x, hx, _, _⟩ := DataW.trod_int Tryd.underlying3 h0
  simp only [List.cons.injEq, and_true] at hx
  subst hx
  rcases open_slice Tryd.underlying38 h1 with ⟨hcs, _⟩ | ⟨a, len, cap, m, n', D, Pl, hcs, _, hlc, hcm, hm, _, hall⟩
  · simp only [List.cons.injEq, and_true] at hcs
    subst hcs
    exact ⟨x, [], none, 0, rfl, Nat.zero_le _, CRead.nil⟩
  · simp only [List.cons.injEq, and_true] at hcs
    subst hcs
    have hm' : m = cap := by simpa using hm
    subst hm'
    have each : ∀ i, i < len → ∃ a0 a1 a2 : Int, W.cell? (a.add (i * 3)) = some (.int .i64 a0) ∧ W.cell? (a.add (i * 3 + 1)) = some (.int .i64 a1) ∧ W.cell? (a.add (i * 3 + 2)) = some (.int .i64 a2) := by
      intro i hi
      obtain ⟨cs', h1, h2⟩ := hall i (by omega)
      rw [Tryd.cellsClue] at h1
      obtain ⟨_, hlen, hcell⟩ := World.cells?_some h1
      obtain ⟨y0, y1, y2, n, _, _, g0, g1, g2⟩ := trod_struct3 Tryd.underlying23 h2
      match cs', hlen with
      | [w0, w1, w2], _ =>
        obtain ⟨a0, e0, _, _⟩ := DataW.trod_int Tryd.underlying3 g0
        obtain ⟨a1, e1, _, _⟩ := DataW.trod_int Tryd.underlying3 g1
        obtain ⟨a2, e2, _, _⟩ := DataW.trod_int Tryd.underlying3 g2
        simp [Tryd.cellsInt] at e0 e1 e2
        have c0 := hcell 0 (by omega)
        have c1 := hcell 1 (by omega)
        have c2 := hcell 2 (by omega)
        rw [add_add] at c0 c1 c2
        subst e0 e1 e2
        exact ⟨a0, a1, a2, by simpa using c0, by simpa using c1, by simpa using c2⟩
    let num : Option Value → Int := fun | some (.int _ z) => z | _ => 0
    let l : CL := (List.range len).map fun i => (num (W.cell? (a.add (i * 3))), num (W.cell? (a.add (i * 3 + 1))), num (W.cell? (a.add (i * 3 + 2))))
    have hll : l.length = len := by simp [l]
    refine ⟨x, l, some a, m, by rw [hll], by rw [hll]; omega, ?_⟩
    intro j u hu
    have hjl : j < (ccells l).length := (List.getElem?_eq_some_iff.1 hu).1
    rw [ccells_length, hll] at hjl
    have hi : j / 3 < len := by omega
    obtain ⟨a0, a1, a2, c0, c1, c2⟩ := each (j / 3) hi
    have hl : l[j / 3]? = some (a0, a1, a2) := by simp [l, hi, c0, c1, c2, num]
    obtain ⟨z0, _, _, cz, _⟩ := each 0 (by omega)
    have hspot : a.spot = none := by simpa [Addr.add] using World.cell?_spot cz
    obtain ⟨b, off, sp⟩ := a
    simp only at hspot
    subst hspot
    have hb : b < W.heap.size := by
      have := World.block_lt_of_cell? W _ cz
      simpa [Addr.add] using this
    refine ⟨b, off, rfl, hb, ?_⟩
    rw [add_plain] at c0 c1 c2
    rcases (show j % 3 = 0 ∨ j % 3 = 1 ∨ j % 3 = 2 by omega) with h2 | h2 | h2
    · have e : j = j / 3 * 3 := by omega
      have e2 := ccells_at0 hl
      rw [← e] at e2 c0
      rw [hu] at e2
      rw [c0, e2]
    · have e : j = j / 3 * 3 + 1 := by omega
      have e2 := ccells_at1 hl
      rw [← e] at e2 c1
      rw [hu] at e2
      rw [c1, e2]
    · have e : j = j / 3 * 3 + 2 := by omega
      have e2 := ccells_at2 hl
      rw [← e] at e2 c2
      rw [hu] at e2
      rw [c2, e2]
end
end Go.Proofs.YtefkcfkicmfhlaaDoor
/-
  THE PROGRAM's HEAD, LOOKED AT ONCE: which make it is, and that a call may enter it. (The head's text is long: the kernel must not read it twice.)
-/
namespace Go.Proofs.YtefkcfkicmfhlaaDoor

theorem make_of {P : Program} {rest : List (List Char)} (h : behindMainWord (wordsSigns P.initOrder.toList) = "cut".toList :: rest) : P.make = some .cut := by
  unfold Program.make
  rw [h]
  rfl
theorem strip_cut (rest : List (List Char)) : stripLifts liftWords ("cut".toList :: rest) = ([], "cut".toList :: rest) := rfl
theorem lifts_of {P : Program} {rest : List (List Char)} (h : behindMainWord (wordsSigns P.initOrder.toList) = "cut".toList :: rest) : P.headLifts = [] := by
  unfold Program.headLifts
  rw [h, strip_cut]
  rfl
theorem final_of {P : Program} {rest : List (List Char)} (h : behindMainWord (wordsSigns P.initOrder.toList) = "cut".toList :: rest) : P.liftsFinal = false := by
  unfold Program.liftsFinal
  rw [lifts_of h, h]
  rfl
theorem enter_of {P : Program} {rest : List (List Char)} (h : behindMainWord (wordsSigns P.initOrder.toList) = "cut".toList :: rest) (h1 : P.laysLater = false) (h2 : P.bearsReflect = false) (h3 : P.doorFits [] = true) : P.mayEnter = true := by
  unfold Program.mayEnter
  rw [h]
  show (_ || _ || _) = true
  rw [strip_cut, h1, h2, h3]
  rfl
end Go.Proofs.YtefkcfkicmfhlaaDoor
