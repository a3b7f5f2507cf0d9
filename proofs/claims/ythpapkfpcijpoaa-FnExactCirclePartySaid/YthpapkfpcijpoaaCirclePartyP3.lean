/-
  Texts put together for the claim of 'CircleParty' (pack 3): PairsOf, OtherP, Ways, PaintP, Ints, SzI, Paint, PaintG, Every, Join, Join2, Sizes, WhereP, Del, Where, Shelf.
-/
import Derived.Test.YthpapkfpcijpoaaCirclePartyP1
import Derived.Test.YthpapkfpcijpoaaCirclePartyP2
import Derived.Deep.RegionHeld3
import Derived.BigQuiet
import Derived.Laws.IdiomCopy
import Derived.Shelf.SlicesE.Clone
import Derived.Shelf.SlicesG.SearchI
import Derived.Shelf.SlicesG.Turned
import Derived.Shelf.SlGeneric
import Derived.Ground.SlgnProg
import Derived.Ground.SlsfProg
import Derived.Shelf.SlSortCmp.NoneTotal
import Derived.Test.YthpapkfpcijpoaaProg
/-
  'impl.pairsOf': the pairs of the meetings that are taken, by its contracts: for friends and for strangers.
-/
namespace Go.Proofs.Ythpapkfpcijpoaa
open Go.RowKit

def taken (f : Bool → Bool) (l : ML) : PL := (l.filter fun m => f m.2.2).map fun m => (m.1, m.2.1)
theorem taken_le (f : Bool → Bool) (l : ML) : (taken f l).length ≤ l.length := by unfold taken; rw [List.length_map]; exact List.length_filter_le _ _
theorem taken_snoc (f : Bool → Bool) (l : ML) (x y : Int) (b : Bool) : taken f (l ++ [(x, y, b)]) = taken f l ++ if f b = true then [(x, y)] else [] := by
  unfold taken
  rw [List.filter_append, List.map_append]
  congr 1
  by_cases h : f b = true
  · rw [if_pos h, List.filter_cons_of_pos (by exact h)]; rfl
  · rw [if_neg h, List.filter_cons_of_neg (by exact h)]; rfl
theorem taken_meets (f : Bool → Bool) (l qs : PL) : taken f (meets l qs) = qs.filter fun q => f (l.contains q) := by
  unfold taken meets
  rw [List.filter_map, List.map_map]
  have e : ((fun m : Int × Int × Bool => (m.1, m.2.1)) ∘ fun q : Int × Int => (q.1, q.2, l.contains q)) = id := rfl
  rw [e, List.map_id]
  rfl

set_option maxHeartbeats 400000 in
theorem ofStrangers_any (x y : Int) (f : Bool) (w : World) : Calls Try.prog 105 #[.agg #[.int .i64 x, .int .i64 y, .bool f]] w fun e w' => e = .returned (.bool (!f)) ∧ Below w.heap.size w w' := by
  go_enter Try.func105, Try.ntmps105
  go_wp2
  go_ret
  exact ⟨by simp, by go_grown⟩

set_option maxHeartbeats 2000000 in
set_option maxRecDepth 100000 in
theorem pairsOf_ofStrangers_any (l : ML) (A : Option Addr) (c : Nat) (w : World) (hl : l.length ≤ 1000) (hA : CRead w w.heap.size A (mcells l)) :
    Calls Try.prog 103 #[.slice A l.length c, .func (.func 105) #[] #[]] w fun e w' => ∃ A' c', e = .returned (.slice A' (taken (fun b => !b) l).length c') ∧
      w'.ownsRow w.heap.size 71 2 (.slice A' (taken (fun b => !b) l).length c') (taken (fun b => !b) l).length (pcells (taken (fun b => !b) l)) ∧ Below w.heap.size w w' := by
  obtain ⟨i0, hi, hz0, hz1, hz2⟩ := info_parts Try.infoPair
  go_enter Try.func103, Try.ntmps103
  go_wp2
  go_loopw [5, 10] (fun v i wr => ∃ k : Nat, k ≤ l.length ∧ i = .int .i64 k ∧ wr.ownsRow w.heap.size 71 2 v (taken (fun b => !b) (l.take k)).length (pcells (taken (fun b => !b) (l.take k))) ∧ Below w.heap.size w wr) (fun _ i _ => l.length - (intOf i).toNat)
  case atStart => exact ⟨0, Nat.zero_le _, rfl, World.ownsRow_nil _ _ _ _, Below.refl _ _⟩
  case round =>
    obtain ⟨k, hk, rfl, hown, hb⟩ := hrel
    have hs := hb.size
    by_cases hlt : k < l.length
    · obtain ⟨⟨x, y, f⟩, hx⟩ := getSome l k hlt
      obtain ⟨bb, off, rfl, hbb, c0, c1, c2⟩ := (hA.below hb (Nat.le_refl _)).meet hx
      have hki : (k : Int) < (l.length : Int) := by omega
      have htl := taken_le (fun b => !b) (l.take k)
      have htl2 : (l.take k).length ≤ 1000 := Nat.le_trans (List.length_take_le' _ _) hl
      have hsn := taken_snoc (fun b => !b) (l.take k) x y f
      have Hx := Lib.hid hx
      have Hsn := Lib.hid hsn
      clear hx hsn
      cases hf : !f with
      | false =>
        have Hf := Lib.hid hf
        clear hf
        go_wp2_with fail
        refine (ofStrangers_any x y f _).mono ?_
        rw [Hf.out]
        rintro e w2 ⟨rfl, hb2⟩
        simp only [World.size_alloc] at hb2
        have k2 : Below wr.heap.size wr w2 := Below.trans (b := _) (by go_grown) (hb2.mono (by omega))
        go_wp2
        go_roundw
        case rel =>
          refine ⟨k + 1, by omega, by go_num, ?_, hb.trans (k2.mono hs)⟩
          rw [List.take_add_one, Hx.out, Option.toList_some, Hsn.out, Hf.out]
          simp only [Bool.false_eq_true, if_false, List.append_nil]
          exact own_below hown k2 (Nat.le_refl _)
        case measure => simp [intOf]; omega
      | true =>
        have Hf := Lib.hid hf
        clear hf
        go_wp2_with fail
        refine (ofStrangers_any x y f _).mono ?_
        rw [Hf.out]
        rintro e w2 ⟨rfl, hb2⟩
        simp only [World.size_alloc] at hb2
        have k2 : Below wr.heap.size wr w2 := Below.trans (b := _) (by go_grown) (hb2.mono (by omega))
        have d0 : w2.cell? ⟨wr.heap.size, 0, none⟩ = some (.int .i64 x) := carry hb2 (by simp) (by omega)
        have d1 : w2.cell? ⟨wr.heap.size, 1, none⟩ = some (.int .i64 y) := carry hb2 (by simp) (by omega)
        have own2 := own_below hown k2 (Nat.le_refl _)
        have s2 := k2.size
        clear hown c0 c1 c2
        go_wp2_with (at_builtin; refine wpList_append_own _ rfl _ _ 29 rfl w.heap.size 71 i0 _ 2 16 Try.underlying29 hi hz0 hz1 hz2 rfl (by decide) _ _ _ rfl (own2.alloc _) ⟨w2.heap.size, 0, none⟩ 1 1 [.int .i64 x, .int .i64 y] rfl rfl (two_cells (by simp) (by simp)) (two_one rfl rfl) (by unfold maxLen; omega) (by omega) (by simp; omega) ?_; intro v1 w3 hown3 hg3 _; obtain ⟨A1, d1', rfl, _⟩ := own_shape hown3)
        go_roundw
        case rel =>
          refine ⟨k + 1, by omega, by go_num, ?_, ?_⟩
          · rw [List.take_add_one, Hx.out, Option.toList_some, Hsn.out, Hf.out]
            simp only [if_true]
            rw [pcells_append, List.length_append]
            exact hown3
          · exact ((hb.trans (k2.mono hs)).alloc (by omega) _).grown hg3 (by simp; omega) (fun k hk => (own2.lt k hk).1)
        case measure => simp [intOf]; omega
    · have hkl : k = l.length := by omega
      subst hkl
      have hge : ¬ ((l.length : Int) < l.length) := by omega
      rw [List.take_length] at hown
      obtain ⟨A', c', rfl, _⟩ := own_shape hown
      have Hown := Lib.hid hown
      clear hown
      go_wp2
      go_ret
      exact ⟨A', c', rfl, Hown.out, hb⟩
end Go.Proofs.Ythpapkfpcijpoaa
/-
  'OtherParty' and 'FullParty': the model's and the program's, by their contracts.
-/
namespace Go.Proofs.Ythpapkfpcijpoaa
open Go.RowKit

set_option maxHeartbeats 2000000 in
set_option maxRecDepth 100000 in
theorem other_any (p : Int) (l : PL) (A : Option Addr) (c : Nat) (w : World) (hp : isP p l = true) (hA : CRead w w.heap.size A (pcells l)) :
    Calls Try.prog 78 #[.agg #[.int .i64 p, .slice A l.length c]] w (GotParty w p (otherP p.toNat l)) := by
  have hn := isP_range hp
  have hml : (meets l (allP p.toNat)).length ≤ 1000 := by rw [meets_length]; have := allP_length_le (n := p.toNat) (by omega); omega
  have hrl : (otherP p.toNat l).length ≤ 66 := filter_length_le (by omega) _
  have htk : taken (fun b => !b) (meets l (allP p.toNat)) = otherP p.toNat l := taken_meets _ _ _
  have Htk := Lib.hid htk
  have Hp := Lib.hid hp
  clear hp htk
  go_enter Try.func78, Try.ntmps78
  go_wp2
  generalize hW : (w.alloc (Obj.cells #[.int .i64 p, .slice A l.length c] 31)).alloc (Obj.cells #[.int .i64 0, .slice none 0 0] 31) = W
  have a0 : W.cell? ⟨w.heap.size, 0, none⟩ = some (.int .i64 p) := by rw [← hW]; simp
  have a1 : W.cell? ⟨w.heap.size, 1, none⟩ = some (.slice A l.length c) := by rw [← hW]; simp
  have x0 : W.cell? ⟨w.heap.size + 1, 0, none⟩ = some (.int .i64 0) := by rw [← hW]; simp
  have x1 : W.cell? ⟨w.heap.size + 1, 1, none⟩ = some (.slice none 0 0) := by rw [← hW]; simp
  have z0 : W.frozen? ⟨w.heap.size + 1, 0, none⟩ = false := by rw [← hW]; simp
  have z1 : W.frozen? ⟨w.heap.size + 1, 1, none⟩ = false := by rw [← hW]; simp
  have kW : Below w.heap.size w W := by rw [← hW]; go_grown
  have sW : w.heap.size + 1 < W.heap.size := by rw [← hW]; simp
  clear hW
  go_region_held3 (fun w' => w'.cell? ⟨w.heap.size, 0, none⟩ = some (.int .i64 p) ∧ w'.cell? ⟨w.heap.size, 1, none⟩ = some (.slice A l.length c)) (first | exact ⟨a0, a1⟩ | exact ⟨b0, b1⟩ | exact ⟨d0, d1⟩ | exact ⟨(World.cell?_setCell_other _ _ _ _ (by simp)).trans ((World.cell?_setCell_other _ _ _ _ (by simp)).trans d0), (World.cell?_setCell_other _ _ _ _ (by simp)).trans ((World.cell?_setCell_other _ _ _ _ (by simp)).trans d1)⟩) ((first
    | (go_at_call 104; refine (meetingsOf_any p l A c _ Hp.out ((hA.below kW.drew (Nat.le_refl _)).more kW.size)).mono ?_; rintro e w1 ⟨A1, c1, rfl, own1, hb1⟩; have g1 : Below W.heap.size W w1 := (Below.refl _ _).drew.trans hb1; have b0 := carry g1 a0 (by omega); have b1 := carry g1 a1 (by omega); have y0 := carry g1 x0 (by omega); have y1 := carry g1 x1 (by omega); have y2 := (g1.frozen (p := ⟨w.heap.size + 1, 0, none⟩) (by simp; omega)).trans z0; have y3 := (g1.frozen (p := ⟨w.heap.size + 1, 1, none⟩) (by simp; omega)).trans z1; have s1 := g1.size)
    | (go_at_call 103; refine (pairsOf_ofStrangers_any (meets l (allP p.toNat)) A1 c1 _ hml (CRead.of_own own1)).mono ?_; rw [Htk.out]; rintro e w2 ⟨A2, c2, rfl, own2, hb2⟩; have d0 := carry hb2 b0 (by omega); have d1 := carry hb2 b1 (by omega); have v0 := carry hb2 y0 (by omega); have v1 := carry hb2 y1 (by omega); have v2 := (hb2.frozen (p := ⟨w.heap.size + 1, 0, none⟩) (by simp; omega)).trans y2; have v3 := (hb2.frozen (p := ⟨w.heap.size + 1, 1, none⟩) (by simp; omega)).trans y3; have s2 := hb2.size)
    | skip))
  go_wp2
  refine bodyPost_ret (v := .agg #[.int .i64 p, .slice A2 (otherP p.toNat l).length c2]) (by simp [results, Try.results78, go_sem, v0, v1]) rfl ?_
  exact ⟨A2, c2, rfl, own_lower (ownsRow_setCell_below (ownsRow_setCell_below own2 (a := ⟨w.heap.size + 1, 0, none⟩) (by simp; omega) _) (a := ⟨w.heap.size + 1, 1, none⟩) (by simp; omega) _) (by omega),
    ((kW.trans ((g1.trans (hb2.mono s1)).mono kW.size)).setCell (p := ⟨w.heap.size + 1, 0, none⟩) (by simp) _).setCell (p := ⟨w.heap.size + 1, 1, none⟩) (by simp) _⟩

def resOtherParty (p : Int) (l : PL) : Int × PL × Bool := if isP p l then (p, otherP p.toNat l, true) else (0, [], false)
theorem resOtherParty_len (p : Int) (l : PL) : (resOtherParty p l).2.1.length ≤ 1048576 := by
  unfold resOtherParty
  split
  · rename_i h
    have := isP_range h
    exact Nat.le_trans (filter_length_le (n := p.toNat) (by omega) _) (by omega)
  · simp

end Go.Proofs.Ythpapkfpcijpoaa
/-
  WAYS TO CHOOSE: the program's 'waysToChoose' and the model's 'trChoose', by their contracts; 'GroupBound', 'LeastMustHave', 'LeastOneKind'.
-/
namespace Go.Proofs.Ythpapkfpcijpoaa
open Go.RowKit

/-- the product of the first steps, as the program takes them -/
def waysI (n : Int) : Nat → Int
  | 0 => 1
  | i + 1 => (waysI n i * (n - i)).tdiv (i + 1)
/-- as the model takes them -/
def stepsI (n k : Int) : Nat → Int
  | 0 => 1
  | i + 1 => (stepsI n k i * (n - k + (i + 1))).tdiv (i + 1)
def InWays (n : Int) (k : Nat) : Prop := (0 ≤ n ∧ n ≤ 12 ∧ k ≤ 12) ∨ (0 ≤ n ∧ n ≤ 132 ∧ k ≤ 2)
theorem waysI_all : (∀ n : Fin 13, ∀ k : Fin 13, 0 ≤ waysI (n.val : Int) k.val ∧ waysI (n.val : Int) k.val ≤ 10000) ∧ (∀ n : Fin 133, ∀ k : Fin 3, 0 ≤ waysI (n.val : Int) k.val ∧ waysI (n.val : Int) k.val ≤ 10000) := by
  constructor <;> decide +kernel
theorem waysI_bound {n : Int} {k : Nat} (h : InWays n k) : 0 ≤ waysI n k ∧ waysI n k ≤ 10000 := by
  rcases h with ⟨h0, h1, h2⟩ | ⟨h0, h1, h2⟩
  · have := waysI_all.1 ⟨n.toNat, by omega⟩ ⟨k, by omega⟩
    rwa [show ((n.toNat : Nat) : Int) = n from by omega] at this
  · have := waysI_all.2 ⟨n.toNat, by omega⟩ ⟨k, by omega⟩
    rwa [show ((n.toNat : Nat) : Int) = n from by omega] at this
theorem InWays.less {n : Int} {k i : Nat} (h : InWays n k) (hi : i ≤ k) : InWays n i := by unfold InWays at *; omega
theorem stepsI_all : (∀ n : Fin 13, ∀ k : Fin 13, k.val ≤ n.val → ∀ i : Fin 13, i.val ≤ k.val → 0 ≤ stepsI (n.val : Int) (k.val : Int) i.val ∧ stepsI (n.val : Int) (k.val : Int) i.val ≤ 10000) ∧ (∀ n : Fin 133, ∀ k : Fin 3, k.val ≤ n.val → ∀ i : Fin 3, i.val ≤ k.val → 0 ≤ stepsI (n.val : Int) (k.val : Int) i.val ∧ stepsI (n.val : Int) (k.val : Int) i.val ≤ 10000) := by
  constructor <;> decide +kernel
theorem stepsI_bound {n : Int} {k i : Nat} (h : InWays n k) (hk : (k : Int) ≤ n) (hi : i ≤ k) : 0 ≤ stepsI n k i ∧ stepsI n k i ≤ 10000 := by
  rcases h with ⟨h0, h1, h2⟩ | ⟨h0, h1, h2⟩
  · have := stepsI_all.1 ⟨n.toNat, by omega⟩ ⟨k, by omega⟩ (by show k ≤ n.toNat; omega) ⟨i, by omega⟩ hi
    rwa [show ((n.toNat : Nat) : Int) = n from by omega] at this
  · have := stepsI_all.2 ⟨n.toNat, by omega⟩ ⟨k, by omega⟩ (by show k ≤ n.toNat; omega) ⟨i, by omega⟩ hi
    rwa [show ((n.toNat : Nat) : Int) = n from by omega] at this
theorem ways_steps_all : (∀ n : Fin 13, ∀ k : Fin 13, waysI (n.val : Int) k.val = if k.val > n.val then 0 else stepsI (n.val : Int) (k.val : Int) k.val) ∧ (∀ n : Fin 133, ∀ k : Fin 3, waysI (n.val : Int) k.val = if k.val > n.val then 0 else stepsI (n.val : Int) (k.val : Int) k.val) := by
  constructor <;> decide +kernel
theorem ways_steps {n : Int} {k : Nat} (h : InWays n k) : waysI n k = if (k : Int) > n then 0 else stepsI n k k := by
  rcases h with ⟨h0, h1, h2⟩ | ⟨h0, h1, h2⟩
  · have := ways_steps_all.1 ⟨n.toNat, by omega⟩ ⟨k, by omega⟩
    rw [show ((n.toNat : Nat) : Int) = n from by omega] at this
    rw [this]
    by_cases hk : k > n.toNat
    · rw [if_pos hk, if_pos (by omega)]
    · rw [if_neg hk, if_neg (by omega)]
  · have := ways_steps_all.2 ⟨n.toNat, by omega⟩ ⟨k, by omega⟩
    rw [show ((n.toNat : Nat) : Int) = n from by omega] at this
    rw [this]
    by_cases hk : k > n.toNat
    · rw [if_pos hk, if_pos (by omega)]
    · rw [if_neg hk, if_neg (by omega)]
/-- what a step's product is within -/
theorem mul_within {a b : Int} (ha : 0 ≤ a ∧ a ≤ 10000) (hb : -200 ≤ b ∧ b ≤ 200) : -2000000 ≤ a * b ∧ a * b ≤ 2000000 := by
  constructor
  · have h1 : a * (-200) ≤ a * b := Int.mul_le_mul_of_nonneg_left hb.1 ha.1
    omega
  · have h1 : a * b ≤ a * 200 := Int.mul_le_mul_of_nonneg_left hb.2 ha.1
    omega
theorem wrap_small {x : Int} (h : -9223372036854775808 ≤ x ∧ x ≤ 9223372036854775807) : IntKind.i64.wrap x = x := by simp [IntKind.wrap, IntKind.bits, IntKind.signed]; omega

end Go.Proofs.Ythpapkfpcijpoaa
/-
  PAINTINGS, PURE: when there is one, the place of a pair among all, the colour of a pair.
-/
namespace Go.Proofs.Ythpapkfpcijpoaa

/-- there is a painting -/
def isX (p k : Int) (l : List Int) : Bool := (decide (0 ≤ p ∧ p ≤ 8) && decide (1 ≤ k ∧ k ≤ 3)) && (decide ((l.length : Int) = (p * (p - 1)).tdiv 2) && l1AllB l 0 (k - 1))
theorem isX_parts {p k : Int} {l : List Int} (h : isX p k l = true) : (0 ≤ p ∧ p ≤ 8) ∧ (1 ≤ k ∧ k ≤ 3) ∧ (l.length : Int) = (p * (p - 1)).tdiv 2 ∧ l1AllB l 0 (k - 1) = true := by
  simp only [isX, Bool.and_eq_true, decide_eq_true_eq] at h
  exact ⟨h.1.1, h.1.2, h.2.1, h.2.2⟩
theorem allP_count : ∀ n : Fin 9, ((allP n.val).length : Int) = ((n.val : Int) * ((n.val : Int) - 1)).tdiv 2 ∧ (allP n.val).length ≤ 28 ∧ waysI (n.val : Int) 2 = ((n.val : Int) * ((n.val : Int) - 1)).tdiv 2 := by decide +kernel
theorem count_of {p : Int} (h : 0 ≤ p ∧ p ≤ 8) : ((allP p.toNat).length : Int) = (p * (p - 1)).tdiv 2 ∧ (allP p.toNat).length ≤ 28 ∧ waysI p 2 = (p * (p - 1)).tdiv 2 := by
  have := allP_count ⟨p.toNat, by omega⟩
  simp only [show ((p.toNat : Nat) : Int) = p from by omega] at this
  exact this
theorem isX_len {p k : Int} {l : List Int} (h : isX p k l = true) : l.length = (allP p.toNat).length := by
  have h1 := isX_parts h
  have h2 := (count_of h1.1).1
  omega
theorem isX_small {p k : Int} {l : List Int} (h : isX p k l = true) : l.length ≤ 28 := by
  rw [isX_len h]
  exact (count_of (isX_parts h).1).2.1
theorem isX_at {p k : Int} {l : List Int} (h : isX p k l = true) {i : Nat} {x : Int} (hx : l[i]? = some x) : 0 ≤ x ∧ x < k := by
  have h1 := (isX_parts h).2.2.2
  simp only [l1AllB, List.all_eq_true, decide_eq_true_eq] at h1
  have := h1 x (List.mem_of_getElem? hx)
  omega
/-- the place of the pair of a and b, a < b, among those of n people -/
def atP (n a b : Nat) : Nat := a * (2 * n - a - 1) / 2 + b - a - 1
theorem atP_all : ∀ n : Fin 9, ∀ a : Fin 8, ∀ b : Fin 8, a.val < b.val → b.val < n.val → (allP n.val)[atP n.val a.val b.val]? = some ((a.val : Int), (b.val : Int)) := by decide +kernel
theorem atP_get {n a b : Nat} (hn : n ≤ 8) (hab : a < b) (hb : b < n) : (allP n)[atP n a b]? = some ((a : Int), (b : Int)) := atP_all ⟨n, by omega⟩ ⟨a, by omega⟩ ⟨b, by omega⟩ hab hb
theorem atP_lt {n a b : Nat} (hn : n ≤ 8) (hab : a < b) (hb : b < n) : atP n a b < (allP n).length := (List.getElem?_eq_some_iff.1 (atP_get hn hab hb)).1
theorem atP_of_all : ∀ n : Fin 9, ∀ i : Fin 28, i.val < (allP n.val).length → ∃ a : Fin 8, ∃ b : Fin 8, a.val < b.val ∧ b.val < n.val ∧ i.val = atP n.val a.val b.val := by decide +kernel
/-- each pair of all is at its place -/
theorem atP_of {n i : Nat} (hn : n ≤ 8) (hi : i < (allP n).length) : ∃ a b : Nat, a < b ∧ b < n ∧ i = atP n a b := by
  have h1 := (count_of (p := (n : Int)) (by omega)).2.1
  rw [Int.toNat_natCast] at h1
  obtain ⟨a, b, h⟩ := atP_of_all ⟨n, by omega⟩ ⟨i, by omega⟩ hi
  exact ⟨a.val, b.val, h⟩
/-- the colour of a pair, in whichever order -/
def colX (n : Nat) (l : List Int) (a b : Nat) : Int := l.getD (atP n (min a b) (max a b)) 0
theorem colX_comm (n : Nat) (l : List Int) (a b : Nat) : colX n l a b = colX n l b a := by unfold colX; rw [Nat.min_comm, Nat.max_comm]
end Go.Proofs.Ythpapkfpcijpoaa
/-
  THE LAWS' COPY OF A LIST OF NUMBERS, by its contract.
-/
namespace Go.Proofs.Ythpapkfpcijpoaa
open Go.RowKit

set_option maxHeartbeats 1000000 in
set_option maxRecDepth 100000 in
theorem toIntS_any (l : List Int) (A : Option Addr) (c : Nat) (w : World) (hl : l.length ≤ 1048576) (hA : CRead w w.heap.size A (icells l)) :
    Calls Try.prog 40 #[.slice A l.length c] w fun e w' =>
      e = .returned (.slice (some ⟨w.heap.size, 0, none⟩) l.length l.length) ∧ w'.ownsRow w.heap.size 3 1 (.slice (some ⟨w.heap.size, 0, none⟩) l.length l.length) l.length (icells l) ∧ Below w.heap.size w w' := by
  obtain ⟨i0, hi, hz0, hz1, hz2⟩ := info_parts Try.infoInt
  generalize hn : l.length = n at *
  have Hn := Lib.hid hn
  clear hn
  generalize hg : w.heap.size = g at *
  have Hg := Lib.hid hg
  clear hg
  go_enter Try.func40, Try.ntmps40
  go_wp2_with (at_make; refine wpList_make_full _ rfl _ _ 45 rfl g 3 i0 _ 1 Try.underlying45 hi hz0 hz1 _ _ _ _ n rfl rfl (by omega) (by omega) (by rw [hz2]; omega) (by unfold maxLen; omega) (by rw [Hg.out]; exact Nat.le_refl _) ?_; rw [Hg.out]; intro w1 hown1 hgr1)
  have hs1 : g < w1.heap.size := (own_lt hown1).2
  have hb1 : Below g w w1 := (Below.refl _ _).grown hgr1 (by rw [Hg.out]; exact Nat.le_refl _) (by simp)
  rw [show Value.cells (.int .i64 0) = #[.int .i64 0] from rfl, made_ints] at hown1
  go_loopw [4] (fun i wr => ∃ k : Nat, k ≤ n ∧ i = .int .i64 k ∧ wr.ownsRow g 3 1 (.slice (some ⟨g, 0, none⟩) n n) n (icells (l.take k ++ List.replicate (n - k) 0)) ∧ Below g w wr) (fun i _ => n - (intOf i).toNat)
  case atStart => exact ⟨0, Nat.zero_le _, rfl, by simpa using hown1, hb1⟩
  case round =>
    obtain ⟨k, hk, rfl, hown, hb⟩ := hrel
    have hs := own_lt hown
    by_cases hlt : k < n
    · obtain ⟨x, hx⟩ := getSome l k (by rw [Hn.out]; exact hlt)
      obtain ⟨b, off, rfl, hbb, c0⟩ := (hA.below hb (Nat.le_refl _)).int hx
      have hlt' : (k : Int) < n := by omega
      have f0 := hown.frozenAt k
      have hz : (l.take k ++ List.replicate (n - k) 0)[k]? = some 0 := by
        rw [List.getElem?_append_right (by simp; omega)]
        have h1 : min k l.length = k := Nat.min_eq_left (by rw [Hn.out]; exact hk)
        simp only [List.length_take, h1, Nat.sub_self]
        rw [List.getElem?_replicate, if_pos (by omega)]
      have d0 := own_intAt hown hz
      clear hz
      have Hx := Lib.hid hx
      clear hx
      go_wp2
      go_roundw
      case rel =>
        refine ⟨k + 1, by omega, by go_num, ?_, hb.setCell (p := ⟨g, k, none⟩) (Nat.le_refl _) _⟩
        have h2 := own_setInt hown k x
        rwa [take_set_replicate l 0 n k x Hn.out Hx.out] at h2
      case measure => simp [intOf]; omega
    · have hkl : k = n := by omega
      subst hkl
      have hge : ¬ ((k : Int) < k) := by omega
      go_wp2
      go_ret
      refine ⟨rfl, ?_, hb⟩
      rwa [Nat.sub_self, List.replicate_zero, List.append_nil, List.take_of_length_le (by rw [Hn.out]; exact Nat.le_refl _)] at hown
theorem toIntS_got (l : List Int) (A : Option Addr) (c : Nat) (w : World) (hl : l.length ≤ 1048576) (hA : CRead w w.heap.size A (icells l)) :
    Calls Try.prog 40 #[.slice A l.length c] w fun e w' => ∃ A' c', e = .returned (.slice A' l.length c') ∧ w'.ownsRow w.heap.size 3 1 (.slice A' l.length c') l.length (icells l) ∧ Below w.heap.size w w' :=
  (toIntS_any l A c w hl hA).mono fun _ _ h => ⟨_, _, h⟩
end Go.Proofs.Ythpapkfpcijpoaa
/-
  THE SIZE OF A LIST OF NUMBERS, by the contract of the laws' helper.
-/
namespace Go.Proofs.Ythpapkfpcijpoaa
open Go.RowKit

end Go.Proofs.Ythpapkfpcijpoaa
/-
  PAINTINGS: the laws' own small functions at them (size, copy, comparison, marks), by their contracts.
-/
namespace Go.Proofs.Ythpapkfpcijpoaa
open Go.RowKit

/-- A call came back with a painting and a bool; its colours lie in memory of its own. -/
def GotPaintOk (w : World) (p k : Int) (l : List Int) (ok : Bool) (e : Ending) (w' : World) : Prop :=
  ∃ A c, e = .returned (.tuple #[.agg #[.int .i64 p, .int .i64 k, .slice A l.length c], .bool ok]) ∧ w'.ownsRow w.heap.size 3 1 (.slice A l.length c) l.length (icells l) ∧ Below w.heap.size w w'
/-- A call came back with a painting whose colours lie in memory of its own. -/
def GotPaint (w : World) (p k : Int) (l : List Int) (e : Ending) (w' : World) : Prop :=
  ∃ A c, e = .returned (.agg #[.int .i64 p, .int .i64 k, .slice A l.length c]) ∧ w'.ownsRow w.heap.size 3 1 (.slice A l.length c) l.length (icells l) ∧ Below w.heap.size w w'

end Go.Proofs.Ythpapkfpcijpoaa
/-
  'IsPainting': the model's and the program's, by their contracts.
-/
namespace Go.Proofs.Ythpapkfpcijpoaa
open Go.RowKit

theorem isX_p {p k : Int} {l : List Int} (h : ¬ (0 ≤ p ∧ p ≤ 8)) : isX p k l = false := by simp [isX, h]
theorem isX_k {p k : Int} {l : List Int} (h : ¬ (1 ≤ k ∧ k ≤ 3)) : isX p k l = false := by simp [isX, h]
theorem isX_l {p k : Int} {l : List Int} (h : ¬ ((l.length : Int) = (p * (p - 1)).tdiv 2)) : isX p k l = false := by simp [isX, h]
theorem isX_else {p k : Int} {l : List Int} (h : 0 ≤ p ∧ p ≤ 8) (h1 : 1 ≤ k ∧ k ≤ 3) (h2 : (l.length : Int) = (p * (p - 1)).tdiv 2) : isX p k l = l1AllB l 0 (k - 1) := by simp [isX, h, h1, h2]
theorem sq_in {p : Int} (h : 0 ≤ p ∧ p ≤ 8) : 0 ≤ p * (p - 1) ∧ p * (p - 1) ≤ 1000 ∧ 0 ≤ (p * (p - 1)).tdiv 2 ∧ (p * (p - 1)).tdiv 2 ≤ 1000 := by
  have all : ∀ n : Fin 9, 0 ≤ (n.val : Int) * ((n.val : Int) - 1) ∧ (n.val : Int) * ((n.val : Int) - 1) ≤ 1000 ∧ 0 ≤ ((n.val : Int) * ((n.val : Int) - 1)).tdiv 2 ∧ ((n.val : Int) * ((n.val : Int) - 1)).tdiv 2 ≤ 1000 := by decide +kernel
  have := all ⟨p.toNat, by omega⟩
  simpa only [show ((p.toNat : Nat) : Int) = p from by omega] using this

def resIsPainting (p k : Int) (l : List Int) : Bool := isX p k l

/-- what the program asks of a colour -/
def isColB (k x : Int) : Bool := decide (0 ≤ x) && decide (x < k)
theorem any_noI {l : List Int} {f : Int → Bool} (h : ∀ (j : Nat) (x : Int), j < l.length → l[j]? = some x → f x = false) : l.any f = false := by
  rw [List.any_eq_false]
  intro x hx
  obtain ⟨j, hj, e⟩ := List.getElem_of_mem hx
  rw [h j x hj (by rw [List.getElem?_eq_getElem hj, e])]
  simp
theorem none_all {k : Int} {l : List Int} : (!l.any fun x => !isColB k x) = l1AllB l 0 (k - 1) := by
  unfold l1AllB
  induction l with
  | nil => rfl
  | cons x l ih =>
    rw [List.any_cons, List.all_cons, ← ih]
    have : decide (0 ≤ x ∧ x ≤ k - 1) = isColB k x := by
      unfold isColB
      by_cases h0 : 0 ≤ x <;> by_cases h1 : x < k <;> simp [h0, h1] <;> omega
    rw [this]
    cases isColB k x <;> simp
end Go.Proofs.Ythpapkfpcijpoaa
/-
  ALL PAIRS: 'everyPair', by its contract.
-/
namespace Go.Proofs.Ythpapkfpcijpoaa
open Go.RowKit

theorem otherP_nil (n : Nat) : otherP n [] = allP n := by
  unfold otherP
  rw [List.filter_eq_self]
  intro q _
  rfl
theorem Try.run_pairsE (a b : Value) (X : World) : (Instr.field 31 (.agg #[a, b]) 1).run Try.prog X = .ok b X := by
  simp [Instr.field, go_sem]
  rfl
set_option maxHeartbeats 1000000 in
set_option maxRecDepth 100000 in
theorem everyPair_any (n : Nat) (hn : n ≤ 12) (w : World) :
    Calls Try.prog 62 #[.int .i64 n] w fun e w' => ∃ A c, e = .returned (.slice A (allP n).length c) ∧ w'.ownsRow w.heap.size 71 2 (.slice A (allP n).length c) (allP n).length (pcells (allP n)) ∧ Below w.heap.size w w' := by
  have hp : isP (n : Int) [] = true := by unfold isP; simp; omega
  have call := fun X : World => other_any (n : Int) [] none 0 X hp CRead.nil
  rw [Int.toNat_natCast, otherP_nil] at call
  have Call := Lib.hid call
  have hf := Try.run_pairsE
  clear call hp
  go_enter Try.func62, Try.ntmps62
  go_wp2_with fail
  refine (Call.out _).mono ?_
  rintro e w2 ⟨A2, c2, rfl, own2, hb2⟩
  go_wp2
  go_ret
  exact ⟨A2, c2, rfl, own2, hb2⟩
end Go.Proofs.Ythpapkfpcijpoaa
/-
  TWO PARTIES BESIDE EACH OTHER, as lists and as tables.
-/
namespace Go.Proofs.Ythpapkfpcijpoaa
open Go.RowKit

def shifted (p : Int) (l : PL) : PL := l.map fun q => (q.1 + p, q.2 + p)
def besideP (p : Int) (l m : PL) : PL := l ++ shifted p m
theorem mem_shifted {p : Int} {l : PL} {q : Int × Int} : q ∈ shifted p l ↔ (q.1 - p, q.2 - p) ∈ l := by
  unfold shifted
  rw [List.mem_map]
  constructor
  · rintro ⟨r, hr, rfl⟩
    have e : (r.1 + p - p, r.2 + p - p) = r := Prod.ext (by simp) (by simp)
    rw [e]
    exact hr
  · intro h
    exact ⟨_, h, Prod.ext (by simp) (by simp)⟩
theorem beside_list {p s : Int} {l m : PL} (hl : isP p l = true) (hm : isP s m = true) (h : p + s ≤ 12) : IsList (p + s) (besideP p l m) := by
  obtain ⟨a0, a1, a2, a3⟩ := isP_list hl
  obtain ⟨b0, b1, b2, b3⟩ := isP_list hm
  refine ⟨by omega, h, fun q hq => ?_, ?_⟩
  · unfold besideP at hq
    rcases List.mem_append.1 hq with hq | hq
    · have := a2 q hq
      omega
    · have := b2 _ (mem_shifted.1 hq)
      simp only at this
      omega
  · unfold besideP
    rw [List.pairwise_append]
    refine ⟨a3, ?_, ?_⟩
    · unfold shifted
      rw [List.pairwise_map]
      exact b3.imp fun {x y} h => by unfold plt at *; simp only; omega
    · intro x hx y hy
      have h1 := a2 x hx
      have h2 := b2 _ (mem_shifted.1 hy)
      unfold plt
      simp only at h2
      omega
/-- the table of both: each one's own, and x between them -/
def joinT (p : Nat) (t t' : Nat → Nat → Bool) (x : Bool) : Nat → Nat → Bool := fun i j => if i < p then (if j < p then t i j else x) else if j < p then x else t' (i - p) (j - p)
theorem joinT_adj {p s : Nat} {l m : PL} (hl : isP p l = true) (hm : isP s m = true) {i j : Nat} (hij : i < j) : joinT p (adj l) (adj m) false i j = true ↔ ((i : Int), (j : Int)) ∈ besideP p l m := by
  have a2 := (isP_list hl).2.2.1
  have b2 := (isP_list hm).2.2.1
  unfold joinT besideP
  rw [List.mem_append, mem_shifted]
  by_cases hj : j < p
  · rw [if_pos (by omega), if_pos hj, adj_pair hl hij, List.contains_iff_mem]
    refine ⟨.inl, fun h => h.elim id fun h => ?_⟩
    have := b2 _ h
    simp only at this
    omega
  · have hn : ¬ ((i : Int), (j : Int)) ∈ l := fun h => by
      have := a2 _ h
      simp only at this
      omega
    by_cases hi : i < p
    · rw [if_pos hi, if_neg hj]
      refine ⟨fun h => (by cases h), fun h => ?_⟩
      rcases h with h | h
      · exact absurd h hn
      · have := b2 _ h
        simp only at this
        omega
    · rw [if_neg hi, if_neg hj, adj_pair hm (by omega), List.contains_iff_mem]
      have e1 : ((i - p : Nat) : Int) = (i : Int) - p := by omega
      have e2 : ((j - p : Nat) : Int) = (j : Int) - p := by omega
      rw [e1, e2]
      exact ⟨.inr, fun h => h.elim (fun h => absurd h hn) id⟩
theorem tabP_beside {p s : Nat} {l m : PL} (hl : isP p l = true) (hm : isP s m = true) (h : p + s ≤ 12) : tabP (p + s) (joinT p (adj l) (adj m) false) = besideP p l m := by
  have hb := beside_list hl hm (by omega)
  refine sorted_ext (filter_list h _).2.2.2 hb.2.2.2 fun q => ?_
  unfold tabP
  rw [List.mem_filter, mem_allP]
  constructor
  · rintro ⟨⟨h0, h1, h2⟩, ht⟩
    have e : q = (((q.1.toNat : Nat) : Int), ((q.2.toNat : Nat) : Int)) := Prod.ext (by simp; omega) (by simp; omega)
    rw [e]
    exact (joinT_adj hl hm (by omega)).1 ht
  · intro hq
    have h3 := hb.2.2.1 q hq
    have e : q = (((q.1.toNat : Nat) : Int), ((q.2.toNat : Nat) : Int)) := Prod.ext (by simp; omega) (by simp; omega)
    refine ⟨by omega, (joinT_adj hl hm (by omega)).2 ?_⟩
    rw [← e]
    exact hq
end Go.Proofs.Ythpapkfpcijpoaa
/-
  TWO PARTIES TOGETHER: all of the one friends of all of the other, as lists and as tables; a table of both in the middle of being filled.
-/
namespace Go.Proofs.Ythpapkfpcijpoaa
open Go.RowKit

theorem other_isP {n : Nat} {l : PL} (h : isP n l = true) : isP n (otherP n l) = true := by
  have h12 := (isP_range h).2
  exact filter_isP (by omega) _
theorem adj_other {n : Nat} {l : PL} (h : isP n l = true) {i j : Nat} (hij : i < j) (hj : j < n) : adj (otherP n l) i j = !adj l i j := by
  rw [adj_pair (other_isP h) hij, adj_pair h hij, Bool.eq_iff_iff, List.contains_iff_mem]
  unfold otherP
  rw [List.mem_filter, mem_allP]
  constructor
  · intro h; exact h.2
  · intro h; exact ⟨⟨by simp only; omega, by simp only; omega, by simp only; omega⟩, h⟩
def togetherP (p s : Nat) (l m : PL) : PL := otherP (p + s) (besideP p (otherP p l) (otherP s m))
theorem beside_isP {p s : Nat} {l m : PL} (hl : isP p l = true) (hm : isP s m = true) (h : p + s ≤ 12) : isP ((p + s : Nat) : Int) (besideP p l m) = true := by
  have := beside_list (p := p) (s := s) hl hm (by omega)
  have e : ((p + s : Nat) : Int) = (p : Int) + s := by omega
  rw [e]
  exact isP_of_list this
theorem tabP_together {p s : Nat} {l m : PL} (hl : isP p l = true) (hm : isP s m = true) (h : p + s ≤ 12) : tabP (p + s) (joinT p (adj l) (adj m) true) = togetherP p s l m := by
  have ho := other_isP hl
  have ho' := other_isP hm
  unfold togetherP
  rw [← tabP_other (beside_isP ho ho' h)]
  refine tabP_congr fun i j hij hj => ?_
  have hB := beside_isP ho ho' h
  rw [adj_pair hB hij]
  have e := joinT_adj ho ho' hij
  have e' : (besideP (p : Int) (otherP p l) (otherP s m)).contains ((i : Int), (j : Int)) = joinT p (adj (otherP p l)) (adj (otherP s m)) false i j := by
    rw [Bool.eq_iff_iff, List.contains_iff_mem, e]
  rw [e']
  unfold joinT
  by_cases hj' : j < p
  · rw [if_pos (show i < p by omega), if_pos hj', if_pos (show i < p by omega), if_pos hj', adj_other hl hij hj', Bool.not_not]
  · by_cases hi' : i < p
    · simp [hi', hj']
    · rw [if_neg hi', if_neg hj', if_neg hi', if_neg hj', adj_other hm (by omega) (by omega), Bool.not_not]

/-! ## The table of both, in the middle of being filled -/
/-- the first a rows of the one, its first p cells -/
def fillA (p : Nat) (t : Nat → Nat → Bool) (a : Nat) : Nat → Nat → Bool := fun i j => if i < a ∧ j < p then t i j else false
/-- the other one's too, its first a rows -/
def fillB (p : Nat) (t t' : Nat → Nat → Bool) (a : Nat) : Nat → Nat → Bool := fun i j => if i < p ∧ j < p then t i j else if p ≤ i ∧ i < p + a ∧ p ≤ j then t' (i - p) (j - p) else false
/-- what is between them: the first a rows, and of the next one up to b -/
def fillC (p : Nat) (t t' : Nat → Nat → Bool) (x : Bool) (a b : Nat) : Nat → Nat → Bool := fun i j =>
  if i < p ∧ j < p then t i j else if p ≤ i ∧ p ≤ j then t' (i - p) (j - p) else if i < p then (if i < a ∨ i = a ∧ j < b then x else false) else if j < a ∨ j = a ∧ i < b then x else false
theorem fillC_next (p : Nat) (t t' : Nat → Nat → Bool) (x : Bool) {a b : Nat} (ha : a < p) (hb : p ≤ b) : upd (upd (fillC p t t' x a b) a b x) b a x = fillC p t t' x a (b + 1) := by
  funext i j
  unfold upd fillC
  by_cases h1 : i = b ∧ j = a
  · obtain ⟨rfl, rfl⟩ := h1
    rw [if_pos ⟨rfl, rfl⟩, if_neg (by omega), if_neg (by omega), if_neg (by omega), if_pos (by omega)]
  · rw [if_neg h1]
    by_cases h2 : i = a ∧ j = b
    · obtain ⟨rfl, rfl⟩ := h2
      rw [if_pos ⟨rfl, rfl⟩, if_neg (by omega), if_neg (by omega), if_pos (by omega), if_pos (by omega)]
    · rw [if_neg h2]
      by_cases c1 : i < p ∧ j < p
      · rw [if_pos c1, if_pos c1]
      · rw [if_neg c1, if_neg c1]
        by_cases c2 : p ≤ i ∧ p ≤ j
        · rw [if_pos c2, if_pos c2]
        · rw [if_neg c2, if_neg c2]
          by_cases c3 : i < p
          · rw [if_pos c3, if_pos c3]
            have : (i < a ∨ i = a ∧ j < b) ↔ (i < a ∨ i = a ∧ j < b + 1) := by omega
            simp only [this]
          · rw [if_neg c3, if_neg c3]
            have : (j < a ∨ j = a ∧ i < b) ↔ (j < a ∨ j = a ∧ i < b + 1) := by omega
            simp only [this]
theorem fillC_row {n : Nat} (p : Nat) (t t' : Nat → Nat → Bool) (x : Bool) (a : Nat) : ∀ i j, i < n → j < n → fillC p t t' x a n i j = fillC p t t' x (a + 1) p i j := by
  intro i j hi hj
  unfold fillC
  by_cases c1 : i < p ∧ j < p
  · rw [if_pos c1, if_pos c1]
  · rw [if_neg c1, if_neg c1]
    by_cases c2 : p ≤ i ∧ p ≤ j
    · rw [if_pos c2, if_pos c2]
    · rw [if_neg c2, if_neg c2]
      by_cases c3 : i < p
      · rw [if_pos c3, if_pos c3]
        have : (i < a ∨ i = a ∧ j < n) ↔ (i < a + 1 ∨ i = a + 1 ∧ j < p) := by omega
        simp only [this]
      · rw [if_neg c3, if_neg c3]
        have : (j < a ∨ j = a ∧ i < n) ↔ (j < a + 1 ∨ j = a + 1 ∧ i < p) := by omega
        simp only [this]
theorem fillC_start {n : Nat} (p s : Nat) (t t' : Nat → Nat → Bool) (x : Bool) (hn : n = p + s) : ∀ i j, i < n → j < n → fillB p t t' s i j = fillC p t t' x 0 p i j := by
  intro i j hi hj
  unfold fillB fillC
  by_cases c1 : i < p ∧ j < p
  · rw [if_pos c1, if_pos c1]
  · rw [if_neg c1, if_neg c1]
    by_cases c2 : p ≤ i ∧ p ≤ j
    · rw [if_pos c2, if_pos (by omega)]
    · rw [if_neg c2, if_neg (by omega)]
      by_cases c3 : i < p
      · rw [if_pos c3, if_neg (by omega)]
      · rw [if_neg c3, if_neg (by omega)]
theorem fillC_all {n : Nat} (p : Nat) (t t' : Nat → Nat → Bool) (x : Bool) (b : Nat) : ∀ i j, i < n → j < n → fillC p t t' x p b i j = joinT p t t' x i j := by
  intro i j hi hj
  unfold fillC joinT
  by_cases c1 : i < p
  · by_cases c2 : j < p
    · simp [c1, c2]
    · rw [if_neg (by omega), if_neg (by omega), if_pos c1, if_pos (by omega), if_pos c1, if_neg c2]
  · by_cases c2 : j < p
    · rw [if_neg (by omega), if_neg (by omega), if_neg c1, if_pos (by omega), if_neg c1, if_pos c2]
    · rw [if_neg (by omega), if_pos (by omega), if_neg c1, if_neg c2]
theorem fillA_start (p : Nat) (t : Nat → Nat → Bool) : fillA p t 0 = fun _ _ => false := by funext i j; simp [fillA]
theorem fillB_start (p : Nat) (t t' : Nat → Nat → Bool) : fillB p t t' 0 = fillA p t p := by
  funext i j
  unfold fillB fillA
  by_cases c : i < p ∧ j < p
  · rw [if_pos c, if_pos c]
  · rw [if_neg c, if_neg c, if_neg (by omega)]
end Go.Proofs.Ythpapkfpcijpoaa
/-
  PARTIES OF PARTS: sizes as plain lists; the part of a person; the pairs of people of different parts; even sizes. Nothing here speaks of the program.
-/
namespace Go.Proofs.Ythpapkfpcijpoaa
open Go.RowKit

/-- the parts of the people: k as often as the first size, k + 1 as often as the second, .. -/
def partL (k : Int) : List Int → List Int
  | [] => []
  | s :: r => List.replicate s.toNat k ++ partL (k + 1) r
theorem partL_snoc (k : Int) (l : List Int) (s : Int) : partL k (l ++ [s]) = partL k l ++ List.replicate s.toNat (k + l.length) := by
  induction l generalizing k with
  | nil => simp [partL]
  | cons x l ih =>
    have e : k + 1 + (l.length : Int) = k + ((l.length + 1 : Nat) : Int) := by omega
    simp only [List.cons_append, partL, ih, List.append_assoc, List.length_cons, e]
theorem partL_mem {k : Int} {l : List Int} {x : Int} (h : x ∈ partL k l) : k ≤ x ∧ x < k + l.length := by
  induction l generalizing k with
  | nil => simp [partL] at h
  | cons s l ih =>
    simp only [partL, List.mem_append, List.mem_replicate] at h
    rcases h with ⟨_, rfl⟩ | h
    · simp only [List.length_cons]; omega
    · have := ih h; simp only [List.length_cons]; omega
theorem sumI_cons (x : Int) (l : List Int) : sumI (x :: l) = x + sumI l := by
  have h : ∀ (l : List Int) (a b : Int), l.foldl (· + ·) (a + b) = a + l.foldl (· + ·) b := by
    intro l
    induction l with
    | nil => intro a b; rfl
    | cons y l ih => intro a b; rw [List.foldl_cons, List.foldl_cons, Int.add_assoc, ih]
  unfold sumI
  rw [List.foldl_cons, Int.zero_add]
  have := h l x 0
  rwa [Int.add_zero] at this
theorem partL_length {l : List Int} (h : ∀ x ∈ l, 0 ≤ x) (k : Int) : ((partL k l).length : Int) = sumI l := by
  induction l generalizing k with
  | nil => rfl
  | cons s l ih =>
    rw [sumI_cons, ← ih (fun x hx => h x (List.mem_cons_of_mem _ hx)) (k + 1)]
    have := h s List.mem_cons_self
    simp only [partL, List.length_append, List.length_replicate]
    omega
/-- whether two people are of different parts -/
def partF (L : List Int) (i j : Nat) : Bool := decide (L.getD i 0 ≠ L.getD j 0)
def partsP (q : List Int) : PL := tabP (partL 0 q).length (partF (partL 0 q))
theorem adj_tabP {n : Nat} (hn : n ≤ 12) {f : Nat → Nat → Bool} {i j : Nat} (hij : i < j) (hj : j < n) : adj (tabP n f) i j = f i j := by
  unfold tabP
  rw [adj_pair (filter_isP hn _) hij, Bool.eq_iff_iff, List.contains_iff_mem]
  rw [List.mem_filter, mem_allP]
  simp only [Int.toNat_natCast]
  constructor
  · intro h; exact h.2
  · intro h; exact ⟨⟨by omega, by omega, by omega⟩, h⟩
theorem partsP_isP {q : List Int} (h : (partL 0 q).length ≤ 12) : isP (partL 0 q).length (partsP q) = true := filter_isP h _
/-- one part more -/
theorem partsP_next {q : List Int} {s : Int} (hle : (partL 0 q).length + s.toNat ≤ 12) :
    tabP ((partL 0 q).length + s.toNat) (joinT (partL 0 q).length (adj (partsP q)) (adj []) true) = partsP (q ++ [s]) := by
  unfold partsP
  rw [partL_snoc, List.length_append, List.length_replicate]
  generalize hL : partL 0 q = L at *
  have hm : ∀ x ∈ L, x < (q.length : Int) := fun x hx => by rw [← hL] at hx; have := partL_mem hx; omega
  refine tabP_congr fun i j hij hj => ?_
  unfold joinT partF
  rw [Int.zero_add]
  have left : ∀ k, k < L.length → (L ++ List.replicate s.toNat (q.length : Int)).getD k 0 = L.getD k 0 := fun k hk => by
    rw [List.getD_eq_getElem?_getD, List.getD_eq_getElem?_getD, List.getElem?_append_left hk]
  have right : ∀ k, L.length ≤ k → k < L.length + s.toNat → (L ++ List.replicate s.toNat (q.length : Int)).getD k 0 = q.length := fun k h1 h2 => by
    rw [List.getD_eq_getElem?_getD, List.getElem?_append_right h1, List.getElem?_replicate, if_pos (by omega)]; rfl
  have low : ∀ k, k < L.length → L.getD k 0 < q.length := fun k hk => by
    rw [List.getD_eq_getElem?_getD, List.getElem?_eq_getElem hk]
    exact hm _ (List.getElem_mem hk)
  by_cases hi : i < L.length
  · by_cases hj' : j < L.length
    · rw [if_pos hi, if_pos hj', left i hi, left j hj', adj_tabP (by omega) hij hj']
    · rw [if_pos hi, if_neg hj', left i hi, right j (by omega) hj]
      have := low i hi
      symm
      rw [decide_eq_true_iff]
      omega
  · rw [if_neg hi, if_neg (by omega), right i (by omega) (by omega), right j (by omega) hj]
    simp [adj]
/-! ## What PartsParty answers -/
def goodS (q : List Int) : Bool := decide (q ≠ []) && (q.all fun x => decide (1 ≤ x)) && decide (sumI q ≤ 12)
def resPartsParty (q : List Int) : Int × PL × Bool := if goodS q then (sumI q, partsP q, true) else (0, [], false)
theorem goodS_parts {q : List Int} (h : goodS q = true) : q ≠ [] ∧ (∀ x ∈ q, 1 ≤ x) ∧ sumI q ≤ 12 := by
  simp only [goodS, Bool.and_eq_true, decide_eq_true_eq, List.all_eq_true] at h
  exact ⟨h.1.1, h.1.2, h.2⟩
theorem goodS_of {q : List Int} (h : q ≠ []) (h1 : ∀ x ∈ q, 1 ≤ x) (h2 : sumI q ≤ 12) : goodS q = true := by
  simp only [goodS, Bool.and_eq_true, decide_eq_true_eq, List.all_eq_true]
  exact ⟨⟨h, h1⟩, h2⟩
theorem sum_len {q : List Int} (h1 : ∀ x ∈ q, 1 ≤ x) : (q.length : Int) ≤ sumI q := by
  induction q with
  | nil => simp [sumI_nil]
  | cons x q ih =>
    rw [sumI_cons]
    have := h1 x List.mem_cons_self
    have := ih fun y hy => h1 y (List.mem_cons_of_mem _ hy)
    simp only [List.length_cons]
    omega
theorem sum_nonneg {q : List Int} (h1 : ∀ x ∈ q, 0 ≤ x) : 0 ≤ sumI q := by
  rw [← partL_length h1 0]; omega
theorem sumI_append (a b : List Int) : sumI (a ++ b) = sumI a + sumI b := by
  induction a with
  | nil => simp [sumI_nil]
  | cons x a ih => rw [List.cons_append, sumI_cons, sumI_cons, ih]; omega
/-- a bad size, all before it good and of a sum: it fails -/
theorem goodS_no {q : List Int} {k : Nat} {s : Int} (hs : q[k]? = some s) (h : s < 1 ∨ 12 - sumI (q.take k) < s) : goodS q = false := by
  cases hg : goodS q with
  | false => rfl
  | true =>
    obtain ⟨_, h1, h2⟩ := goodS_parts hg
    have hk : k < q.length := (List.getElem?_eq_some_iff.1 hs).1
    have e : q = q.take (k + 1) ++ q.drop (k + 1) := (List.take_append_drop _ _).symm
    have hd : 0 ≤ sumI (q.drop (k + 1)) := sum_nonneg fun x hx => by have := h1 x (List.mem_of_mem_drop hx); omega
    have e2 : sumI (q.take (k + 1)) = sumI (q.take k) + s := by rw [List.take_add_one, hs, Option.toList_some, sumI_snoc]
    have hs1 := h1 s (List.mem_of_getElem? hs)
    rw [e, sumI_append] at h2
    omega
theorem resPartsParty_len (q : List Int) : (resPartsParty q).2.1.length ≤ 1048576 := by
  unfold resPartsParty
  split
  · rename_i h
    obtain ⟨_, h1, h2⟩ := goodS_parts h
    have := partL_length (l := q) (fun x hx => by have := h1 x hx; omega) 0
    have := filter_length_le (n := (partL 0 q).length) (by omega) (fun r => partF (partL 0 q) r.1.toNat r.2.toNat)
    show (partsP q).length ≤ 1048576
    unfold partsP tabP
    omega
  · simp
/-! ## Even sizes -/
def evenI (n parts : Nat) : List Int := (List.range parts).map fun k : Nat => if k < n % parts then ((n / parts : Nat) : Int) + 1 else ((n / parts : Nat) : Int)
def evenB (n parts : Nat) : Bool := goodS (evenI n parts) && decide (sumI (evenI n parts) = n)
theorem even_all : ∀ n : Fin 13, ∀ k : Fin 13, 1 ≤ k.val → k.val ≤ n.val → evenB n.val k.val = true := by decide +kernel
theorem evenI_length (n p : Nat) : (evenI n p).length = p := by simp [evenI]
theorem evenI_at {n p k : Nat} (hk : k < p) : (evenI n p)[k]? = some (if k < n % p then ((n / p : Nat) : Int) + 1 else ((n / p : Nat) : Int)) := by simp [evenI, hk]
theorem evenI_none (p : Nat) : evenI 0 p = List.replicate p 0 := by
  unfold evenI
  refine List.eq_replicate_iff.2 ⟨by simp, fun x hx => ?_⟩
  obtain ⟨k, _, rfl⟩ := List.mem_map.1 hx
  simp
theorem evenI_next_all : ∀ a : Fin 12, ∀ p : Fin 13, 1 ≤ p.val → (evenI a.val p.val).set (a.val % p.val) (((a.val / p.val : Nat) : Int) + 1) = evenI (a.val + 1) p.val := by decide +kernel
theorem evenI_next {a p : Nat} (ha : a < 12) (hp : 1 ≤ p) (hp12 : p ≤ 12) : (evenI a p).set (a % p) (((a / p : Nat) : Int) + 1) = evenI (a + 1) p := evenI_next_all ⟨a, ha⟩ ⟨p, by omega⟩ hp
theorem evenI_good {n p : Nat} (hn : n ≤ 12) (hp : 1 ≤ p) (hpn : p ≤ n) : goodS (evenI n p) = true ∧ sumI (evenI n p) = n := by
  have := even_all ⟨n, by omega⟩ ⟨p, by omega⟩ hp hpn
  simpa [evenB] using this
/-! ## What TuranParty and MostWithout answer -/
def resTuranParty (n p : Int) : Int × PL × Bool := if decide (1 ≤ n ∧ n ≤ 12) && decide (1 ≤ p ∧ p ≤ n) then (n, partsP (evenI n.toNat p.toNat), true) else (0, [], false)
def resMostWithout (n s : Int) : Int × Bool := if decide (1 ≤ n ∧ n ≤ 12) && decide (2 ≤ s ∧ s ≤ n + 1) then (((partsP (evenI n.toNat (s - 1).toNat)).length : Int), true) else (0, false)
theorem resTuran_parts {n p : Nat} (hn : n ≤ 12) (hp : 1 ≤ p) (hpn : p ≤ n) : resPartsParty (evenI n p) = ((n : Int), partsP (evenI n p), true) := by
  obtain ⟨h1, h2⟩ := evenI_good hn hp hpn
  unfold resPartsParty
  rw [h1, if_pos rfl, h2]
theorem partsP_len12 {n p : Nat} (hn : n ≤ 12) (hp : 1 ≤ p) (hpn : p ≤ n) : (partsP (evenI n p)).length ≤ 66 := by
  obtain ⟨h1, h2⟩ := evenI_good hn hp hpn
  obtain ⟨_, g1, g2⟩ := goodS_parts h1
  have := partL_length (l := evenI n p) (fun x hx => by have := g1 x hx; omega) 0
  exact filter_length_le (n := (partL 0 (evenI n p)).length) (by omega) _
theorem resTuranParty_len (n p : Int) : (resTuranParty n p).2.1.length ≤ 1048576 := by
  unfold resTuranParty
  split
  · rename_i h
    simp only [Bool.and_eq_true, decide_eq_true_eq] at h
    have := partsP_len12 (n := n.toNat) (p := p.toNat) (by omega) (by omega) (by omega)
    show (partsP _).length ≤ 1048576
    omega
  · simp
end Go.Proofs.Ythpapkfpcijpoaa
/-
  PARTIES THAT ARE TOLD BY A CONDITION, in pure terms: windmills, circles, pairs as people.
-/
namespace Go.Proofs.Ythpapkfpcijpoaa
open Go.RowKit

/-- who are friends in a windmill -/
def millT (i j : Nat) : Bool := decide (i = 0 ∨ (i % 2 = 1 ∧ j = i + 1))
/-- the model's table of a windmill behind so many people -/
def millS : Nat → Nat → Nat → Bool
  | 0 => fun _ _ => false
  | k + 1 => upd (upd (upd (millS k) 0 (k + 1) true) (k + 1) 0 true) (k + 1) (k + 2 * ((k + 1) % 2)) true
theorem millS_at (k : Nat) : ∀ i j, i < j → millS k i j = decide ((i = 0 ∧ j ≤ k) ∨ (i % 2 = 1 ∧ j = i + 1 ∧ i ≤ k)) := by
  induction k with
  | zero =>
    intro i j hij
    simp only [millS]
    refine (decide_eq_false ?_).symm
    omega
  | succ k ih =>
    intro i j hij
    simp only [millS, upd]
    by_cases h1 : i = k + 1 ∧ j = k + 2 * ((k + 1) % 2)
    · rw [if_pos h1]
      refine (decide_eq_true ?_).symm
      omega
    · rw [if_neg h1]
      by_cases h2 : i = k + 1 ∧ j = 0
      · omega
      · rw [if_neg h2]
        by_cases h3 : i = 0 ∧ j = k + 1
        · rw [if_pos h3]
          refine (decide_eq_true ?_).symm
          omega
        · rw [if_neg h3, ih i j hij, decide_eq_decide]
          omega
theorem millS_all (s : Nat) : tabP (2 * s + 1) (millS (2 * s)) = tabP (2 * s + 1) millT := by
  refine tabP_congr fun i j hij hj => ?_
  rw [millS_at _ i j hij]
  unfold millT
  rw [decide_eq_decide]
  omega
def resWindmillParty (s : Int) : Int × PL × Bool := if 0 ≤ s ∧ s ≤ 5 then (2 * s + 1, tabP (2 * s.toNat + 1) millT, true) else (0, [], false)
/-- whether two pairs have somebody in common -/
def meetP (x y : Int × Int) : Bool := decide (x.1 = y.1) || decide (x.1 = y.2) || decide (x.2 = y.1) || decide (x.2 = y.2)
def pairAt (l : PL) (i : Nat) : Int × Int := l.getD i (0, 0)
/-- who are friends where people are pairs -/
def lineT (l : PL) (c : Bool) (i j : Nat) : Bool := decide (i ≠ j) && (meetP (pairAt l i) (pairAt l j) == c)
def linesP (l : PL) : PL := tabP l.length fun i j => meetP (pairAt l i) (pairAt l j)
theorem lines_common (l : PL) : tabP l.length (lineT l true) = linesP l := by
  refine tabP_congr fun i j hij hj => ?_
  simp only [lineT, decide_eq_true (show i ≠ j by omega), Bool.true_and]
  cases meetP (pairAt l i) (pairAt l j) <;> rfl
theorem linesP_isP {l : PL} (h : l.length ≤ 12) : isP l.length (linesP l) = true := filter_isP h _
theorem lines_other {l : PL} (h : l.length ≤ 12) : otherP l.length (linesP l) = tabP l.length (lineT l false) := by
  rw [← tabP_other (linesP_isP h)]
  refine tabP_congr fun i j hij hj => ?_
  unfold linesP
  rw [adj_tabP h hij hj]
  simp only [lineT, decide_eq_true (show i ≠ j by omega), Bool.true_and]
  cases meetP (pairAt l i) (pairAt l j) <;> rfl
def resLinesOf (p : Int) (l : PL) : Int × PL × Bool := if isP p l && decide (l.length ≤ 12) then (l.length, linesP l, true) else (0, [], false)
theorem allP_few : ∀ n : Fin 6, (allP n.val).length ≤ 12 := by decide +kernel
def resPairParty (n : Int) : Int × PL × Bool := if 2 ≤ n ∧ n ≤ 5 then ((allP n.toNat).length, otherP (allP n.toNat).length (linesP (allP n.toNat)), true) else (0, [], false)
end Go.Proofs.Ythpapkfpcijpoaa
/-
  slices.DeleteFunc at pairs with the program's closure, by its contract; 'impl.partyWhere'.
-/
namespace Go.Proofs.Ythpapkfpcijpoaa
open Go.RowKit

theorem below_setCells {B : Nat} (b : Nat) (hb : B ≤ b) : ∀ (vs : List Value) (o : Nat) {w0 w : World}, Below B w0 w → Below B w0 (w.setCells b o vs)
  | [], _, _, _, h => h
  | v :: r, o, _, _, h => below_setCells b hb r (o + 1) (h.setCell (p := ⟨b, o, none⟩) hb v)
theorem own_setCells {base g n c : Nat} {e : TypeId} {size : Nat} : ∀ (vs : List Value) (o : Nat) {w : World} {xs : List Value}, w.ownsRow base e size (.slice (some ⟨g, 0, none⟩) n c) n xs →
    ∃ xs', (w.setCells g o vs).ownsRow base e size (.slice (some ⟨g, 0, none⟩) n c) n xs' ∧ xs'.take o = xs.take o
  | [], o, _, xs, h => ⟨xs, h, rfl⟩
  | v :: r, o, w, xs, h => by
    obtain ⟨xs', h1, h2⟩ := own_setCells r (o + 1) (h.stored o v).1
    refine ⟨xs', h1, ?_⟩
    have h3 : (xs'.take (o + 1)).take o = ((xs.set o v).take (o + 1)).take o := by rw [h2]
    rw [List.take_take, List.take_take, Nat.min_eq_left (by omega)] at h3
    rw [h3, List.take_set_of_le (Nat.le_refl _)]
theorem own_cut {w : World} {base g n c m : Nat} {e : TypeId} {size : Nat} {xs : List Value} (h : w.ownsRow base e size (.slice (some ⟨g, 0, none⟩) n c) n xs) (hm : m ≤ n) :
    w.ownsRow base e size (.slice (some ⟨g, 0, none⟩) m c) m (xs.take (m * size)) := by
  obtain ⟨hl, h2⟩ := h
  have hms : m * size ≤ n * size := Nat.mul_le_mul_right _ hm
  refine ⟨by rw [List.length_take, hl]; omega, ?_⟩
  rcases h2 with ⟨h3, _⟩ | ⟨g', cap, cur, hv, hg, hh, hc, hmx, hsz, htk⟩
  · cases h3
  · simp only [Value.slice.injEq] at hv
    obtain ⟨e1, _, rfl⟩ := hv
    refine .inr ⟨g', c, cur, by rw [e1], hg, hh, by omega, hmx, hsz, ?_⟩
    rw [← htk, List.take_take, Nat.min_eq_left hms]
theorem pcells_take (K : PL) : ∀ m, (pcells K).take (m * 2) = pcells (K.take m) := by
  induction K with
  | nil => intro m; simp [pcells]
  | cons q K ih =>
    intro m
    cases m with
    | zero => simp [pcells]
    | succ m =>
      have h := ih m
      rw [show (m + 1) * 2 = m * 2 + 2 by omega]
      simp only [pcells, List.take_succ_cons] at h ⊢
      simpa using h
theorem run_clear_pairs (w : World) (b o n c : Nat) (hn : 0 < n) (hc : ∀ j, j < n * 2 → (w.cell? ⟨b, o + j, none⟩).isSome = true) (hf : ∀ j, j < n * 2 → w.frozen? ⟨b, o + j, none⟩ = false) (ty : TypeId) :
    (Builtin.clear_ #[29] ty #[.slice (some ⟨b, o, none⟩) n c]).run Try.prog w = .ok (.tuple #[]) (w.setCells b o (List.replicate (n * 2) (.int .i64 0))) := by
  have hv : ∀ w : World, (zeroValue 71).run Try.prog w = .ok (.agg #[.int .i64 0, .int .i64 0]) w := fun w => by kernel_rfl
  have hzc : (Builtin.zeroCells (Value.cells (.agg #[.int .i64 0, .int .i64 0])) n).toList = List.replicate (n * 2) (.int .i64 0) := by
    rw [show Value.cells (.agg #[.int .i64 0, .int .i64 0]) = #[.int .i64 0, .int .i64 0] from rfl]
    apply List.ext_getElem
    · simp [Builtin.zeroCells]
    · intro i h1 h2
      simp [Builtin.zeroCells]
      rcases Nat.mod_two_eq_zero_or_one i with h | h <;> simp [h]
  have hst := run_storeCells_cells (P := Try.prog) b o (List.replicate (n * 2) (.int .i64 0)) 0 w (by simpa using hc) (by simpa using hf) (by intro v hv'; rw [List.eq_of_mem_replicate hv']; rfl)
  simp only [Nat.add_zero] at hst
  obtain ⟨m, rfl⟩ : ∃ m, n = m + 1 := ⟨n - 1, by omega⟩
  simp [Builtin.clear_, run_underlying Try.underlying29, hv, hzc, hst]
/-- what the closure of the program answers at pairs of people, in every world that keeps the old blocks -/
def DelAt (N0 : Nat) (w0 : World) (n gb : Nat) (f : Int × Int → Bool) : Prop :=
  ∀ (X : World) (x y : Nat), Below N0 w0 X → N0 ≤ X.heap.size → x < y → y < n → Calls Try.prog 94 #[.agg #[.int .i64 x, .int .i64 y], .pointer (some ⟨gb, 0, none⟩)] X fun e w' => e = .returned (.bool (f ((x : Int), (y : Int)))) ∧ Below X.heap.size X w'
set_option maxHeartbeats 1000000 in
set_option maxRecDepth 100000 in
theorem indexWhere_any {N0 n gb : Nat} {w0 : World} {f : Int × Int → Bool} (hD : DelAt N0 w0 n gb f) (L : PL) (A : Option Addr) (c : Nat) (w : World) (hw : Below N0 w0 w) (hN : N0 ≤ w.heap.size) (hl : L.length ≤ 1048576) (hin : ∀ q ∈ L, 0 ≤ q.1 ∧ q.1 < q.2 ∧ q.2 < n) (hA : CRead w w.heap.size A (pcells L)) :
    Calls Try.prog 93 #[.slice A L.length c, .func (.func 94) #[] #[.pointer (some ⟨gb, 0, none⟩)]] w fun e w' => ∃ i : Int, e = .returned (.int .i64 i) ∧
      ((i = -1 ∧ ∀ q ∈ L, f q = false) ∨ ∃ k : Nat, i = k ∧ k < L.length ∧ (∀ q, L[k]? = some q → f q = true) ∧ ∀ (j : Nat) (q : Int × Int), j < k → L[j]? = some q → f q = false) ∧ Below w.heap.size w w' := by
  have HD := Lib.hid hD
  have Hin := Lib.hid hin
  clear hD hin
  go_enter Try.func93, Try.ntmps93
  go_wp2
  go_loopw [8] (fun i wr => ∃ k : Nat, k ≤ L.length ∧ i = .int .i64 k ∧ Below w.heap.size w wr ∧ ∀ (j : Nat) (x : Int × Int), j < k → L[j]? = some x → f x = false) (fun i _ => L.length - (intOf i).toNat)
  case atStart => exact ⟨0, Nat.zero_le _, rfl, Below.refl _ _, fun j x hj => by omega⟩
  case round =>
    obtain ⟨k, hk, rfl, hb, hall⟩ := hrel
    have Hall := Lib.hid hall
    clear hall
    have s0 := hb.size
    by_cases hlt : k < L.length
    · obtain ⟨⟨x', y'⟩, hx⟩ := getSome L k hlt
      have hq := Hin.out _ (List.mem_of_getElem? hx)
      simp only at hq
      obtain ⟨x, rfl⟩ : ∃ x : Nat, x' = x := ⟨x'.toNat, by omega⟩
      obtain ⟨y, rfl⟩ : ∃ x : Nat, y' = x := ⟨y'.toNat, by omega⟩
      obtain ⟨bb, off, rfl, hbb, c0, c1⟩ := (hA.below hb (Nat.le_refl _)).pair hx
      have call := HD.out wr x y (hw.trans (hb.mono hN)) (by omega) (by omega) (by omega)
      obtain ⟨r, hr⟩ : ∃ r, f ((x : Int), (y : Int)) = r := ⟨_, rfl⟩
      rw [hr] at call
      have hki : (k : Int) < (L.length : Int) := by omega
      have Hx := Lib.hid hx
      have Hr := Lib.hid hr
      have Call := Lib.hid call
      clear hx hr call hq
      go_wp2_with fail
      refine Call.out.mono ?_
      rintro e w2 ⟨rfl, hb2⟩
      have k2 := hb.trans (hb2.mono s0)
      cases r with
      | true =>
        go_wp2
        go_ret
        refine ⟨k, rfl, .inr ⟨k, rfl, hlt, fun q hq => ?_, Hall.out⟩, k2⟩
        rw [Hx.out] at hq
        rw [← Option.some.inj hq]
        exact Hr.out
      | false =>
        go_wp2
        go_roundw
        case rel => exact ⟨k + 1, by omega, by go_num, k2, fun j x hj hxj => by
                      by_cases hjk : j = k
                      · subst hjk
                        rw [Hx.out] at hxj
                        rw [← Option.some.inj hxj]
                        exact Hr.out
                      · exact Hall.out j x (by omega) hxj⟩
        case measure => simp [intOf]; omega
    · have hkl : k = L.length := by omega
      have hge : ¬ ((k : Int) < (L.length : Int)) := by omega
      go_wp2
      go_ret
      refine ⟨-1, rfl, .inl ⟨rfl, fun a b hq => ?_⟩, hb⟩
      obtain ⟨j, hj⟩ := List.getElem?_of_mem hq
      exact Hall.out j (a, b) (by have := (List.getElem?_eq_some_iff.1 hj).1; omega) hj
set_option maxHeartbeats 1000000 in
set_option maxRecDepth 100000 in
theorem deleteWhere_any {N0 n gb : Nat} {w0 : World} {f : Int × Int → Bool} (hD : DelAt N0 w0 n gb f) (L : PL) (A : Option Addr) (c : Nat) (w : World) (hw : Below N0 w0 w) (hN : N0 ≤ w.heap.size) (hl : L.length ≤ 1000) (hin : ∀ q ∈ L, 0 ≤ q.1 ∧ q.1 < q.2 ∧ q.2 < n) (hown : w.ownsRow N0 71 2 (.slice A L.length c) L.length (pcells L)) :
    Calls Try.prog 95 #[.slice A L.length c, .func (.func 94) #[] #[.pointer (some ⟨gb, 0, none⟩)]] w fun e w' => ∃ A' c', e = .returned (.slice A' (L.filter fun q => !f q).length c') ∧
      w'.ownsRow N0 71 2 (.slice A' (L.filter fun q => !f q).length c') (L.filter fun q => !f q).length (pcells (L.filter fun q => !f q)) ∧ Below N0 w w' := by
  have call := indexWhere_any hD L A c w hw hN (by omega) hin (CRead.of_own hown)
  have Call := Lib.hid call
  have HD := Lib.hid hD
  have Hin := Lib.hid hin
  have Hw := Lib.hid hw
  obtain ⟨F, hF⟩ : ∃ F, (L.filter fun q => !f q) = F := ⟨_, rfl⟩
  rw [hF]
  have HF := Lib.hid hF
  clear call hD hin hw hF
  go_enter Try.func95, Try.ntmps95
  go_wp2_with fail
  refine Call.out.mono ?_
  rintro e w1 ⟨i, rfl, hi, hb1⟩
  clear Call
  rcases hi with ⟨rfl, hno⟩ | ⟨k, rfl, hk, hyes, hbefore⟩
  · have e : F = L := by
      rw [← HF.out, List.filter_eq_self]
      intro q hq
      rw [hno q hq]
      rfl
    subst e
    have Hown := Lib.hid (own_below hown hb1 (Nat.le_refl _))
    clear hno hown
    go_wp2
    go_ret
    exact ⟨A, c, rfl, Hown.out, hb1.mono hN⟩
  · obtain ⟨g, rfl⟩ := own_form hown (by omega)
    have hcap := own_cap hown
    have hown1 := own_below hown hb1 (Nat.le_refl _)
    have hk0 : ((k : Int) == -1) = false := by simp only [beq_eq_false_iff_ne, ne_eq]; omega
    have hfk : (L.take (k + 1)).filter (fun q => !f q) = L.take k := by
      obtain ⟨q, hq⟩ := getSome L k hk
      rw [List.take_add_one, hq, Option.toList_some, List.filter_append]
      have h1 : (L.take k).filter (fun q => !f q) = L.take k := by
        rw [List.filter_eq_self]
        intro q hq
        obtain ⟨j, hj⟩ := List.getElem?_of_mem hq
        rw [List.getElem?_take] at hj
        split at hj
        · rename_i hjk; rw [hbefore j q hjk hj]; rfl
        · cases hj
      rw [h1]
      simp [hyes q hq]
    have hkk : (L.take k).length = k := by rw [List.length_take]; omega
    have Hown1 := Lib.hid hown1
    have Hfk := Lib.hid hfk
    have Hkk := Lib.hid hkk
    clear hyes hbefore hown hown1 hfk hkk
    have gN : N0 ≤ g := (own_lt Hown1.out).1
    go_wp2
    go_loopw [5, 6] (fun iv jv wr => ∃ (j : Nat) (K : PL), jv = .int .i64 j ∧ j ≤ L.length ∧ K.length = L.length ∧ ((L.take j).filter fun q => !f q).length < j ∧ iv = .int .i64 ((L.take j).filter fun q => !f q).length ∧
      K.take ((L.take j).filter fun q => !f q).length = ((L.take j).filter fun q => !f q) ∧ K.drop j = L.drop j ∧ wr.ownsRow N0 71 2 (.slice (some ⟨g, 0, none⟩) L.length c) L.length (pcells K) ∧ w1.heap.size ≤ wr.heap.size ∧ Below N0 w wr) (fun _ jv _ => L.length - (intOf jv).toNat)
    case atStart =>
      refine ⟨k + 1, L, by go_num, by omega, rfl, ?_, ?_, ?_, rfl, Hown1.out, Nat.le_refl _, hb1.mono hN⟩
      · rw [Hfk.out, Hkk.out]; omega
      · rw [Hfk.out, Hkk.out]
      · rw [Hfk.out, Hkk.out]
    case round =>
      obtain ⟨j, K, rfl, hj, hKl, hmj, rfl, hKt, hKd, hown, hsz, hb⟩ := hrel
      obtain ⟨M, hM⟩ : ∃ M, ((L.take j).filter fun q => !f q) = M := ⟨_, rfl⟩
      rw [hM] at hmj hKt ⊢
      by_cases hlt : j < L.length
      · obtain ⟨⟨x', y'⟩, hx⟩ := getSome L j hlt
        have hq := Hin.out _ (List.mem_of_getElem? hx)
        simp only at hq
        obtain ⟨x, rfl⟩ : ∃ x : Nat, x' = x := ⟨x'.toNat, by omega⟩
        obtain ⟨y, rfl⟩ : ∃ x : Nat, y' = x := ⟨y'.toNat, by omega⟩
        have hxK : K[j]? = some ((x : Int), (y : Int)) := by
          have h1 : (K.drop j)[0]? = (L.drop j)[0]? := by rw [hKd]
          rw [List.getElem?_drop, List.getElem?_drop, Nat.add_zero, hx] at h1
          exact h1
        obtain ⟨c0, c1⟩ := own_pairAt hown hxK
        have hji : (j : Int) < (L.length : Int) := by omega
        have hsX : N0 ≤ wr.heap.size := by have := hb1.size; omega
        have call := HD.out (wr.alloc (Obj.cells #[.int .i64 x, .int .i64 y] 71)) x y (Hw.out.trans (hb.alloc hsX _)) (by simp; omega) (by omega) (by omega)
        obtain ⟨r, hr⟩ : ∃ r, f ((x : Int), (y : Int)) = r := ⟨_, rfl⟩
        rw [hr] at call
        have hnx : (L.take (j + 1)).filter (fun q => !f q) = M ++ (if r then [] else [((x : Int), (y : Int))]) := by
          rw [List.take_add_one, hx, Option.toList_some, List.filter_append, hM]
          simp only [List.filter_cons, List.filter_nil, hr]
          cases r <;> rfl
        have hKd1 : K.drop (j + 1) = L.drop (j + 1) := by rw [← List.drop_drop, ← List.drop_drop, hKd]
        have Call := Lib.hid call
        have Hnx := Lib.hid hnx
        have HKt := Lib.hid hKt
        have HKd1 := Lib.hid hKd1
        have Hown := Lib.hid hown
        clear call hnx hKt hKd hKd1 hown hx hxK hr hM hq
        go_wp2_with fail
        refine Call.out.mono ?_
        rintro e w2 ⟨rfl, hb2⟩
        have b0 : w2.cell? ⟨wr.heap.size, 0, none⟩ = some (.int .i64 x) := carry hb2 (by simp) (by simp)
        have b1 : w2.cell? ⟨wr.heap.size, 1, none⟩ = some (.int .i64 y) := carry hb2 (by simp) (by simp)
        have k2 : Below wr.heap.size wr w2 := ((Below.refl _ _).alloc (Nat.le_refl _) _).trans (hb2.mono (by simp))
        have own2 := own_below Hown.out k2 (Nat.le_refl _)
        have s2 := k2.size
        cases r with
        | true =>
          have Own2 := Lib.hid own2
          have K2 := Lib.hid (hb.trans (k2.mono hsX))
          clear own2 hb2 k2 b0 b1
          go_wp2
          go_roundw
          case rel => exact ⟨j + 1, K, by go_num, by omega, hKl, by rw [Hnx.out]; simp; omega, by rw [Hnx.out]; simp, by rw [Hnx.out]; simpa using HKt.out, HKd1.out, Own2.out, by omega, K2.out⟩
          case measure => simp [intOf]; omega
        | false =>
          have hmK : M.length < K.length := by omega
          obtain ⟨⟨u, v⟩, huv⟩ := getSome K M.length hmK
          obtain ⟨p0, p1⟩ := own_pairAt own2 huv
          have f0 := own2.frozenAt (M.length * 2)
          have f1 := own2.frozenAt (M.length * 2 + 1)
          have hmi : (M.length : Int) < (L.length : Int) := by omega
          have own3 := own_setPair own2 M.length (x : Int) (y : Int)
          have Own3 := Lib.hid own3
          have K2 := Lib.hid (below_set2 (hb.trans (k2.mono hsX)) gN (M.length * 2) (M.length * 2 + 1) (.int .i64 x) (.int .i64 y))
          clear own2 own3 hb2 k2 huv
          go_wp2
          go_roundw
          case rel =>
            refine ⟨j + 1, K.set M.length ((x : Int), (y : Int)), by go_num, by omega, by simp [hKl], by rw [Hnx.out]; simp; omega, by rw [Hnx.out]; simp, ?_, ?_, Own3.out, by simp; omega, K2.out⟩
            · rw [Hnx.out]
              simp only [Bool.false_eq_true, if_false, List.length_append, List.length_singleton]
              rw [List.take_add_one, List.getElem?_set_self hmK, Option.toList_some, List.take_set_of_le (Nat.le_refl _), HKt.out]
            · rw [List.drop_set_of_lt (by omega)]; exact HKd1.out
          case measure => simp [intOf]; omega
      · have hjl : j = L.length := by omega
        subst hjl
        rw [List.take_length, HF.out] at hM
        subst hM
        have hge : ¬ ((L.length : Int) < (L.length : Int)) := by omega
        have hclr := run_clear_pairs wr g (F.length * 2) (L.length - F.length) (c - F.length) (by omega) (fun j hj => by
          rw [hown.cellAt (F.length * 2 + j) (by omega), List.getElem?_eq_getElem (by rw [pcells_length]; omega)]; rfl) (fun j _ => hown.frozenAt _)
        obtain ⟨xs', ho1, ho2⟩ := own_setCells (List.replicate ((L.length - F.length) * 2) (.int .i64 0)) (F.length * 2) hown
        have ho3 := own_cut ho1 (m := F.length) (by omega)
        have htk : xs'.take (F.length * 2) = pcells F := by
          rw [ho2, pcells_take, hKt]
        rw [htk] at ho3
        have hb3 : Below N0 w (wr.setCells g (F.length * 2) (List.replicate ((L.length - F.length) * 2) (.int .i64 0))) := below_setCells g gN _ _ hb
        obtain ⟨W3, hW3⟩ : ∃ W3, wr.setCells g (F.length * 2) (List.replicate ((L.length - F.length) * 2) (.int .i64 0)) = W3 := ⟨_, rfl⟩
        rw [hW3] at ho3 hb3
        simp only [hW3] at hclr
        have Ho3 := Lib.hid ho3
        have hcm : ¬ (c = F.length) := by omega
        clear ho1 ho2 ho3 htk hKt hKd hown hW3
        go_wp2
        go_ret
        exact ⟨_, c, rfl, Ho3.out, hb3⟩
end Go.Proofs.Ythpapkfpcijpoaa
/-
  'impl.partyWhere', by its contract; 'WindmillParty': the model's and the program's.
-/
namespace Go.Proofs.Ythpapkfpcijpoaa
open Go.RowKit

set_option maxHeartbeats 1000000 in
set_option maxRecDepth 100000 in
theorem partyWhere_any (n : Nat) (hn : n ≤ 12) (tt : Nat → Nat → Bool) (F : Nat) (caps : Array Value) (w : World)
    (hD : DelAt (w.heap.size + 2) ((w.alloc (.cells #[.func (.func F) #[] caps] 55)).alloc (.cells #[.int .i64 0, .slice none 0 0] 31)) n w.heap.size (fun q => !tt q.1.toNat q.2.toNat)) :
    Calls Try.prog 65 #[.int .i64 n, .func (.func F) #[] caps] w (GotParty w n (tabP n tt)) := by
  obtain ⟨W0, hW0⟩ : ∃ W0, (w.alloc (.cells #[.func (.func F) #[] caps] 55)).alloc (.cells #[.int .i64 0, .slice none 0 0] 31) = W0 := ⟨_, rfl⟩
  rw [hW0] at hD
  have z0 : W0.heap.size = w.heap.size + 2 := by rw [← hW0]; simp
  have kW0 : Below w.heap.size w W0 := by rw [← hW0]; go_grown
  have X0 : W0.cell? ⟨w.heap.size + 1, 0, none⟩ = some (.int .i64 0) := by rw [← hW0]; simp
  have X1 : W0.cell? ⟨w.heap.size + 1, 1, none⟩ = some (.slice none 0 0) := by rw [← hW0]; simp
  have Z0 : W0.frozen? ⟨w.heap.size + 1, 0, none⟩ = false := by rw [← hW0]; simp
  have Z1 : W0.frozen? ⟨w.heap.size + 1, 1, none⟩ = false := by rw [← hW0]; simp
  have hall : ∀ q ∈ allP n, 0 ≤ q.1 ∧ q.1 < q.2 ∧ q.2 < n := fun q hq => mem_allP.1 hq
  have hlen := allP_length_le (n := n) hn
  have hfil : (allP n).filter (fun q => !!tt q.1.toNat q.2.toNat) = tabP n tt := by
    unfold tabP
    congr 1
    funext q
    rw [Bool.not_not]
  have hev := everyPair_any n hn W0
  have hdel := fun (A : Option Addr) (c : Nat) (X : World) (h1 : Below (w.heap.size + 2) W0 X) (h2 : w.heap.size + 2 ≤ X.heap.size) => deleteWhere_any hD (allP n) A c X h1 h2 (by omega) hall
  simp only [hfil] at hdel
  obtain ⟨L, hL⟩ : ∃ L, allP n = L := ⟨_, rfl⟩
  simp only [hL] at hev hdel
  obtain ⟨R, hR⟩ : ∃ R, tabP n tt = R := ⟨_, rfl⟩
  simp only [hR] at hdel ⊢
  have HW0 := Lib.hid hW0
  have Hev := Lib.hid hev
  have Hdel := Lib.hid hdel
  clear hW0 hD hall hlen hfil hev hdel hL hR
  go_enter Try.func65, Try.ntmps65
  go_wp2_with fail
  rw [HW0.out]
  refine Hev.out.mono ?_
  rintro e w2 ⟨A2, c2, rfl, own2, hb2⟩
  rw [z0] at own2 hb2
  have s2 : w.heap.size + 2 ≤ w2.heap.size := by have := hb2.size; omega
  go_wp2_with fail
  refine (Hdel.out A2 c2 w2 hb2 s2 own2).mono ?_
  rintro e w3 ⟨A3, c3, rfl, own3, hb3⟩
  have k3 : Below (w.heap.size + 2) W0 w3 := hb2.trans hb3
  have y0 : w3.cell? ⟨w.heap.size + 1, 0, none⟩ = some (.int .i64 0) := carry k3 X0 (by omega)
  have y1 : w3.cell? ⟨w.heap.size + 1, 1, none⟩ = some (.slice none 0 0) := carry k3 X1 (by omega)
  have y2 : w3.frozen? ⟨w.heap.size + 1, 0, none⟩ = false := (k3.frozen (p := ⟨w.heap.size + 1, 0, none⟩) (by show w.heap.size + 1 < _; omega)).trans Z0
  have y3 : w3.frozen? ⟨w.heap.size + 1, 1, none⟩ = false := (k3.frozen (p := ⟨w.heap.size + 1, 1, none⟩) (by show w.heap.size + 1 < _; omega)).trans Z1
  have kw : Below w.heap.size w w3 := kW0.trans (k3.mono (by omega))
  clear X0 X1 Z0 Z1 own2
  go_wp2
  refine bodyPost_ret (v := .agg #[.int .i64 n, .slice A3 R.length c3]) (by simp [results, Try.results65, go_sem, y0, y1]) rfl ?_
  exact ⟨A3, c3, rfl, own_lower (ownsRow_setCell_below (ownsRow_setCell_below own3 (a := ⟨w.heap.size + 1, 0, none⟩) (by simp) _) (a := ⟨w.heap.size + 1, 1, none⟩) (by simp) _) (by omega),
    (kw.setCell (p := ⟨w.heap.size + 1, 0, none⟩) (by simp) _).setCell (p := ⟨w.heap.size + 1, 1, none⟩) (by simp) _⟩
set_option maxHeartbeats 1000000 in
theorem millTold_any (x y : Nat) (hxy : x < y) (hy : y ≤ 12) (w : World) : Calls Try.prog 66 #[.int .i64 x, .int .i64 y] w fun e w' => e = .returned (.bool (millT x y)) ∧ w = w' := by
  have hm : Int.tmod (x : Int) 2 = ((x % 2 : Nat) : Int) := by rw [Int.tmod_eq_emod_of_nonneg (by omega)]; omega
  by_cases h0 : x = 0
  · subst h0
    go_enter Try.func66, Try.ntmps66
    go_wp2
    go_ret
    exact ⟨by simp [millT], rfl⟩
  · have hx0 : ((x : Int) == 0) = false := by simp only [beq_eq_false_iff_ne, ne_eq]; omega
    by_cases h1 : x % 2 = 1
    · have hm1 : Int.tmod (x : Int) 2 = 1 := by rw [hm, h1]; rfl
      by_cases h2 : y = x + 1
      · have e : millT x y = true := decide_eq_true (.inr ⟨h1, h2⟩)
        have he : ((y : Int) == (x : Int) + 1) = true := by rw [h2]; simp
        rw [e]
        have hx12 : x ≤ 12 := by omega
        clear e hm h2 h1
        go_enter Try.func66, Try.ntmps66
        go_wp2
        go_ret
        exact ⟨rfl, rfl⟩
      · have e : millT x y = false := decide_eq_false (by omega)
        have he : ((y : Int) == (x : Int) + 1) = false := by simp only [beq_eq_false_iff_ne, ne_eq]; omega
        rw [e]
        have hx12 : x ≤ 12 := by omega
        clear e hm h2 h1
        go_enter Try.func66, Try.ntmps66
        go_wp2
        go_ret
        exact ⟨rfl, rfl⟩
    · have hm1 : Int.tmod (x : Int) 2 = 0 := by rw [hm]; omega
      have e : millT x y = false := decide_eq_false (by omega)
      rw [e]
      clear e hm h1
      go_enter Try.func66, Try.ntmps66
      go_wp2
      go_ret
      exact ⟨rfl, rfl⟩
set_option maxHeartbeats 1000000 in
theorem whereMill_any (gb x y : Nat) (hxy : x < y) (hy : y ≤ 12) (w : World) (cg : w.cell? ⟨gb, 0, none⟩ = some (.func (.func 66) #[] #[])) :
    Calls Try.prog 94 #[.agg #[.int .i64 x, .int .i64 y], .pointer (some ⟨gb, 0, none⟩)] w fun e w' => e = .returned (.bool (!millT x y)) ∧ Below w.heap.size w w' := by
  have hg := World.block_lt_of_cell? w _ cg
  simp only at hg
  have cg2 : (w.alloc (Obj.cells #[.int .i64 x, .int .i64 y] 71)).cell? ⟨gb, 0, none⟩ = some (.func (.func 66) #[] #[]) := (World.cell?_alloc_lt _ _ _ hg).trans cg
  clear cg
  obtain ⟨r, hr⟩ : ∃ r, millT x y = r := ⟨_, rfl⟩
  have call := fun X : World => millTold_any x y hxy hy X
  simp only [hr] at call ⊢
  have Call := Lib.hid call
  clear hr call
  go_enter Try.func94, Try.ntmps94
  go_wp2_with fail
  refine (Call.out _).mono ?_
  rintro e w2 ⟨rfl, rfl⟩
  go_wp2
  go_ret
  exact ⟨rfl, by go_grown⟩
set_option maxHeartbeats 1000000 in
set_option maxRecDepth 100000 in
theorem implWindmillParty_any (s : Int) (w : World) : Calls Try.prog 26 #[.int .i64 s] w (GotPartyOk w (resWindmillParty s).1 (resWindmillParty s).2.1 (resWindmillParty s).2.2) := by
  by_cases h1 : s < 0
  · have e : resWindmillParty s = (0, [], false) := if_neg (by omega)
    rw [e]
    clear e
    go_enter Try.func26, Try.ntmps26
    go_wp2
    refine bodyPost_ret (v := .tuple #[.agg #[.int .i64 0, .slice none 0 0], .bool false]) (by simp [results, Try.results26, go_sem]) rfl ?_
    exact ⟨none, 0, rfl, World.ownsRow_nil _ _ _ _, by go_grown⟩
  · by_cases h2 : 5 < s
    · have e : resWindmillParty s = (0, [], false) := if_neg (by omega)
      rw [e]
      clear e
      go_enter Try.func26, Try.ntmps26
      go_wp2
      refine bodyPost_ret (v := .tuple #[.agg #[.int .i64 0, .slice none 0 0], .bool false]) (by simp [results, Try.results26, go_sem]) rfl ?_
      exact ⟨none, 0, rfl, World.ownsRow_nil _ _ _ _, by go_grown⟩
    · obtain ⟨k, rfl⟩ : ∃ k : Nat, s = k := ⟨s.toNat, by omega⟩
      have e : resWindmillParty k = (2 * (k : Int) + 1, tabP (2 * k + 1) millT, true) := by
        unfold resWindmillParty; rw [if_pos (by omega), Int.toNat_natCast]
      rw [e]
      clear e
      have call := fun X : World => partyWhere_any (2 * k + 1) (by omega) millT 66 #[] X (fun Y x y hY _ hxy hyn => by
        simp only [Int.toNat_natCast]
        exact whereMill_any X.heap.size x y hxy (by omega) Y (carry hY (by simp) (by simp)))
      simp only [Int.natCast_add, Int.natCast_mul, Int.cast_ofNat_Int] at call
      obtain ⟨R, hR⟩ : ∃ R, tabP (2 * k + 1) millT = R := ⟨_, rfl⟩
      simp only [hR] at call ⊢
      have Call := Lib.hid call
      clear call hR
      go_enter Try.func26, Try.ntmps26
      go_wp2_with fail
      refine (Call.out _).mono ?_
      rintro e w3 ⟨A3, c3, rfl, own3, hb3⟩
      simp only [World.size_alloc] at own3 hb3
      have y0 : w3.cell? ⟨w.heap.size, 0, none⟩ = some (.int .i64 0) := carry hb3 (by simp) (by omega)
      have y1 : w3.cell? ⟨w.heap.size, 1, none⟩ = some (.slice none 0 0) := carry hb3 (by simp) (by omega)
      have y2 : w3.frozen? ⟨w.heap.size, 0, none⟩ = false := (hb3.frozen (p := ⟨w.heap.size, 0, none⟩) (by simp)).trans (by simp)
      have y3 : w3.frozen? ⟨w.heap.size, 1, none⟩ = false := (hb3.frozen (p := ⟨w.heap.size, 1, none⟩) (by simp)).trans (by simp)
      have k3 : Below w.heap.size w w3 := Below.trans (b := _) (by go_grown) (hb3.mono (by omega))
      go_wp2
      refine bodyPost_ret (v := .tuple #[.agg #[.int .i64 (2 * (k : Int) + 1), .slice A3 R.length c3], .bool true]) (by simp [results, Try.results26, go_sem, y0, y1]) rfl ?_
      exact ⟨A3, c3, rfl, own_lower (ownsRow_setCell_below (ownsRow_setCell_below own3 (a := ⟨w.heap.size, 0, none⟩) (by simp) _) (a := ⟨w.heap.size, 1, none⟩) (by simp) _) (by omega),
        (k3.setCell (p := ⟨w.heap.size, 0, none⟩) (by simp) _).setCell (p := ⟨w.heap.size, 1, none⟩) (by simp) _⟩
theorem resWindmillParty_len (s : Int) : (resWindmillParty s).2.1.length ≤ 1048576 := by
  unfold resWindmillParty
  split
  · rename_i h
    have hn : 2 * s.toNat + 1 ≤ 12 := by omega
    have h1 := isP_length (filter_isP hn fun q => millT q.1.toNat q.2.toNat)
    have h2 := people_sq (p := ((2 * s.toNat + 1 : Nat) : Int)) (by omega) (by omega)
    show (tabP _ _).length ≤ 1048576
    unfold tabP
    omega
  · simp
set_option maxHeartbeats 1000000 in
set_option maxRecDepth 100000 in
theorem specWindmillParty_any (s : Int) (w : World) : Calls Try.prog 25 #[.int .i64 s] w (GotPartyOk w (resWindmillParty s).1 (resWindmillParty s).2.1 (resWindmillParty s).2.2) := by
  by_cases h1 : 0 ≤ s ∧ s ≤ 5
  · obtain ⟨k, rfl⟩ : ∃ k : Nat, s = k := ⟨s.toNat, by omega⟩
    have e : resWindmillParty k = (2 * (k : Int) + 1, tabP (2 * k + 1) millT, true) := by
      unfold resWindmillParty; rw [if_pos (by omega), Int.toNat_natCast]
    rw [e]
    have hall := millS_all k
    have hp : isP ((2 * k + 1 : Nat) : Int) [] = true := by unfold isP; simp; omega
    obtain ⟨n, hn⟩ : ∃ n, 2 * k + 1 = n := ⟨_, rfl⟩
    have hni : 2 * (k : Int) + 1 = n := by omega
    have hk2 : 2 * k = n - 1 := by omega
    have hodd : n % 2 = 1 := by omega
    have hn12 : n ≤ 12 := by omega
    rw [hn] at hp hall ⊢
    rw [hk2] at hall
    have htab := fun X : World => paTable_any (n : Int) [] none 0 X hp CRead.nil
    simp only [Int.toNat_natCast, List.length_nil] at htab
    rw [← hall, hni]
    have hof := fun (A : Option Addr) (c : Nat) (G : Nat → Nat) (B : Nat) (X : World) (t : TabG X B (.slice A n c) n n G (millS (n - 1))) => paOf_any n (millS (n - 1)) A c G B X hn12 t
    obtain ⟨R, hR⟩ : ∃ R, tabP n (millS (n - 1)) = R := ⟨_, rfl⟩
    simp only [hR] at hof ⊢
    have Htab := Lib.hid htab
    have Hof := Lib.hid hof
    have Hn := Lib.hid hn
    clear e hall hp htab hof hR hk2
    go_enter Try.func25, Try.ntmps25
    go_wp2_with fail
    refine (l1In_yes _ 0 5 (by omega) (by omega) _).mono ?_
    rintro e w' ⟨rfl, rfl⟩
    go_wp2_with fail
    refine (Htab.out _).mono ?_
    rintro e w3 ⟨A3, c3, G, rfl, tab, hb3⟩
    simp only [World.size_alloc] at hb3
    have y0 : w3.cell? ⟨w.heap.size, 0, none⟩ = some (.int .i64 0) := carry hb3 (by simp) (by simp)
    have y1 : w3.cell? ⟨w.heap.size, 1, none⟩ = some (.slice none 0 0) := carry hb3 (by simp) (by simp)
    have y2 : w3.frozen? ⟨w.heap.size, 0, none⟩ = false := (hb3.frozen (p := ⟨w.heap.size, 0, none⟩) (by simp)).trans (by simp)
    have y3 : w3.frozen? ⟨w.heap.size, 1, none⟩ = false := (hb3.frozen (p := ⟨w.heap.size, 1, none⟩) (by simp)).trans (by simp)
    have k3 : Below w.heap.size w w3 := Below.trans (b := _) (by go_grown) (hb3.mono (by omega))
    have tab0 : TabG w3 (w.heap.size + 1) (.slice A3 n c3) n n G (millS 0) := by
      have e : adj [] = millS 0 := by rw [adj_nil]; rfl
      rw [← e]
      simpa using tab
    obtain ⟨g3, rfl⟩ := own_form tab0.own (by omega)
    have Tab0 := Lib.hid tab0
    clear tab tab0 hb3
    go_wp2
    go_loopw [6] (fun i wr => ∃ x : Nat, 1 ≤ x ∧ x ≤ n ∧ i = .int .i64 x ∧ TabG wr (w.heap.size + 1) (.slice (some ⟨g3, 0, none⟩) n c3) n n G (millS (x - 1)) ∧ Below (w.heap.size + 1) w3 wr) (fun i _ => n - (intOf i).toNat)
    case atStart => exact ⟨1, Nat.le_refl _, by omega, rfl, Tab0.out, Below.refl _ _⟩
    case round =>
      obtain ⟨x, hx1, hxn, rfl, tab, hb⟩ := hrel
      by_cases hlt : x < n
      · have hxi : (x : Int) < (n : Int) := by omega
        obtain ⟨O, hO⟩ : ∃ O, x - 1 + 2 * (x % 2) = O := ⟨_, rfl⟩
        have hOn : O < n := by omega
        have hOi : (O : Int) < (n : Int) := by omega
        have hm : Int.tmod (x : Int) 2 = ((x % 2 : Nat) : Int) := by rw [Int.tmod_eq_emod_of_nonneg (by omega)]; omega
        obtain ⟨m, hmd⟩ : ∃ m, x % 2 = m := ⟨_, rfl⟩
        have hm2 : m ≤ 1 := by omega
        rw [hmd] at hm hO
        have hv : (x : Int) - 1 + 2 * (m : Int) = (O : Int) := by omega
        have hn0 : 0 < n := by omega
        have hn0i : (0 : Int) < n := by omega
        have t1 := tab.set (a := 0) (b := x) hn0 true
        have t2 := t1.set (a := x) (b := 0) hlt true
        have t3 := t2.set (a := x) (b := O) hlt true
        have o0 := tab.outer hn0
        have c1 := tab.cell hn0 hlt
        have f1 := tab.frozen hn0 x
        have o1 := t1.outer hlt
        have c2 := t1.cell hlt hn0
        have f2 := t1.frozen hlt 0
        have o2 := t2.outer hlt
        have cc3 := t2.cell hlt hOn
        have f3 := t2.frozen hlt O
        have e3 : upd (upd (upd (millS (x - 1)) 0 x true) x 0 true) x O true = millS (x + 1 - 1) := by
          rw [show x + 1 - 1 = (x - 1) + 1 by omega]
          simp only [millS]
          rw [show x - 1 + 1 = x by omega, hmd, hO]
        rw [e3] at t3
        have T3 := Lib.hid t3
        have hg0 := (tab.blk hn0).1
        have hgx := (tab.blk hlt).1
        have K3 := Lib.hid (((hb.setCell (p := ⟨G 0, x, none⟩) hg0 (.bool true)).setCell (p := ⟨G x, 0, none⟩) hgx (.bool true)).setCell (p := ⟨G x, O, none⟩) hgx (.bool true))
        clear t1 t2 t3 tab e3 hb hmd hO
        go_wp2
        go_roundw
        case rel => exact ⟨x + 1, by omega, by omega, by go_num, T3.out, K3.out⟩
        case measure => simp [intOf]; omega
      · have hxe : n = x := by omega
        subst hxe
        have hge : ¬ ((n : Int) < (n : Int)) := by omega
        have z0 : wr.cell? ⟨w.heap.size, 0, none⟩ = some (.int .i64 0) := carry hb y0 (by omega)
        have z1 : wr.cell? ⟨w.heap.size, 1, none⟩ = some (.slice none 0 0) := carry hb y1 (by omega)
        have z2 : wr.frozen? ⟨w.heap.size, 0, none⟩ = false := (hb.frozen (p := ⟨w.heap.size, 0, none⟩) (by simp)).trans y2
        have z3 : wr.frozen? ⟨w.heap.size, 1, none⟩ = false := (hb.frozen (p := ⟨w.heap.size, 1, none⟩) (by simp)).trans y3
        have s3 : w.heap.size < w3.heap.size := World.block_lt_of_cell? w3 _ y0
        have sr : w.heap.size < wr.heap.size := World.block_lt_of_cell? wr _ z0
        clear y0 y1 y2 y3
        go_wp2_with fail
        refine (Hof.out _ _ _ _ _ tab).mono ?_
        rintro e w4 ⟨A4, c4, rfl, own4, hb4⟩
        have y0 : w4.cell? ⟨w.heap.size, 0, none⟩ = some (.int .i64 0) := carry hb4 z0 sr
        have y1 : w4.cell? ⟨w.heap.size, 1, none⟩ = some (.slice none 0 0) := carry hb4 z1 sr
        have y2 : w4.frozen? ⟨w.heap.size, 0, none⟩ = false := (hb4.frozen (p := ⟨w.heap.size, 0, none⟩) sr).trans z2
        have y3 : w4.frozen? ⟨w.heap.size, 1, none⟩ = false := (hb4.frozen (p := ⟨w.heap.size, 1, none⟩) sr).trans z3
        have k4 : Below w.heap.size w w4 := (k3.trans (hb.mono (by omega))).trans (hb4.mono (by omega))
        clear z0 z1 z2 z3 tab
        go_wp2
        refine bodyPost_ret (v := .tuple #[.agg #[.int .i64 n, .slice A4 R.length c4], .bool true]) (by simp [results, Try.results25, go_sem, y0, y1]) rfl ?_
        exact ⟨A4, c4, rfl, own_lower (ownsRow_setCell_below (ownsRow_setCell_below own4 (a := ⟨w.heap.size, 0, none⟩) sr _) (a := ⟨w.heap.size, 1, none⟩) sr _) (by omega),
          (k4.setCell (p := ⟨w.heap.size, 0, none⟩) (by simp) _).setCell (p := ⟨w.heap.size, 1, none⟩) (by simp) _⟩
  · have e : resWindmillParty s = (0, [], false) := if_neg (by omega)
    rw [e]
    clear e
    go_enter Try.func25, Try.ntmps25
    go_wp2_with fail
    refine (l1In_no _ 0 5 (by omega) _).mono ?_
    rintro e w' ⟨rfl, rfl⟩
    go_wp2
    refine bodyPost_ret (v := .tuple #[.agg #[.int .i64 0, .slice none 0 0], .bool false]) (by simp [results, Try.results25, go_sem]) rfl ?_
    exact ⟨none, 0, rfl, World.ownsRow_nil _ _ _ _, by go_grown⟩
end Go.Proofs.Ythpapkfpcijpoaa
/-
  DERIVED: THE SHELF's CONTRACTS AT THIS DUMP, IN PLAIN WORDS (tools/lay-plain.mjs out of 'YthpapkfpcijpoaaShelfHome.lean', which tools/lay-shelf.mjs wrote): THE SAME DECLARATIONS UNDER THE SAME NAMES: 'import', 'namespace', 'open', 'def', 'theorem' AND NOTHING ELSE: no command of the shelf's: FOR A HAND-IN. Each laying: the table of numbers ('.._ren') and one theorem, a field a fact of the dump's own or the kernel's comparison; each contract: ONE APPLICATION.
-/
namespace Go.Proofs
open Go.Shelf
def Try.cloneI_ren : Go.Shelf.Ren := ⟨fun | 41 => 96 | n => n, fun | 22 => 45 | 23 => 3 | 4 => 4 | n => n, fun | n => n⟩
theorem Try.cloneI : Go.Proofs.SlLaysE0.n41 Try.prog Try.cloneI_ren := {
  mixed := by kernel_rfl
  f41 := ⟨Try.f96.name, by decide, Try.func96.trans (congrArg some (by kernel_rfl))⟩
  t4 := Try.underlying4
  a4 := Try.isAgg4
  z4 := Try.sizeOf4
  v4 := Try.zeroValue4
  t22 := Try.underlying45
  a22 := Try.isAgg45
  z22 := Try.sizeOf45
  v22 := Try.zeroValue45 }
def Try.indexI_ren : Go.Shelf.Ren := ⟨fun | 29 => 74 | n => n, fun | 22 => 45 | 23 => 3 | 3 => 3 | 0 => 0 | 4 => 4 | n => n, fun | n => n⟩
theorem Try.indexI : Go.Proofs.SlLaysN.n29 Try.prog Try.indexI_ren := {
  mixed := by kernel_rfl
  f29 := ⟨Try.f74.name, by decide, Try.func74.trans (congrArg some (by kernel_rfl))⟩
  t0 := Try.underlying0
  a0 := Try.isAgg0
  z0 := Try.sizeOf0
  v0 := Try.zeroValue0
  t3 := Try.underlying3
  a3 := Try.isAgg3
  z3 := Try.sizeOf3
  v3 := Try.zeroValue3
  t4 := Try.underlying4
  a4 := Try.isAgg4
  z4 := Try.sizeOf4
  v4 := Try.zeroValue4
  t22 := Try.underlying45
  a22 := Try.isAgg45
  z22 := Try.sizeOf45
  v22 := Try.zeroValue45
  t23 := Try.underlying3
  a23 := Try.isAgg3
  z23 := Try.sizeOf3
  v23 := Try.zeroValue3 }
def Try.containsI_ren : Go.Shelf.Ren := ⟨fun | 31 => 82 | 29 => 74 | n => n, fun | 22 => 45 | 23 => 3 | 4 => 4 | 3 => 3 | 0 => 0 | n => n, fun | n => n⟩
theorem Try.containsI : Go.Proofs.SlLaysN.n31 Try.prog Try.containsI_ren := {
  mixed := by kernel_rfl
  f29 := ⟨Try.f74.name, by decide, Try.func74.trans (congrArg some (by kernel_rfl))⟩
  f31 := ⟨Try.f82.name, by decide, Try.func82.trans (congrArg some (by kernel_rfl))⟩
  t0 := Try.underlying0
  a0 := Try.isAgg0
  z0 := Try.sizeOf0
  v0 := Try.zeroValue0
  t3 := Try.underlying3
  a3 := Try.isAgg3
  z3 := Try.sizeOf3
  v3 := Try.zeroValue3
  t4 := Try.underlying4
  a4 := Try.isAgg4
  z4 := Try.sizeOf4
  v4 := Try.zeroValue4
  t22 := Try.underlying45
  a22 := Try.isAgg45
  z22 := Try.sizeOf45
  v22 := Try.zeroValue45
  t23 := Try.underlying3
  a23 := Try.isAgg3
  z23 := Try.sizeOf3
  v23 := Try.zeroValue3 }
def Try.maxI_ren : Go.Shelf.Ren := ⟨fun | 37 => 102 | n => n, fun | 22 => 45 | 23 => 3 | 3 => 3 | 4 => 4 | 9 => 9 | 20 => 20 | 0 => 0 | n => n, fun | n => n⟩
theorem Try.maxI : Go.Proofs.SlLaysN.n37 Try.prog Try.maxI_ren := {
  mixed := by kernel_rfl
  f37 := ⟨Try.f102.name, by decide, Try.func102.trans (congrArg some (by kernel_rfl))⟩
  t0 := Try.underlying0
  a0 := Try.isAgg0
  z0 := Try.sizeOf0
  v0 := Try.zeroValue0
  t3 := Try.underlying3
  a3 := Try.isAgg3
  z3 := Try.sizeOf3
  v3 := Try.zeroValue3
  t4 := Try.underlying4
  a4 := Try.isAgg4
  z4 := Try.sizeOf4
  v4 := Try.zeroValue4
  t9 := Try.underlying9
  a9 := Try.isAgg9
  z9 := Try.sizeOf9
  v9 := Try.zeroValue9
  t20 := Try.underlying20
  a20 := Try.isAgg20
  z20 := Try.sizeOf20
  v20 := Try.zeroValue20
  t22 := Try.underlying45
  a22 := Try.isAgg45
  z22 := Try.sizeOf45
  v22 := Try.zeroValue45
  t23 := Try.underlying3
  a23 := Try.isAgg3
  z23 := Try.sizeOf3
  v23 := Try.zeroValue3 }
def Try.minI_ren : Go.Shelf.Ren := ⟨fun | 39 => 101 | n => n, fun | 22 => 45 | 23 => 3 | 3 => 3 | 4 => 4 | 9 => 9 | 20 => 20 | 0 => 0 | n => n, fun | n => n⟩
theorem Try.minI : Go.Proofs.SlLaysN.n39 Try.prog Try.minI_ren := {
  mixed := by kernel_rfl
  f39 := ⟨Try.f101.name, by decide, Try.func101.trans (congrArg some (by kernel_rfl))⟩
  t0 := Try.underlying0
  a0 := Try.isAgg0
  z0 := Try.sizeOf0
  v0 := Try.zeroValue0
  t3 := Try.underlying3
  a3 := Try.isAgg3
  z3 := Try.sizeOf3
  v3 := Try.zeroValue3
  t4 := Try.underlying4
  a4 := Try.isAgg4
  z4 := Try.sizeOf4
  v4 := Try.zeroValue4
  t9 := Try.underlying9
  a9 := Try.isAgg9
  z9 := Try.sizeOf9
  v9 := Try.zeroValue9
  t20 := Try.underlying20
  a20 := Try.isAgg20
  z20 := Try.sizeOf20
  v20 := Try.zeroValue20
  t22 := Try.underlying45
  a22 := Try.isAgg45
  z22 := Try.sizeOf45
  v22 := Try.zeroValue45
  t23 := Try.underlying3
  a23 := Try.isAgg3
  z23 := Try.sizeOf3
  v23 := Try.zeroValue3 }
def Try.sortI_ren : Go.Shelf.Ren := ⟨fun | 6 => 97 | 15 => 110 | 14 => 109 | 28 => 120 | 29 => 121 | 20 => 112 | 21 => 113 | 22 => 114 | 23 => 115 | 24 => 116 | 25 => 117 | 26 => 118 | 27 => 119 | 46 => 122 | 47 => 123 | 48 => 124 | 49 => 125 | 50 => 126 | 57 => 127 | n => n, fun | 22 => 45 | 24 => 3 | 25 => 98 | 3 => 3 | 39 => 109 | 0 => 0 | 53 => 120 | 55 => 122 | 4 => 4 | 46 => 114 | 45 => 113 | 50 => 43 | 5 => 5 | 9 => 9 | 66 => 123 | 70 => 127 | 76 => 129 | 77 => 130 | n => n, fun | n => n⟩
theorem Try.sortI : Go.Proofs.SlLaysF.n6 Try.prog Try.sortI_ren := {
  mixed := by kernel_rfl
  f6 := ⟨Try.f97.name, by decide, Try.func97.trans (congrArg some (by kernel_rfl))⟩
  f14 := ⟨Try.f109.name, by decide, Try.func109.trans (congrArg some (by kernel_rfl))⟩
  f15 := Try.func110.trans (congrArg some (by kernel_rfl))
  f20 := ⟨Try.f112.name, by decide, Try.func112.trans (congrArg some (by kernel_rfl))⟩
  f21 := ⟨Try.f113.name, by decide, Try.func113.trans (congrArg some (by kernel_rfl))⟩
  f22 := ⟨Try.f114.name, by decide, Try.func114.trans (congrArg some (by kernel_rfl))⟩
  f23 := ⟨Try.f115.name, by decide, Try.func115.trans (congrArg some (by kernel_rfl))⟩
  f24 := ⟨Try.f116.name, by decide, Try.func116.trans (congrArg some (by kernel_rfl))⟩
  f25 := ⟨Try.f117.name, by decide, Try.func117.trans (congrArg some (by kernel_rfl))⟩
  f26 := ⟨Try.f118.name, by decide, Try.func118.trans (congrArg some (by kernel_rfl))⟩
  f27 := ⟨Try.f119.name, by decide, Try.func119.trans (congrArg some (by kernel_rfl))⟩
  f28 := Try.func120.trans (congrArg some (by kernel_rfl))
  f29 := Try.func121.trans (congrArg some (by kernel_rfl))
  f46 := ⟨Try.f122.name, by decide, Try.func122.trans (congrArg some (by kernel_rfl))⟩
  f47 := Try.func123.trans (congrArg some (by kernel_rfl))
  f48 := Try.func124.trans (congrArg some (by kernel_rfl))
  f49 := ⟨Try.f125.name, by decide, Try.func125.trans (congrArg some (by kernel_rfl))⟩
  f50 := ⟨Try.f126.name, by decide, Try.func126.trans (congrArg some (by kernel_rfl))⟩
  f57 := ⟨Try.f127.name, by decide, Try.func127.trans (congrArg some (by kernel_rfl))⟩
  t0 := Try.underlying0
  a0 := Try.isAgg0
  z0 := Try.sizeOf0
  v0 := Try.zeroValue0
  t3 := Try.underlying3
  a3 := Try.isAgg3
  z3 := Try.sizeOf3
  v3 := Try.zeroValue3
  t4 := Try.underlying4
  a4 := Try.isAgg4
  z4 := Try.sizeOf4
  v4 := Try.zeroValue4
  t5 := Try.underlying5
  a5 := Try.isAgg5
  z5 := Try.sizeOf5
  v5 := Try.zeroValue5
  t9 := Try.underlying9
  a9 := Try.isAgg9
  z9 := Try.sizeOf9
  v9 := Try.zeroValue9
  t22 := Try.underlying45
  a22 := Try.isAgg45
  z22 := Try.sizeOf45
  v22 := Try.zeroValue45
  a24 := Try.isAgg3
  z24 := Try.sizeOf3
  t25 := Try.underlying98
  a25 := Try.isAgg98
  z25 := Try.sizeOf98
  v25 := Try.zeroValue98
  t39 := Try.underlying109
  a39 := Try.isAgg109
  z39 := Try.sizeOf109
  v39 := Try.zeroValue109
  t45 := Try.underlying113
  a45 := Try.isAgg113
  z45 := Try.sizeOf113
  v45 := Try.zeroValue113
  t46 := Try.underlying114
  a46 := Try.isAgg114
  z46 := Try.sizeOf114
  v46 := Try.zeroValue114
  t50 := Try.underlying43
  a50 := Try.isAgg43
  z50 := Try.sizeOf43
  v50 := Try.zeroValue43
  t53 := Try.underlying120
  a53 := Try.isAgg120
  z53 := Try.sizeOf120
  v53 := Try.zeroValue120
  t55 := Try.underlying122
  a55 := Try.isAgg122
  z55 := Try.sizeOf122
  v55 := Try.zeroValue122
  t66 := Try.underlying123
  a66 := Try.isAgg123
  z66 := Try.sizeOf123
  v66 := Try.zeroValue123
  t70 := Try.underlying127
  a70 := Try.isAgg127
  z70 := Try.sizeOf127
  v70 := Try.zeroValue127
  t76 := Try.underlying129
  a76 := Try.isAgg129
  z76 := Try.sizeOf129
  v76 := Try.zeroValue129
  t77 := Try.underlying130
  a77 := Try.isAgg130
  z77 := Try.sizeOf130
  v77 := Try.zeroValue130 }
end Go.Proofs
