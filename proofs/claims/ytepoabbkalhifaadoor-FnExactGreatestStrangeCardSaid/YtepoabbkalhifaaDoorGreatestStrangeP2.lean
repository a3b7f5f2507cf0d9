/-
  Texts put together for the claim of 'GreatestStrange' (pack 2): Cmp, Got, Tab, Has, Own, Table, LRows, Mats, Threes, Ways, TriP, Iter, Told.
-/
import Derived.Test.YtepoabbkalhifaaDoorGreatestStrangeP1
import Derived.Deep.OwnRows
import Derived.ArgAppend
import Derived.StillTailTactics
import Derived.Laws.AppendOwnNone
import Derived.RangeFuncNested
import Derived.RangeFuncBound
import Derived.RangeFuncCalls
import Derived.RangeFuncLeaves
import Derived.Shelf.Abstract
import Derived.Shelf.RegionOpen
import Derived.OwnWalkIn
import Derived.TacticsInMore
import Derived.LoopNIn
import Derived.LoopIn
import Derived.Deep.RegionLawGrows
import Derived.Laws.OwnMore
/-
  THE PROGRAM's OWN LOOK AT A PARTY: comparisons of numbers and of pairs, 'impl.IsParty', by their contracts.
-/
namespace Go.Proofs.YtepoabbkalhifaaDoor
open Go.RowKit

def cmpI (a b : Int) : Int := if a < b then -1 else if b < a then 1 else 0
set_option maxHeartbeats 400000 in
theorem isNaN_any (a : Int) (w : World) : Calls Tryd.prog 98 #[.int .i64 a] w fun e w' => e = .returned (.bool false) ∧ w = w' := by
  go_enter Tryd.func98, Tryd.ntmps98
  go_wp2
  go_ret
  exact ⟨by simp, rfl⟩
set_option maxHeartbeats 400000 in
theorem compare_any (a b : Int) (w : World) : Calls Tryd.prog 77 #[.int .i64 a, .int .i64 b] w fun e w' => e = .returned (.int .i64 (cmpI a b)) ∧ w = w' := by
  by_cases h1 : a < b
  · have e : cmpI a b = -1 := if_pos h1
    rw [e]
    clear e
    go_enter Tryd.func77, Tryd.ntmps77
    go_wp2_with (go_at_call 98; refine (isNaN_any _ _).mono ?_; rintro e w' ⟨rfl, rfl⟩)
    go_ret
    exact ⟨rfl, rfl⟩
  · by_cases h2 : b < a
    · have e : cmpI a b = 1 := by rw [cmpI, if_neg h1, if_pos h2]
      rw [e]
      clear e
      go_enter Tryd.func77, Tryd.ntmps77
      go_wp2_with (go_at_call 98; refine (isNaN_any _ _).mono ?_; rintro e w' ⟨rfl, rfl⟩)
      go_ret
      exact ⟨rfl, rfl⟩
    · have e : cmpI a b = 0 := by rw [cmpI, if_neg h1, if_neg h2]
      rw [e]
      clear e
      go_enter Tryd.func77, Tryd.ntmps77
      go_wp2_with (go_at_call 98; refine (isNaN_any _ _).mono ?_; rintro e w' ⟨rfl, rfl⟩)
      go_ret
      exact ⟨rfl, rfl⟩

set_option maxHeartbeats 400000 in
theorem or_any (x y : Int) (g : Nat) (w : World) (h0 : w.cell? ⟨g, 0, none⟩ = some (.int .i64 x)) (h1 : w.cell? ⟨g, 1, none⟩ = some (.int .i64 y)) :
    Calls Tryd.prog 104 #[.slice (some ⟨g, 0, none⟩) 2 2] w fun e w' => e = .returned (.int .i64 (if x = 0 then y else x)) ∧ w = w' := by
  by_cases hx : x = 0
  · subst hx
    rw [if_pos rfl]
    by_cases hy : y = 0
    · subst hy
      go_enter Tryd.func104, Tryd.ntmps104
      go_wp2
      refine wp_loop_rounds 3 ?_
      rw [rounds_succ]
      go_wp2
      rw [rounds_succ]
      go_wp2
      rw [rounds_succ]
      go_wp2
      go_ret
      exact ⟨rfl, rfl⟩
    · go_enter Tryd.func104, Tryd.ntmps104
      go_wp2
      refine wp_loop_rounds 3 ?_
      rw [rounds_succ]
      go_wp2
      rw [rounds_succ]
      go_wp2
      go_ret
      exact ⟨rfl, rfl⟩
  · rw [if_neg hx]
    go_enter Tryd.func104, Tryd.ntmps104
    go_wp2
    refine wp_loop_rounds 3 ?_
    rw [rounds_succ]
    go_wp2
    go_ret
    exact ⟨rfl, rfl⟩

def cmpP (a b c d : Int) : Int := if cmpI a c = 0 then cmpI b d else cmpI a c
theorem cmpP_less (a b c d : Int) : cmpP a b c d < 0 ↔ (a < c ∨ a = c ∧ b < d) := by
  unfold cmpP cmpI
  repeat' split
  all_goals omega
set_option maxHeartbeats 1000000 in
set_option maxRecDepth 100000 in
theorem comparePairs_any (a b c d : Int) (w : World) :
    Calls Tryd.prog 87 #[.agg #[.int .i64 a, .int .i64 b], .agg #[.int .i64 c, .int .i64 d]] w fun e w' => e = .returned (.int .i64 (cmpP a b c d)) ∧ Below w.heap.size w w' := by
  go_enter Tryd.func87, Tryd.ntmps87
  go_wp2
  generalize hW : (w.alloc (Obj.cells #[.int .i64 a, .int .i64 b] 106)).alloc (Obj.cells #[.int .i64 c, .int .i64 d] 106) = W
  have c0 : W.cell? ⟨w.heap.size, 0, none⟩ = some (.int .i64 a) := by rw [← hW]; simp
  have c1 : W.cell? ⟨w.heap.size, 1, none⟩ = some (.int .i64 b) := by rw [← hW]; simp
  have c2 : W.cell? ⟨w.heap.size + 1, 0, none⟩ = some (.int .i64 c) := by rw [← hW]; simp
  have c3 : W.cell? ⟨w.heap.size + 1, 1, none⟩ = some (.int .i64 d) := by rw [← hW]; simp
  have hb : Below w.heap.size w W := by rw [← hW]; go_grown
  clear hW
  refine wp_region_still_tail 10 (by kernel_rfl) (by kernel_rfl) ?_
  simp only [List.take_succ_cons, List.take_zero, List.drop_succ_cons, List.drop_zero]
  still_step
  still_step
  still_step
  still_step
  still_call ((compare_any a c _).mono fun _ _ h => ⟨h.1, h.2.symm⟩)
  still_step
  still_step
  still_step
  still_step
  still_call ((compare_any b d _).mono fun _ _ h => ⟨h.1, h.2.symm⟩)
  refine wpStill_nil ?_
  change wpList _ _ _ _ _ (World.drew _)
  go_wp2_with (go_at_call 104; refine (or_any (cmpI a c) (cmpI b d) _ _ (by simp) (by simp)).mono ?_; rintro e w2 ⟨rfl, rfl⟩)
  · have h : cmpI a c = 0 := by assumption
    go_ret
    exact ⟨by simp [cmpP, h], (hb.alloc hb.size _).drew⟩
  · have h : ¬ cmpI a c = 0 := by assumption
    go_ret
    exact ⟨by simp [cmpP, h], (hb.alloc hb.size _).drew⟩
theorem comparePairs_less (a b c d : Int) (h : a < c ∨ a = c ∧ b < d) (w : World) :
    Calls Tryd.prog 87 #[.agg #[.int .i64 a, .int .i64 b], .agg #[.int .i64 c, .int .i64 d]] w fun e w' => e = .returned (.int .i64 (-1)) ∧ Below w.heap.size w w' :=
  (comparePairs_any a b c d w).mono fun _ _ hh => by
    have h1 := (cmpP_less a b c d).2 h
    have h2 : cmpP a b c d = -1 := by unfold cmpP cmpI at h1 ⊢; repeat' split at h1; all_goals (repeat' split); all_goals omega
    rwa [h2] at hh
theorem cmpP_more {a b c d : Int} (h : ¬ (a < c ∨ a = c ∧ b < d)) : 0 ≤ cmpP a b c d := by
  have h1 : ¬ cmpP a b c d < 0 := fun h2 => h ((cmpP_less a b c d).1 h2)
  omega

set_option maxHeartbeats 1000000 in
theorem isParty_any (p : Int) (l : PL) (A : Option Addr) (c : Nat) (w : World) (hl : l.length ≤ 1048576) (hA : CRead w w.heap.size A (pcells l)) :
    Calls Tryd.prog 58 #[.agg #[.int .i64 p, .slice A l.length c]] w fun e w' => e = .returned (.bool (isP p l)) ∧ Below w.heap.size w w' := by
  by_cases hp : p < 0 ∨ 12 < p
  · rw [isP_out p l hp]
    rcases hp with hp | hp
    · go_enter Tryd.func58, Tryd.ntmps58
      go_wp2
      go_ret
      exact ⟨rfl, by go_grown⟩
    · have hp' : ¬ p < 0 := by omega
      go_enter Tryd.func58, Tryd.ntmps58
      go_wp2
      go_ret
      exact ⟨rfl, by go_grown⟩
  · have hp0 : 0 ≤ p := by omega
    have hp1 : p ≤ 12 := by omega
    generalize hn : l.length = n at *
    have Hn := Lib.hid hn
    clear hn hp
    go_enter Tryd.func58, Tryd.ntmps58
    go_wp2
    have hbw : Below (w.heap.size + 1) (w.alloc (Obj.cells #[.int .i64 p, .slice A n c] 50)) (w.alloc (Obj.cells #[.int .i64 p, .slice A n c] 50)) := Below.refl _ _
    go_loopw [16] (fun i wr => ∃ k : Nat, k ≤ n ∧ i = .int .i64 k ∧ (∀ j, j < k → goodAt p l j = true) ∧ Below (w.heap.size + 1) (w.alloc (Obj.cells #[.int .i64 p, .slice A n c] 50)) wr) (fun i _ => n - (intOf i).toNat)
    case atStart => exact ⟨0, Nat.zero_le _, rfl, fun j hj => by omega, hbw⟩
    case round =>
      obtain ⟨k, hk, rfl, hgood, hb⟩ := hrel
      have Hgood := Lib.hid hgood
      clear hgood hbw
      have hs := hb.size
      simp only [World.size_alloc] at hs
      have hbw : Below w.heap.size w wr := Below.trans (b := _) (by go_grown) (hb.mono (by omega))
      have u0 : wr.cell? ⟨w.heap.size, 0, none⟩ = some (.int .i64 p) := (hb.cell (p := ⟨w.heap.size, 0, none⟩) (by simp)).trans (by simp)
      have u1 : wr.cell? ⟨w.heap.size, 1, none⟩ = some (.slice A n c) := (hb.cell (p := ⟨w.heap.size, 1, none⟩) (by simp)).trans (by simp)
      by_cases hlt : k < n
      · obtain ⟨⟨x, y⟩, hx⟩ := getSome l k (by rw [Hn.out]; exact hlt)
        obtain ⟨b, off, rfl, hbb, c0, c1⟩ := (hA.below hbw (Nat.le_refl _)).pair hx
        have hki : (k : Int) < (n : Int) := by omega
        have Hx := Lib.hid hx
        clear hx
        have u2 : (wr.alloc (.cells #[.int .i64 x, .int .i64 y] 106)).cell? ⟨w.heap.size, 0, none⟩ = some (.int .i64 p) := (World.cell?_alloc_lt wr _ _ (by simp; omega)).trans u0
        have u3 : (wr.alloc (.cells #[.int .i64 x, .int .i64 y] 106)).cell? ⟨w.heap.size, 1, none⟩ = some (.slice (some ⟨b, off, none⟩) n c) := (World.cell?_alloc_lt wr _ _ (by simp; omega)).trans u1
        by_cases hxy : 0 ≤ x ∧ x < y ∧ y < p
        · have x0 : 0 ≤ x := by omega
          have x1 : ¬ (y ≤ x) := by omega
          have x2 : ¬ (p ≤ y) := by omega
          have e0 : ∀ z : Ext (wr.heap.size + 1) (wr.alloc (.cells #[.int .i64 x, .int .i64 y] 106)), z.val.cell? ⟨wr.heap.size, 0, none⟩ = some (.int .i64 x) := fun z => z.cell (by simp) (by omega)
          have e1 : ∀ z : Ext (wr.heap.size + 1) (wr.alloc (.cells #[.int .i64 x, .int .i64 y] 106)), z.val.cell? ⟨wr.heap.size, 1, none⟩ = some (.int .i64 y) := fun z => z.cell (by simp) (by omega)
          have z0 : ∀ z : Ext (wr.heap.size + 1) (wr.alloc (.cells #[.int .i64 x, .int .i64 y] 106)), z.val.cell? ⟨w.heap.size, 0, none⟩ = some (.int .i64 p) := fun z => z.cell ((World.cell?_alloc_lt wr _ _ (by simp; omega)).trans u0) (by omega)
          have z1 : ∀ z : Ext (wr.heap.size + 1) (wr.alloc (.cells #[.int .i64 x, .int .i64 y] 106)), z.val.cell? ⟨w.heap.size, 1, none⟩ = some (.slice (some ⟨b, off, none⟩) n c) := fun z => z.cell ((World.cell?_alloc_lt wr _ _ (by simp; omega)).trans u1) (by omega)
          have Hxy := Lib.hid hxy
          clear hxy
          by_cases hkz : k = 0
          · have hk0 : decide ((0 : Int) < (k : Int)) = false := by simp [hkz]
            have hk1 : decide (0 < k) = false := by simp [hkz]
            have Hkz := Lib.hid hkz
            clear hkz
            go_wp2
            refine wp_region_ext (wr.heap.size + 1) (by kernel_rfl) (by kernel_rfl) ?_
            repeat (go_big_quiet_step (fail))
            refine wpQuiet_nil ?_
            rintro w1 ⟨⟨_, hb1⟩, rfl⟩
            have hb2 : Below (wr.heap.size) wr w1 := Below.trans (b := _) ((Below.refl _ _).alloc (by omega) _) (hb1.mono (by omega))
            go_wp2
            go_roundw
            case rel =>
              refine ⟨k + 1, by omega, by go_num, ?_, hb.trans (hb2.mono (by omega))⟩
              intro j hj
              rcases Nat.lt_succ_iff_lt_or_eq.1 hj with h | rfl
              · exact Hgood.out j h
              · exact goodAt_zero Hkz.out Hx.out Hxy.out
            case measure => simp [intOf]; omega
          · obtain ⟨⟨x', y'⟩, hx'⟩ := getSome l (k - 1) (by rw [Hn.out]; omega)
            obtain ⟨b', off', e', _, c0', c1'⟩ := (hA.below hbw (Nat.le_refl _)).pair hx'
            simp only [Option.some.injEq, Addr.mk.injEq, and_true] at e'
            obtain ⟨rfl, rfl⟩ := e'
            have Hx' := Lib.hid hx'
            clear hx'
            have e2 : ∀ z : Ext (wr.heap.size + 1) (wr.alloc (.cells #[.int .i64 x, .int .i64 y] 106)), z.val.cell? ⟨b, off + (k - 1) * 2, none⟩ = some (.int .i64 x') := fun z => z.cell ((World.cell?_alloc_lt wr _ _ (by simp; omega)).trans c0') (by omega)
            have e3 : ∀ z : Ext (wr.heap.size + 1) (wr.alloc (.cells #[.int .i64 x, .int .i64 y] 106)), z.val.cell? ⟨b, off + (k - 1) * 2 + 1, none⟩ = some (.int .i64 y') := fun z => z.cell ((World.cell?_alloc_lt wr _ _ (by simp; omega)).trans c1') (by omega)
            have hk0 : (0 : Int) < (k : Int) := by omega
            have hk1 : decide ((0 : Int) < (k : Int)) = true := by simp; omega
            have hk2 : 0 < k := by omega
            have hk3 : (0 : Int) ≤ (k : Int) - 1 := by omega
            have hk4 : (k : Int) - 1 < (n : Int) := by omega
            clear hkz
            by_cases hA3 : x' < x ∨ x' = x ∧ y' < y
            · go_wp2
              refine wp_region_ext (wr.heap.size + 1) (by kernel_rfl) (by kernel_rfl) ?_
              repeat (go_big_quiet_step ((go_at_call 87; exact Calls.ext_of ((comparePairs_less _ _ _ _ hA3 _).mono fun _ _ h => ⟨h.1, h.2.mono (Ext.size' (by simp) _)⟩))))
              refine wpQuiet_nil ?_
              rintro w1 ⟨⟨_, hb1⟩, rfl⟩
              have hb2 : Below (wr.heap.size) wr w1 := Below.trans (b := _) ((Below.refl _ _).alloc (by omega) _) (hb1.mono (by omega))
              go_wp2
              go_roundw
              case rel =>
                refine ⟨k + 1, by omega, by go_num, ?_, hb.trans (hb2.mono (by omega))⟩
                intro j hj
                rcases Nat.lt_succ_iff_lt_or_eq.1 hj with h | rfl
                · exact Hgood.out j h
                · exact goodAt_later hk2 Hx'.out Hx.out Hxy.out hA3
              case measure => simp [intOf]; omega
            · have hmore := cmpP_more hA3
              go_wp2
              refine wp_region_ext (wr.heap.size + 1) (by kernel_rfl) (by kernel_rfl) ?_
              repeat (go_big_quiet_step ((go_at_call 87; exact Calls.ext_of ((comparePairs_any _ _ _ _ _).mono fun _ _ h => ⟨h.1, h.2.mono (Ext.size' (by simp) _)⟩))))
              refine wpQuiet_nil ?_
              rintro w1 ⟨⟨_, hb1⟩, rfl⟩
              have hb2 : Below (wr.heap.size) wr w1 := Below.trans (b := _) ((Below.refl _ _).alloc (by omega) _) (hb1.mono (by omega))
              go_wp2
              go_ret
              refine ⟨?_, hbw.trans (hb2.mono (by omega))⟩
              rw [isP_no p l (i := k) (by rw [Hn.out]; exact hlt) (goodAt_stale' hk2 Hx'.out Hx.out hA3)]
              rfl
        · have hres : isP p l = false := isP_no p l (i := k) (by rw [Hn.out]; exact hlt) (goodAt_bad Hx.out hxy)
          have Hres := Lib.hid hres
          clear hres
          by_cases h1 : x < 0
          · go_wp2
            go_ret
            exact ⟨by rw [Hres.out]; rfl, hbw.alloc (by omega) _⟩
          · by_cases h2 : y ≤ x
            · go_wp2
              go_ret
              exact ⟨by rw [Hres.out]; rfl, hbw.alloc (by omega) _⟩
            · have h3 : p ≤ y := by omega
              go_wp2
              go_ret
              exact ⟨by rw [Hres.out]; rfl, hbw.alloc (by omega) _⟩
      · have hkl : k = n := by omega
        subst hkl
        have hge : ¬ ((k : Int) < k) := by omega
        go_wp2
        go_ret
        refine ⟨?_, hbw⟩
        rw [isP_of p l hp0 hp1 (fun i hi => Hgood.out i (by rw [Hn.out] at hi; exact hi))]
        rfl

end Go.Proofs.YtepoabbkalhifaaDoor
/-
  Parties and lists of numbers that a call comes back with.
-/
namespace Go.Proofs.YtepoabbkalhifaaDoor
open Go.RowKit

/-- A call came back with a party and a bool; the party's pairs lie in memory of its own. -/
def GotPartyOk (w : World) (p : Int) (l : PL) (ok : Bool) (e : Ending) (w' : World) : Prop :=
  ∃ A c, e = .returned (.tuple #[.agg #[.int .i64 p, .slice A l.length c], .bool ok]) ∧ w'.ownsRow w.heap.size 106 2 (.slice A l.length c) l.length (pcells l) ∧ Below w.heap.size w w'
/-- A call came back with a list of numbers and a bool. -/
def GotIntsOk (w : World) (l : List Int) (ok : Bool) (e : Ending) (w' : World) : Prop :=
  ∃ A c, e = .returned (.tuple #[.slice A l.length c, .bool ok]) ∧ w'.ownsRow w.heap.size 3 1 (.slice A l.length c) l.length (icells l) ∧ Below w.heap.size w w'

end Go.Proofs.YtepoabbkalhifaaDoor
/-
  TABLES OF WHO IS WHOSE FRIEND, in memory of the call's own: one row of rows.
-/
namespace Go.Proofs.YtepoabbkalhifaaDoor
open Go.RowKit

def upd (t : Nat → Nat → Bool) (a b : Nat) (x : Bool) : Nat → Nat → Bool := fun i j => if i = a ∧ j = b then x else t i j
def adj (l : PL) (i j : Nat) : Bool := l.contains ((i : Int), (j : Int)) || l.contains ((j : Int), (i : Int))
theorem adj_nil : adj [] = fun _ _ => false := rfl
theorem adj_snoc (l : PL) (a b : Nat) : adj (l ++ [((a : Int), (b : Int))]) = upd (upd (adj l) a b true) b a true := by
  funext i j
  simp only [adj, upd, List.contains_append, List.contains_cons, List.contains_nil, Bool.or_false]
  have e1 : (((i : Int), (j : Int)) == ((a : Int), (b : Int))) = decide (i = a ∧ j = b) := by rw [Bool.eq_iff_iff]; simp; omega
  have e2 : (((j : Int), (i : Int)) == ((a : Int), (b : Int))) = decide (i = b ∧ j = a) := by rw [Bool.eq_iff_iff]; simp; omega
  rw [e1, e2]
  by_cases h1 : i = b ∧ j = a
  · simp [h1]
  · by_cases h2 : i = a ∧ j = b
    · simp [h2]
    · simp [h1, h2]
theorem adj_pair {n : Nat} {l : PL} (h : isP n l = true) {i j : Nat} (hij : i < j) : adj l i j = l.contains ((i : Int), (j : Int)) := by
  unfold adj
  have : l.contains ((j : Int), (i : Int)) = false := by
    rw [Bool.eq_false_iff]
    intro hc
    rw [List.contains_iff_mem] at hc
    have := (isP_list h).2.2.1 _ hc
    simp at this
    omega
  rw [this, Bool.or_false]
theorem adj_comm (l : PL) (i j : Nat) : adj l i j = adj l j i := by unfold adj; rw [Bool.or_comm]

/-- k rows of n bools each, row i in block G i, under the slice v. -/
structure TabG (w : World) (B : Nat) (v : Value) (k n : Nat) (G : Nat → Nat) (t : Nat → Nat → Bool) : Prop where
  own : w.ownsRow B 115 1 v k ((List.range k).map fun i => Value.slice (some ⟨G i, 0, none⟩) n n)
  row : ∀ i, i < k → B ≤ G i ∧ w.rowIs (G i) 4 n (fun j => .bool (t i j))
  inj : ∀ i j, i < k → j < k → G i = G j → i = j
section
variable {w w' : World} {B k n : Nat} {v : Value} {G : Nat → Nat} {t t' : Nat → Nat → Bool}
theorem TabG.congr (h : TabG w B v k n G t) (e : ∀ i j, i < k → j < n → t i j = t' i j) : TabG w B v k n G t' :=
  ⟨h.own, fun i hi => ⟨(h.row i hi).1, (h.row i hi).2.congr fun j hj => by rw [e i j hi hj]⟩, h.inj⟩
theorem TabG.of_blocks (h : TabG w B v k n G t) (hg : w.grownBy w' none) : TabG w' B v k n G t :=
  ⟨h.own.kept hg (by cases v.ownBlock <;> simp), fun i hi => ⟨(h.row i hi).1, (h.row i hi).2.of_block (hg.block _ (h.row i hi).2.lt (by simp))⟩, h.inj⟩
theorem TabG.alloc (h : TabG w B v k n G t) (o : Obj) : TabG (w.alloc o) B v k n G t := h.of_blocks (World.grownBy_alloc w o none)
theorem TabG.below (h : TabG w B v k n G t) {B' : Nat} (hb : Below B' w w') (hB : w.heap.size ≤ B') : TabG w' B v k n G t := h.of_blocks (below_grownBy hb hB none)
theorem TabG.lower (h : TabG w B v k n G t) {B' : Nat} (hB : B' ≤ B) : TabG w B' v k n G t := ⟨own_lower h.own hB, fun i hi => ⟨Nat.le_trans hB (h.row i hi).1, (h.row i hi).2⟩, h.inj⟩
theorem TabG.cell (h : TabG w B v k n G t) {i j : Nat} (hi : i < k) (hj : j < n) : w.cell? ⟨G i, j, none⟩ = some (.bool (t i j)) := (h.row i hi).2.cell hj
theorem TabG.frozen (h : TabG w B v k n G t) {i : Nat} (hi : i < k) (j : Nat) : w.frozen? ⟨G i, j, none⟩ = false := (h.row i hi).2.frozen j
theorem TabG.blk (h : TabG w B v k n G t) {i : Nat} (hi : i < k) : B ≤ G i ∧ G i < w.heap.size := ⟨(h.row i hi).1, (h.row i hi).2.lt⟩
theorem TabG.outer {g c : Nat} (h : TabG w B (.slice (some ⟨g, 0, none⟩) k c) k n G t) {i : Nat} (hi : i < k) : w.cell? ⟨g, i, none⟩ = some (.slice (some ⟨G i, 0, none⟩) n n) := by
  rw [h.own.cellAt i (by omega)]
  simp [hi]
theorem row_ne_own {e b t : Nat} {size m : Nat} {xs : List Value} {f : Nat → Value} (h : w.ownsRow B e size v m xs) (hr : w.rowIs b t n f) (hne : e ≠ t) : v.ownBlock ≠ some b := by
  rcases h.2 with ⟨rfl, _⟩ | ⟨g, cap, cur, rfl, _, hh, _⟩
  · simp [Value.ownBlock]
  · intro e
    have hgb : g = b := by simpa [Value.ownBlock] using e
    subst hgb
    obtain ⟨c, hc, _⟩ := hr
    rw [hh] at hc
    injection hc with hc
    injection hc with _ ht
    exact hne ht
/-- a store into the table -/
theorem TabG.set (h : TabG w B v k n G t) {a b : Nat} (ha : a < k) (x : Bool) : TabG (w.setCell ⟨G a, b, none⟩ (.bool x)) B v k n G (upd t a b x) := by
  have hne := row_ne_own h.own (h.row a ha).2 (by decide)
  have hg : w.grownBy (w.setCell ⟨G a, b, none⟩ (.bool x)) (some (G a)) := ⟨rfl, rfl, rfl, by simp, fun i _ hi => Below.heap_setCell w _ _ i (fun e => hi (by rw [e]))⟩
  refine ⟨h.own.kept hg (.inr hne), fun i hi => ⟨(h.row i hi).1, ?_⟩, h.inj⟩
  by_cases e : i = a
  · subst e
    exact ((h.row i hi).2.set b (.bool x)).congr fun j _ => by
      unfold upd
      by_cases hj : j = b <;> simp [hj]
  · have hG : G i ≠ G a := fun hh => e (h.inj i a hi ha hh)
    exact ((h.row i hi).2.setOther (a := ⟨G a, b, none⟩) hG _).congr fun j _ => by unfold upd; simp [e]
/-- one row more -/
theorem TabG.push {W : World} {v' : Value} (h : TabG W B v k n G (fun _ _ => false)) (hB : B ≤ W.heap.size) {o : Obj} (hg : ((W.alloc (.cells (madeCells #[.bool false] n) 4)).alloc o).grownBy w' v.ownBlock)
    (hown : w'.ownsRow B 115 1 v' (k + 1) (((List.range k).map fun i => Value.slice (some ⟨G i, 0, none⟩) n n) ++ [.slice (some ⟨W.heap.size, 0, none⟩) n n])) :
    TabG w' B v' (k + 1) n (fun i => if i < k then G i else W.heap.size) (fun _ _ => false) := by
  have h2 := (h.alloc (.cells (madeCells #[.bool false] n) 4)).alloc o
  have hnew : ((W.alloc (.cells (madeCells #[.bool false] n) 4)).alloc o).rowIs W.heap.size 4 n (fun _ => .bool false) := (World.rowIs_made W (.bool false) n 4).alloc o
  have hne : ∀ b f, ((W.alloc (.cells (madeCells #[.bool false] n) 4)).alloc o).rowIs b 4 n f → w'.rowIs b 4 n f := fun b f hr =>
    hr.of_block (hg.block b hr.lt (fun e => row_ne_own h2.own hr (by decide) e.symm))
  refine ⟨?_, fun i hi => ?_, fun i j hi hj e => ?_⟩
  · have : (List.range (k + 1)).map (fun i => Value.slice (some ⟨if i < k then G i else W.heap.size, 0, none⟩) n n) = ((List.range k).map fun i => Value.slice (some ⟨G i, 0, none⟩) n n) ++ [.slice (some ⟨W.heap.size, 0, none⟩) n n] := by
      rw [List.range_succ, List.map_append]
      congr 1
      · exact List.map_congr_left fun i hi => by simp [List.mem_range.1 hi]
      · simp
    rw [this]
    exact hown
  · by_cases hik : i < k
    · simp only [hik, if_true]
      exact ⟨(h.row i hik).1, hne _ _ (h2.row i hik).2⟩
    · simp only [hik, if_false]
      exact ⟨hB, hne _ _ hnew⟩
  · by_cases hik : i < k <;> by_cases hjk : j < k <;> simp only [hik, hjk, if_true, if_false] at e
    · exact h.inj i j hik hjk e
    · have := (h.row i hik).2.lt; omega
    · have := (h.row j hjk).2.lt; omega
    · omega
theorem TabG.nil (w : World) (B n : Nat) (G : Nat → Nat) (t : Nat → Nat → Bool) : TabG w B (.slice none 0 0) 0 n G t := ⟨World.ownsRow_nil _ _ _ _, fun i hi => by omega, fun i j hi => by omega⟩
end
theorem own_cap {w : World} {base : Nat} {e : TypeId} {size n c : Nat} {A : Option Addr} {xs : List Value} (h : w.ownsRow base e size (.slice A n c) n xs) : n ≤ c := by
  rcases h.2 with ⟨h1, h2⟩ | ⟨g, cap, cur, hv, _, _, hm, _, _⟩
  · omega
  · simp only [Value.slice.injEq] at hv
    omega
theorem own_shape {w : World} {B : Nat} {e : TypeId} {size m : Nat} {v : Value} {xs : List Value} (h : w.ownsRow B e size v m xs) : ∃ A c, v = .slice A m c ∧ m ≤ c + 0 ∧ c ≤ maxLen := by
  rcases h.2 with ⟨rfl, rfl⟩ | ⟨g, cap, cur, rfl, _, _, hm, hc, _⟩
  · exact ⟨none, 0, rfl, Nat.le_refl _, by simp [maxLen]⟩
  · exact ⟨_, cap, rfl, hm, hc⟩
/-- the one cell of a slice that was built for an append -/
theorem one_cell {w : World} {g : Nat} {v : Value} (h : w.cell? ⟨g, 0, none⟩ = some v) : ∀ j u, [v][j]? = some u → w.cell? ((⟨g, 0, none⟩ : Addr).add j) = some u := by
  intro j u hu
  match j, hu with
  | 0, hu => simp at hu; subst hu; simpa [Addr.add] using h
theorem one_one {v : Value} (h : v.oneCell' = true) : ∀ u ∈ [v], u.oneCell' = true := by
  intro u hu
  simp at hu
  subst hu
  exact h
/-- A call came back with a table. -/
def GotTab (w : World) (n : Nat) (t : Nat → Nat → Bool) (e : Ending) (w' : World) : Prop :=
  ∃ A c G, e = .returned (.slice A n c) ∧ TabG w' w.heap.size (.slice A n c) n n G t ∧ Below w.heap.size w w'
end Go.Proofs.YtepoabbkalhifaaDoor
/-
  WHETHER A NUMBER IS IN A LIST: the model's look; a list's front.
-/
namespace Go.Proofs.YtepoabbkalhifaaDoor
open Go.RowKit

theorem icells_getD {l : List Int} {j : Nat} (h : j < l.length) : (icells l)[j]? = some (.int .i64 (l.getD j 0)) := by
  simp [icells, List.getD_eq_getElem?_getD, List.getElem?_eq_getElem h]
theorem CRead.ints {w : World} {B : Nat} {A : Option Addr} {q : List Int} (h : CRead w B A (icells q)) (hq : 0 < q.length) : ∃ b off, A = some ⟨b, off, none⟩ ∧ b < B ∧ ∀ j, j < q.length → w.cell? ⟨b, off + j, none⟩ = some (.int .i64 (q.getD j 0)) := by
  obtain ⟨b, off, rfl, hb, _⟩ := h 0 _ (icells_getD hq)
  refine ⟨b, off, rfl, hb, fun j hj => ?_⟩
  obtain ⟨b', off', e, _, hc⟩ := h j _ (icells_getD hj)
  simp only [Option.some.injEq, Addr.mk.injEq, and_true] at e
  obtain ⟨rfl, rfl⟩ := e
  exact hc

theorem CRead.front {w : World} {B : Nat} {A : Option Addr} {q : List Int} (h : CRead w B A (icells q)) (k : Nat) : CRead w B A (icells (q.take k)) := fun j u hu => by
  refine h j u ?_
  unfold icells at hu ⊢
  rw [List.map_take, List.getElem?_take] at hu
  split at hu
  · exact hu
  · cases hu


/-- whether a number is in a list -/
def hasI (q : List Int) (x : Int) : Bool := q.contains x
theorem hasI_mem {q : List Int} {x : Int} : hasI q x = true ↔ x ∈ q := List.contains_iff_mem
end Go.Proofs.YtepoabbkalhifaaDoor
/-
  'spec.l1Own': a copy of a list of numbers, by its contract.
-/
namespace Go.Proofs.YtepoabbkalhifaaDoor
open Go.RowKit

set_option maxHeartbeats 1000000 in
set_option maxRecDepth 100000 in
theorem l1Own_any (q : List Int) (A : Option Addr) (c : Nat) (w : World) (hq : q.length ≤ 1048576) (h0 : 0 < q.length) (hA : CRead w w.heap.size A (icells q)) :
    Calls Tryd.prog 67 #[.slice A q.length c] w fun e w' => ∃ A' c', e = .returned (.slice A' q.length c') ∧ w'.ownsRow w.heap.size 3 1 (.slice A' q.length c') q.length (icells q) ∧ Below w.heap.size w w' := by
  obtain ⟨i0, hi, hz0, hz1, hz2⟩ := info_parts Tryd.infoInt
  obtain ⟨b, off, rfl, hb, hr⟩ := hA.ints h0
  go_enter Tryd.func67, Tryd.ntmps67
  have hc : ∀ j u, (icells q)[j]? = some u → (w.alloc (Obj.cells #[] 3)).cell? ((⟨b, off, none⟩ : Addr).add j) = some u := fun j u hu => by
    rw [Addr.add_lit]
    obtain ⟨b', off', e, _, hcell⟩ := hA j u hu
    simp only [Option.some.injEq, Addr.mk.injEq, and_true] at e
    obtain ⟨rfl, rfl⟩ := e
    exact (World.cell?_alloc_lt _ _ _ hb).trans hcell
  clear hr
  go_wp2_with (at_builtin; refine wpList_append_grows _ rfl _ _ 22 rfl 3 i0 _ 1 8 Tryd.underlying22 hi hz0 hz1 hz2 rfl (by decide) (some ⟨w.heap.size, 0, none⟩) 0 0 [] rfl (fun h => by cases h) rfl (fun b' hb' m u hu => by simp at hu) ⟨b, off, none⟩ q.length c (icells q) rfl (by simp [icells]) hc (icells_one q) (by omega) (by unfold maxLen; omega) (by omega) ?_; intro v1 w4 own4 gr4; simp only [Nat.zero_add, List.nil_append] at own4; obtain ⟨A4, d4, rfl, _⟩ := own_shape own4)
  go_ret
  exact ⟨A4, d4, rfl, own_lower own4 (by simp), below_of_gb (gb_trans (World.grownBy_alloc w _ none) gr4) (Nat.le_refl _)⟩
end Go.Proofs.YtepoabbkalhifaaDoor
/-
  THE MODEL's TABLE OF A PARTY, AND THE PARTY OF A TABLE, by their contracts.
-/
namespace Go.Proofs.YtepoabbkalhifaaDoor
open Go.RowKit

theorem Tryd.infoRow : (Tryd.prog.info? 115).map (fun i => (i.zero, i.size, i.bytes)) = some (some (.slice none 0 0), 1, 24) := by kernel_rfl

set_option maxHeartbeats 2000000 in
set_option maxRecDepth 100000 in
theorem paTable_any (p : Int) (l : PL) (A : Option Addr) (c : Nat) (w : World) (hp : isP p l = true) (hA : CRead w w.heap.size A (pcells l)) :
    Calls Tryd.prog 84 #[.agg #[.int .i64 p, .slice A l.length c]] w (GotTab w p.toNat (adj l)) := by
  obtain ⟨i0, hi, hz0, hz1, hz2⟩ := info_parts Tryd.infoRow
  obtain ⟨i1, hj, hy0, hy1, hy2⟩ := info_parts Tryd.infoBool
  obtain ⟨n, rfl⟩ : ∃ n : Nat, p = n := ⟨p.toNat, by have := isP_range hp; omega⟩
  have hn := isP_range hp
  have hlen : l.length ≤ 66 := by have h1 := isP_length hp; have h2 := people_sq hn.1 hn.2; omega
  simp only [Int.toNat_natCast]
  have Hp := Lib.hid hp
  clear hp
  generalize hB : w.heap.size + 1 = B
  have hBw : w.heap.size < B := by omega
  have HB := Lib.hid hB
  have hB0 : w.heap.size + 1 ≤ B := by omega
  have hB1 : B ≤ w.heap.size + 1 := by omega
  clear hB
  go_enter Tryd.func84, Tryd.ntmps84
  go_wp2
  go_loopw [3, 4] (fun v i wr => ∃ k : Nat, ∃ G, k ≤ n ∧ i = .int .i64 k ∧ TabG wr B v k n G (fun _ _ => false) ∧ Below B (w.alloc (Obj.cells #[.int .i64 (n : Int), .slice A l.length c] 50)) wr) (fun _ i _ => n - (intOf i).toNat)
  case atStart => exact ⟨0, fun _ => 0, Nat.zero_le _, rfl, TabG.nil _ _ _ _ _, Below.refl _ _⟩
  case round =>
    obtain ⟨k, G, hk, rfl, htab, hb⟩ := hrel
    have hs := hb.size
    simp only [World.size_alloc] at hs
    have u0 : wr.cell? ⟨w.heap.size, 0, none⟩ = some (.int .i64 n) := carry hb (by simp) hBw
    have u1 : wr.cell? ⟨w.heap.size, 1, none⟩ = some (.slice A l.length c) := carry hb (by simp) hBw
    by_cases hlt : k < n
    · have hki : (k : Int) < n := by omega
      go_wp2_with (first
        | (at_make; refine wpList_make_row _ rfl _ _ 115 rfl 4 i1 (.bool false) Tryd.underlying115 hj hy0 hy1 rfl _ _ n rfl rfl (by rw [hy2]; omega) (by omega) ?_)
        | (at_builtin; refine wpList_append_own _ rfl _ _ 108 rfl B 115 i0 (.slice none 0 0) 1 24 Tryd.underlying108 hi hz0 hz1 hz2 rfl (by decide) _ _ _ rfl ((htab.own.alloc _).alloc _) ⟨wr.heap.size + 1, 0, none⟩ 1 1 [.slice (some ⟨wr.heap.size, 0, none⟩) n n] rfl rfl (one_cell (by simp)) (one_one rfl) (by unfold maxLen; omega) (by omega) (by simp; omega) ?_; intro v' w1 hown' hgrow _; have htab' := htab.push (by omega) hgrow hown'))
      have hb1 : Below B (w.alloc (Obj.cells #[.int .i64 (n : Int), .slice A l.length c] 50)) w1 := ((hb.alloc (by omega) _).alloc (by simp; omega) _).grown hgrow (by simp; omega) (fun b hb => (htab.own.lt b hb).1)
      clear hown' hgrow
      go_roundw
      case rel => exact ⟨k + 1, _, by omega, by go_num, htab', hb1⟩
      case measure => simp [intOf]; omega
    · have hkl : n = k := by omega
      subst hkl
      have hge : ¬ ((n : Int) < n) := by omega
      obtain ⟨A', c', rfl, _⟩ := own_shape htab.own
      go_wp2
      go_loopw [22] (fun i wx => ∃ m : Nat, m ≤ l.length ∧ i = .int .i64 m ∧ TabG wx B (.slice A' n c') n n G (adj (l.take m)) ∧ Below B (w.alloc (Obj.cells #[.int .i64 (n : Int), .slice A l.length c] 50)) wx) (fun i _ => l.length - (intOf i).toNat)
      case atStart => exact ⟨0, Nat.zero_le _, rfl, by simpa [adj_nil] using htab, hb⟩
      case round =>
        clear htab hb u0 u1 hs
        obtain ⟨m, hm, rfl, htab, hb⟩ := hrel
        have hs := hb.size
        simp only [World.size_alloc] at hs
        have hbw : Below w.heap.size w wr := Below.trans (b := _) (by go_grown) (hb.mono (by omega))
        by_cases hmt : m < l.length
        · obtain ⟨⟨x, y⟩, hx⟩ := getSome l m hmt
          obtain ⟨h0, h1, h2⟩ := goodAt_pair (isP_good Hp.out hmt) hx
          obtain ⟨a, rfl⟩ : ∃ a : Nat, x = a := ⟨x.toNat, by omega⟩
          obtain ⟨b, rfl⟩ : ∃ b : Nat, y = b := ⟨y.toNat, by omega⟩
          obtain ⟨bb, off, rfl, hbb, c0, c1⟩ := (hA.below hbw (Nat.le_refl _)).pair hx
          obtain ⟨g, rfl⟩ := own_form htab.own (by omega)
          have hmi : (m : Int) < (l.length : Int) := by omega
          have han : a < n := by omega
          have hbn : b < n := by omega
          have ha : (a : Int) < n := by omega
          have hb' : (b : Int) < n := h2
          have hGa := htab.blk han
          have hGb := htab.blk hbn
          have Hx := Lib.hid hx
          clear hx
          go_wp2
          generalize hW : wr.alloc (Obj.cells #[.int .i64 (a : Int), .int .i64 (b : Int)] 106) = W
          have tW : TabG W B (.slice (some ⟨g, 0, none⟩) n c') n n G (adj (l.take m)) := by rw [← hW]; exact htab.alloc _
          have bW : Below B (w.alloc (Obj.cells #[.int .i64 (n : Int), .slice (some ⟨bb, off, none⟩) l.length c] 50)) W := by rw [← hW]; exact hb.alloc (by omega) _
          have e0 : W.cell? ⟨wr.heap.size, 0, none⟩ = some (.int .i64 a) := by rw [← hW]; simp
          have e1 : W.cell? ⟨wr.heap.size, 1, none⟩ = some (.int .i64 b) := by rw [← hW]; simp
          clear hW
          have t1 := tW.set (b := b) han true
          have t2 := t1.set (b := a) hbn true
          rw [← adj_snoc] at t2
          have d0 := tW.outer han
          have d1 := tW.cell han hbn
          have d2 := tW.frozen han b
          have d3 := t1.outer hbn
          have d4 := t1.cell hbn han
          have d5 := t1.frozen hbn a
          have e2 : (W.setCell ⟨G a, b, none⟩ (.bool true)).cell? ⟨wr.heap.size, 0, none⟩ = some (.int .i64 a) := by rw [World.cell?_setCell_other _ _ _ _ (by simp)]; exact e0
          have e3 : (W.setCell ⟨G a, b, none⟩ (.bool true)).cell? ⟨wr.heap.size, 1, none⟩ = some (.int .i64 b) := by rw [World.cell?_setCell_other _ _ _ _ (by simp)]; exact e1
          have T2 := Lib.hid t2
          clear t1 t2 tW htab
          refine wp_region_still_tail 8 (by kernel_rfl) (by kernel_rfl) ?_
          simp only [List.take_succ_cons, List.take_zero, List.drop_succ_cons, List.drop_zero]
          repeat still_step
          refine wpStill_nil ?_
          change wpList _ _ _ _ _ (World.drew _)
          go_wp2
          generalize hW2 : (W.setCell ⟨G a, b, none⟩ (.bool true)).drew = W2
          have f0 : W2.cell? ⟨wr.heap.size, 0, none⟩ = some (.int .i64 a) := by rw [← hW2]; exact e2
          have f1 : W2.cell? ⟨wr.heap.size, 1, none⟩ = some (.int .i64 b) := by rw [← hW2]; exact e3
          have f3 : W2.cell? ⟨g, b, none⟩ = some (.slice (some ⟨G b, 0, none⟩) n n) := by rw [← hW2]; exact d3
          have f4 : W2.cell? ⟨G b, a, none⟩ = some (.bool (upd (adj (l.take m)) a b true b a)) := by rw [← hW2]; exact d4
          have f5 : W2.frozen? ⟨G b, a, none⟩ = false := by rw [← hW2]; exact d5
          have b2 : Below B (w.alloc (Obj.cells #[.int .i64 (n : Int), .slice (some ⟨bb, off, none⟩) l.length c] 50)) (W2.setCell ⟨G b, a, none⟩ (.bool true)).drew := by
            rw [← hW2]
            exact (((bW.setCell (p := ⟨G a, b, none⟩) hGa.1 _).drew).setCell (p := ⟨G b, a, none⟩) hGb.1 _).drew
          have t3 : TabG (W2.setCell ⟨G b, a, none⟩ (.bool true)).drew B (.slice (some ⟨g, 0, none⟩) n c') n n G (adj (l.take m ++ [((a : Int), (b : Int))])) := by
            rw [← hW2]
            exact T2.out.of_blocks ⟨rfl, rfl, rfl, Nat.le_refl _, fun _ _ _ => rfl⟩
          have B2 := Lib.hid b2
          have T3 := Lib.hid t3
          clear hW2 d0 d1 d2 d3 d4 d5 e0 e1 e2 e3 T2 bW b2 t3
          refine wp_region_still_tail 8 (by kernel_rfl) (by kernel_rfl) ?_
          simp only [List.take_succ_cons, List.take_zero, List.drop_succ_cons, List.drop_zero]
          repeat still_step
          refine wpStill_nil ?_
          change wpList _ _ _ _ _ (World.drew _)
          go_wp2
          go_roundw
          case rel =>
            refine ⟨m + 1, by omega, by go_num, ?_, B2.out⟩
            rw [List.take_add_one, Hx.out, Option.toList_some]
            exact T3.out
          case measure => simp [intOf]; omega
        · have hml : m = l.length := by omega
          subst hml
          have hgm : ¬ ((l.length : Int) < l.length) := by omega
          go_wp2
          go_ret
          rw [List.take_length] at htab
          exact ⟨A', c', G, rfl, htab.lower (by omega), hbw⟩
end Go.Proofs.YtepoabbkalhifaaDoor
/-
  LISTS OF NUMBERS UNDER ONE SLICE, each row in a block of the call's own; 'spec.l1Own' of any list; 'spec.trGroups' as a plain list.
-/
namespace Go.Proofs.YtepoabbkalhifaaDoor
open Go.RowKit

structure LRows (w : World) (B : Nat) (v : Value) (LL : List (List Int)) (hs : List Value) : Prop where
  own : w.ownsRow B 22 1 v LL.length hs
  row : ∀ (i : Nat) (l : List Int), LL[i]? = some l → ∃ A c, hs[i]? = some (Value.slice A l.length c) ∧ w.ownsRow B 3 1 (Value.slice A l.length c) l.length (icells l)
  nil : LL = [] → v = Value.slice none 0 0
section
variable {w w' : World} {B B' : Nat} {v v' v2 : Value} {LL L2 : List (List Int)} {hs hs2 : List Value}
theorem LRows.none (w : World) (B : Nat) : LRows w B (Value.slice Option.none 0 0) [] [] := ⟨World.ownsRow_nil _ _ _ _, fun i l h => by simp at h, fun _ => rfl⟩
theorem LRows.below (h : LRows w B v LL hs) (hb : Below w.heap.size w w') : LRows w' B v LL hs :=
  ⟨own_below h.own hb (Nat.le_refl _), fun i l hi => by obtain ⟨A, c, e, o⟩ := h.row i l hi; exact ⟨A, c, e, own_below o hb (Nat.le_refl _)⟩, h.nil⟩
theorem LRows.lower (h : LRows w B v LL hs) (hB : B' ≤ B) : LRows w B' v LL hs :=
  ⟨own_lower h.own hB, fun i l hi => by obtain ⟨A, c, e, o⟩ := h.row i l hi; exact ⟨A, c, e, own_lower o hB⟩, h.nil⟩
theorem LRows.length (h : LRows w B v LL hs) : hs.length = LL.length := by have := h.own.1; omega
theorem LRows.one (h : LRows w B v LL hs) : ∀ u ∈ hs, u.oneCell' = true := by
  intro u hu
  obtain ⟨i, hi, rfl⟩ := List.getElem_of_mem hu
  have hl := h.length
  obtain ⟨A, c, e, _⟩ := h.row i LL[i] (List.getElem?_eq_getElem (by omega))
  rw [List.getElem?_eq_getElem hi] at e
  simp only [Option.some.injEq] at e
  rw [e]
  rfl
theorem blocks_apart {e e' : TypeId} {size size' n m : Nat} {xs ys : List Value} (h : w.ownsRow B e size v n xs) (h' : w.ownsRow B' e' size' v' m ys) (hne : e ≠ e') : v'.ownBlock = .none ∨ v'.ownBlock ≠ v.ownBlock := by
  rcases h'.2 with ⟨rfl, _⟩ | ⟨g, cap, cur, rfl, _, hg, _⟩
  · exact .inl rfl
  · refine .inr fun e => ?_
    rcases h.2 with ⟨rfl, _⟩ | ⟨g2, cap2, cur2, rfl, _, hg2, _⟩
    · simp [Value.ownBlock] at e
    · have : g = g2 := by simpa [Value.ownBlock] using e
      subst this
      rw [hg] at hg2
      simp only [Option.some.injEq, Obj.cells.injEq] at hg2
      exact hne hg2.2.1.symm
/-- rows appended to rows -/
theorem LRows.append (h : LRows w B v LL hs) (h2 : LRows w B v2 L2 hs2) (hown : w'.ownsRow B 22 1 v' (LL.length + L2.length) (hs ++ hs2)) (hg : w.grownBy w' v.ownBlock) (hn : L2 ≠ []) : LRows w' B v' (LL ++ L2) (hs ++ hs2) := by
  have keep : ∀ A c l, w.ownsRow B 3 1 (.slice A l.length c) l.length (icells l) → w'.ownsRow B 3 1 (.slice A l.length c) l.length (icells l) := fun A c l o => o.kept hg (blocks_apart h.own o (show (22 : TypeId) ≠ 3 by decide))
  refine ⟨by rw [List.length_append]; exact hown, fun i l hi => ?_, fun e => ?_⟩
  · have hl := h.length
    by_cases hlt : i < LL.length
    · rw [List.getElem?_append_left hlt] at hi
      obtain ⟨A, c, e, o⟩ := h.row i l hi
      exact ⟨A, c, by rw [List.getElem?_append_left (by omega)]; exact e, keep A c l o⟩
    · rw [List.getElem?_append_right (by omega)] at hi
      obtain ⟨A, c, e, o⟩ := h2.row _ l hi
      exact ⟨A, c, by rw [List.getElem?_append_right (by omega), hl]; exact e, keep A c l o⟩
  · simp at e
    exact absurd e.2 hn
end
/-- A call came back with lists of numbers. -/
def GotLL (w : World) (LL : List (List Int)) (e : Ending) (w' : World) : Prop := ∃ A c hs, e = .returned (.slice A LL.length c) ∧ LRows w' w.heap.size (.slice A LL.length c) LL hs ∧ Below w.heap.size w w'

set_option maxHeartbeats 1000000 in
set_option maxRecDepth 100000 in
theorem l1Own_all (q : List Int) (A : Option Addr) (c : Nat) (w : World) (hq : q.length ≤ 1048576) (hA : CRead w w.heap.size A (icells q)) (h0 : q = [] → A = none ∧ c = 0) :
    Calls Tryd.prog 67 #[.slice A q.length c] w fun e w' => ∃ A' c', e = .returned (.slice A' q.length c') ∧ w'.ownsRow w.heap.size 3 1 (.slice A' q.length c') q.length (icells q) ∧ Below w.heap.size w w' := by
  by_cases hz : q = []
  · obtain ⟨rfl, rfl⟩ := h0 hz
    subst hz
    obtain ⟨i0, hi, hz0, hz1, hz2⟩ := info_parts Tryd.infoInt
    have h1 : (w.alloc (.cells #[] 3)).ownsRow w.heap.size 3 1 (.slice (some ⟨w.heap.size, 0, none⟩) 0 0) 0 [] := World.ownsRow_made w #[] 0 (Nat.le_refl _) (Nat.zero_le _) rfl
    go_enter Tryd.func67, Tryd.ntmps67
    go_wp2_with (at_builtin; refine wpList_append_own_none rfl _ _ 22 rfl w.heap.size 3 i0 1 Tryd.underlying22 hi (.slice (some ⟨w.heap.size, 0, none⟩) 0 0) 0 [] rfl h1 rfl ?_)
    go_ret
    exact ⟨_, _, rfl, h1, by go_grown⟩
  · have hpos : 0 < q.length := by cases q with | nil => exact absurd rfl hz | cons x q => simp
    exact l1Own_any q A c w hq hpos hA

/-! ## The model's candidates -/
def fromQ (q : List Int) : Nat := match q.getLast? with | none => 0 | some x => x.toNat + 1
def candR (t : Nat → Nat → Bool) (n : Nat) (q : List Int) (a : Nat) : List Nat := (List.range' a (n - a)).filter fun b => q.all fun y => t b y.toNat
theorem candR_end (t : Nat → Nat → Bool) (n : Nat) (q : List Int) {a : Nat} (h : n ≤ a) : candR t n q a = [] := by unfold candR; rw [Nat.sub_eq_zero_of_le h]; rfl
theorem candR_no {t : Nat → Nat → Bool} {n : Nat} {q : List Int} {a : Nat} (h : a < n) (hk : (q.all fun y => t a y.toNat) = false) : candR t n q a = candR t n q (a + 1) := by
  unfold candR
  rw [show n - a = (n - (a + 1)) + 1 from by omega, List.range'_succ, List.filter_cons_of_neg (by simp [hk])]
theorem candR_yes {t : Nat → Nat → Bool} {n : Nat} {q : List Int} {a : Nat} (h : a < n) (hk : (q.all fun y => t a y.toNat) = true) : candR t n q a = a :: candR t n q (a + 1) := by
  unfold candR
  rw [show n - a = (n - (a + 1)) + 1 from by omega, List.range'_succ, List.filter_cons_of_pos (by simpa using hk)]
theorem candR_tied {t : Nat → Nat → Bool} (hs : ∀ i j, t i j = t j i) (n : Nat) (q : List Int) (a : Nat) : (candR t n q (a + 1)).filter (t a) = candR t n (q ++ [(a : Int)]) (fromQ (q ++ [(a : Int)])) := by
  unfold candR fromQ
  simp only [List.getLast?_append, List.getLast?_singleton, Option.some_or, Int.toNat_natCast]
  rw [List.filter_filter]
  refine List.filter_congr fun b _ => ?_
  rw [List.all_append]
  simp [hs a b, Bool.and_comm]
end Go.Proofs.YtepoabbkalhifaaDoor
/-
  LISTS OF LISTS OF NUMBERS AS RESULTS: rows of the call's own, apart from each other; what the laws' marking and counting need of them.
-/
namespace Go.Proofs.YtepoabbkalhifaaDoor
open Go.RowKit

/-- the rows of a list of lists, each in a block of its own -/
def RowsL (w : World) (B : Nat) (v : Value) (LL : List (List Int)) (R : Nat → Option Addr) (C : Nat → Nat) : Prop :=
  RowsG w B v LL.length R C (fun i => (LL.getD i []).length) (fun i => LL.getD i [])
section
variable {w w' : World} {B n : Nat} {v v' : Value} {R : Nat → Option Addr} {C N : Nat → Nat} {F F' : Nat → List Int} {LL : List (List Int)}
theorem RowsG.below (h : RowsG w B v n R C N F) (hb : Below w.heap.size w w') : RowsG w' B v n R C N F :=
  ⟨own_below h.own hb (Nat.le_refl _), fun i hi => ⟨(h.row i hi).1, own_below (h.row i hi).2 hb (Nat.le_refl _)⟩, h.apart⟩
theorem RowsG.lower {B' : Nat} (h : RowsG w B v n R C N F) (hB : B' ≤ B) : RowsG w B' v n R C N F :=
  ⟨own_lower h.own hB, fun i hi => ⟨(h.row i hi).1, own_lower (h.row i hi).2 hB⟩, h.apart⟩
theorem own_from {e : TypeId} {s m : Nat} {u : Value} {xs : List Value} (h : w.ownsRow B e s u m xs) {x : Value} {lo hi : Nat} (hl : Lies x lo hi) (hB : hi ≤ B) : u.ownBlock = none ∨ u.ownBlock ≠ x.ownBlock := by
  cases e1 : u.ownBlock with
  | none => exact .inl rfl
  | some k =>
    right
    intro e2
    have h1 := (h.lt k e1).1
    have h2 := (hl k e2.symm).2
    omega
theorem RowsG.keptG (h : RowsG w B v n R C N F) {x : Value} {lo hi : Nat} (hg : w.grownBy w' x.ownBlock) (hl : Lies x lo hi) (hB : hi ≤ B) : RowsG w' B v n R C N F :=
  ⟨h.own.kept hg (own_from h.own hl hB), fun i hi => ⟨(h.row i hi).1, (h.row i hi).2.kept hg (own_from (h.row i hi).2 hl hB)⟩, h.apart⟩
theorem RowsL.none (w : World) (B : Nat) : RowsL w B (Value.slice Option.none 0 0) [] (fun _ => Option.none) (fun _ => 0) :=
  ⟨World.ownsRow_nil _ _ _ _, fun _ hi => absurd hi (Nat.not_lt_zero _), fun _ _ hi => absurd hi (Nat.not_lt_zero _)⟩
theorem getD_of {i : Nat} {l : List Int} (h : LL[i]? = some l) : LL.getD i [] = l := by rw [List.getD_eq_getElem?_getD, h]; rfl
theorem RowsL.below (h : RowsL w B v LL R C) (hb : Below w.heap.size w w') : RowsL w' B v LL R C := RowsG.below h hb
theorem RowsL.lower {B' : Nat} (h : RowsL w B v LL R C) (hB : B' ≤ B) : RowsL w B' v LL R C := RowsG.lower h hB
theorem RowsL.keptG (h : RowsL w B v LL R C) {x : Value} {lo hi : Nat} (hg : w.grownBy w' x.ownBlock) (hl : Lies x lo hi) (hB : hi ≤ B) : RowsL w' B v LL R C := RowsG.keptG h hg hl hB
theorem SRead.more {A : Option Addr} {B' : Nat} (h : SRead w B A LL) (hB : B ≤ B') : SRead w B' A LL := by
  intro i l hi
  obtain ⟨b, off, A', c', e, hlt, hc, hr⟩ := h i l hi
  exact ⟨b, off, A', c', e, by omega, hc, hr.more hB⟩
theorem RowsL.read {A : Option Addr} {c : Nat} (h : RowsL w B (.slice A LL.length c) LL R C) : SRead w w.heap.size A LL := RowsG.read h rfl fun _ _ hi => getD_of hi
/-- a row of its own put behind them, and its header -/
theorem RowsL.push (h : RowsL w B v LL R C) {l : List Int} {A : Option Addr} {c : Nat} (hr : w.ownsRow B 3 1 (.slice A l.length c) l.length (icells l))
    (hap : ∀ i, i < LL.length → (Value.slice (R i) (LL.getD i []).length (C i)).ownBlock = Option.none ∨ (Value.slice (R i) (LL.getD i []).length (C i)).ownBlock ≠ (Value.slice A l.length c).ownBlock)
    (hg : w.grownBy w' v.ownBlock) (ho : w'.ownsRow B 22 1 v' (LL.length + 1) (((List.range LL.length).map fun i => Value.slice (R i) (LL.getD i []).length (C i)) ++ [.slice A l.length c])) :
    RowsL w' B v' (LL ++ [l]) (upN R LL.length A) (upN C LL.length c) := by
  have hne : ∀ i, i < LL.length → (LL ++ [l]).getD i [] = LL.getD i [] := fun i hi => by
    rw [List.getD_eq_getElem?_getD, List.getD_eq_getElem?_getD, List.getElem?_append_left hi]
  have heq : (LL ++ [l]).getD LL.length [] = l := by rw [List.getD_eq_getElem?_getD]; simp
  unfold RowsL
  rw [List.length_append, List.length_singleton]
  refine ⟨?_, fun i hi => ?_, fun i j hi hj hij => ?_⟩
  · rw [List.range_succ, List.map_append, List.map_singleton, upN_self, upN_self, heq]
    rw [List.map_congr_left (g := fun i => Value.slice (R i) (LL.getD i []).length (C i)) fun i hi => by
      have := List.mem_range.1 hi
      rw [upN_ne _ _ (by omega), upN_ne _ _ (by omega), hne i this]]
    exact ho
  · by_cases e : i = LL.length
    · subst e
      simp only [upN_self, heq]
      exact ⟨trivial, hr.kept hg (own_apart hr h.own (by decide))⟩
    · have hin : i < LL.length := by omega
      simp only [upN_ne _ _ e, hne i hin]
      exact ⟨trivial, (h.row i hin).2.kept hg (own_apart (h.row i hin).2 h.own (by decide))⟩
  · by_cases e : i = LL.length
    · subst e
      have hjn : j < LL.length := by omega
      simp only [upN_self, upN_ne _ _ (show j ≠ LL.length by omega), heq, hne j hjn]
      cases hq : (Value.slice A l.length c).ownBlock with
      | none => exact .inl rfl
      | some b =>
        right
        intro e2
        rcases hap j hjn with h3 | h3
        · rw [h3] at e2; cases e2
        · rw [hq] at h3; exact h3 e2.symm
    · have hin : i < LL.length := by omega
      by_cases e2 : j = LL.length
      · subst e2
        simp only [upN_self, upN_ne _ _ e, heq, hne i hin]
        exact hap i hin
      · have hjn : j < LL.length := by omega
        simp only [upN_ne _ _ e, upN_ne _ _ e2, hne i hin, hne j hjn]
        exact h.apart i j hin hjn hij
/-- a row made behind a world is apart from the rows of that world -/
theorem RowsL.fresh (h : RowsL w B v LL R C) {x : Value} {lo hi : Nat} (hx : Lies x lo hi) (hlo : w.heap.size ≤ lo) : ∀ i, i < LL.length → (Value.slice (R i) (LL.getD i []).length (C i)).ownBlock = Option.none ∨ (Value.slice (R i) (LL.getD i []).length (C i)).ownBlock ≠ x.ownBlock := by
  intro i hi
  cases e1 : (Value.slice (R i) (LL.getD i []).length (C i)).ownBlock with
  | none => exact .inl rfl
  | some k =>
    right
    intro e2
    have h1 := ((h.row i hi).2.lt k e1).2
    have h2 := (hx k e2.symm).1
    omega
theorem LRows.read {A : Option Addr} {c : Nat} {hs : List Value} (h : LRows w B (.slice A LL.length c) LL hs) : SRead w w.heap.size A LL := by
  intro i l hi
  have hin : i < LL.length := (List.getElem?_eq_some_iff.1 hi).1
  obtain ⟨g, rfl⟩ := own_form h.own (by omega)
  obtain ⟨A', c', e, o⟩ := h.row i l hi
  refine ⟨g, 0, A', c', rfl, (own_lt h.own).2, ?_, CRead.of_own o⟩
  rw [Nat.zero_add, h.own.cellAt i (by omega)]
  exact e
end
/-- how many numbers lie in all rows -/
def sumL (LL : List (List Int)) : Nat := (LL.map List.length).sum
theorem sumL_row {LL : List (List Int)} {l : List Int} (h : l ∈ LL) : l.length ≤ sumL LL := by
  unfold sumL
  induction LL with
  | nil => cases h
  | cons x LL ih =>
    simp only [List.map_cons, List.sum_cons]
    rcases List.mem_cons.1 h with rfl | h
    · omega
    · have := ih h; omega
theorem sumL_le {LL : List (List Int)} {m : Nat} (h : ∀ l ∈ LL, l.length ≤ m) : sumL LL ≤ LL.length * m := by
  unfold sumL
  induction LL with
  | nil => simp
  | cons x LL ih =>
    simp only [List.map_cons, List.sum_cons, List.length_cons]
    have h1 := h x List.mem_cons_self
    have h2 := ih fun l hl => h l (List.mem_cons_of_mem _ hl)
    rw [Nat.add_mul]
    omega
theorem lens_at (LL : List (List Int)) (i : Nat) : (LL.map List.length).getD i 0 = (LL.getD i []).length := by
  rw [List.getD_eq_getElem?_getD, List.getD_eq_getElem?_getD, List.getElem?_map]
  cases LL[i]? <;> rfl
/-- the rows are marked, counted on from k0 -/
def MarkedL (w : World) (B : Nat) (v : Value) (LL : List (List Int)) (k0 : Int) (R : Nat → Option Addr) (C : Nat → Nat) : Prop :=
  RowsG w B v LL.length R C (fun i => (LL.getD i []).length) (fun i => imarks (k0 + lens (LL.map List.length) i) (LL.getD i []).length)
theorem MarkedL.below {w w' : World} {B : Nat} {v : Value} {LL : List (List Int)} {k0 : Int} {R : Nat → Option Addr} {C : Nat → Nat} (h : MarkedL w B v LL k0 R C) (hb : Below w.heap.size w w') : MarkedL w' B v LL k0 R C := RowsG.below h hb
/-- A call came back with lists of numbers, and whether it did. -/
def GotRowsOk (w : World) (LL : List (List Int)) (ok : Bool) (e : Ending) (w' : World) : Prop :=
  ∃ A c R C, e = .returned (.tuple #[.slice A LL.length c, .bool ok]) ∧ RowsL w' w.heap.size (.slice A LL.length c) LL R C ∧ Below w.heap.size w w'
/-- the same of the model's: that they can be read is enough -/
def ReadRowsOk (w : World) (LL : List (List Int)) (ok : Bool) (e : Ending) (w' : World) : Prop :=
  ∃ A c, e = .returned (.tuple #[.slice A LL.length c, .bool ok]) ∧ SRead w' w'.heap.size A LL ∧ Below w.heap.size w w'
theorem SRead.nil (w : World) (B : Nat) (A : Option Addr) : SRead w B A [] := fun i l h => by simp at h
end Go.Proofs.YtepoabbkalhifaaDoor
/-
  HOW MANY LISTS OF TIED PEOPLE HAVE A PERSON. Nothing here speaks of the program.
-/
namespace Go.Proofs.YtepoabbkalhifaaDoor
open Go.RowKit

theorem listsC_told (t : Nat → Nat → Bool) : ∀ (k : Nat) (told : List Int) (cs : List Nat), listsC t k told cs = (listsC t k [] cs).map (told ++ ·) := by
  intro k told cs
  induction h : k + cs.length using Nat.strongRecOn generalizing k told cs with
  | _ n ih =>
    match k, cs with
    | 0, cs => rw [listsC_zero, listsC_zero]; simp
    | k + 1, [] => rw [listsC_nil, listsC_nil]; rfl
    | k + 1, a :: cs =>
      simp only [List.length_cons] at h
      have h0 : (cs.filter (t a)).length ≤ cs.length := List.length_filter_le _ _
      rw [listsC_cons, listsC_cons, List.map_append, ih (k + (cs.filter (t a)).length) (by omega) k (told ++ [(a : Int)]) _ rfl, ih (k + 1 + cs.length) (by omega) (k + 1) told cs rfl,
        ih (k + (cs.filter (t a)).length) (by omega) k ([] ++ [(a : Int)]) _ rfl, List.map_map]
      congr 1
      refine List.map_congr_left fun x _ => ?_
      simp
theorem listsC_len (t : Nat → Nat → Bool) (k : Nat) (told : List Int) (cs : List Nat) : (listsC t k told cs).length = (listsC t k [] cs).length := by rw [listsC_told, List.length_map]
theorem listsC_size (t : Nat → Nat → Bool) : ∀ (k : Nat) (told : List Int) (cs : List Nat), ∀ l ∈ listsC t k told cs, l.length = told.length + k := by
  intro k told cs
  induction h : k + cs.length using Nat.strongRecOn generalizing k told cs with
  | _ n ih =>
    match k, cs with
    | 0, cs => rw [listsC_zero]; simp
    | k + 1, [] => rw [listsC_nil]; simp
    | k + 1, a :: cs =>
      simp only [List.length_cons] at h
      have h0 : (cs.filter (t a)).length ≤ cs.length := List.length_filter_le _ _
      rw [listsC_cons]
      intro l hl
      rcases List.mem_append.1 hl with hl | hl
      · have := ih (k + (cs.filter (t a)).length) (by omega) k _ _ rfl l hl
        simp at this
        omega
      · have := ih (k + 1 + cs.length) (by omega) (k + 1) _ _ rfl l hl
        omega
/-- whom a list has -/
theorem listsC_mem (t : Nat → Nat → Bool) : ∀ (k : Nat) (told : List Int) (cs : List Nat), ∀ l ∈ listsC t k told cs, ∀ x ∈ l, x ∈ told ∨ ∃ b ∈ cs, x = ((b : Nat) : Int) := by
  intro k told cs
  induction h : k + cs.length using Nat.strongRecOn generalizing k told cs with
  | _ n ih =>
    match k, cs with
    | 0, cs => rw [listsC_zero]; intro l hl x hx; simp at hl; subst hl; exact .inl hx
    | k + 1, [] => rw [listsC_nil]; simp
    | k + 1, a :: cs =>
      simp only [List.length_cons] at h
      have h0 : (cs.filter (t a)).length ≤ cs.length := List.length_filter_le _ _
      rw [listsC_cons]
      intro l hl x hx
      rcases List.mem_append.1 hl with hl | hl
      · rcases ih (k + (cs.filter (t a)).length) (by omega) k _ _ rfl l hl x hx with h1 | ⟨b, hb, h1⟩
        · rcases List.mem_append.1 h1 with h1 | h1
          · exact .inl h1
          · simp at h1
            exact .inr ⟨a, by simp, h1⟩
        · exact .inr ⟨b, by simp [(List.mem_filter.1 hb).1], h1⟩
      · rcases ih (k + 1 + cs.length) (by omega) (k + 1) _ _ rfl l hl x hx with h1 | ⟨b, hb, h1⟩
        · exact .inl h1
        · exact .inr ⟨b, by simp [hb], h1⟩
/-- how many lists have a person -/
def hasN (L : List (List Int)) (a : Nat) : Nat := L.countP (hasI · a)
theorem hasN_append (L M : List (List Int)) (a : Nat) : hasN (L ++ M) a = hasN L a + hasN M a := List.countP_append
theorem hasN_none {t : Nat → Nat → Bool} {k : Nat} {told : List Int} {cs : List Nat} {a : Nat} (h0 : (a : Int) ∉ told) (h : a ∉ cs) : hasN (listsC t k told cs) a = 0 := by
  refine List.countP_eq_zero.2 fun l hl hc => ?_
  rcases listsC_mem t k told cs l hl _ (hasI_mem.1 hc) with h1 | ⟨b, hb, h1⟩
  · exact h0 h1
  · have : a = b := by omega
    exact h (this ▸ hb)
theorem hasN_all {t : Nat → Nat → Bool} {k : Nat} {told : List Int} {cs : List Nat} {a : Nat} (h0 : (a : Int) ∈ told) : hasN (listsC t k told cs) a = (listsC t k told cs).length := by
  refine List.countP_eq_length.2 fun l hl => ?_
  rw [listsC_told] at hl
  obtain ⟨m, _, rfl⟩ := List.mem_map.1 hl
  exact hasI_mem.2 (List.mem_append_left _ h0)
theorem hasN_listsC {t : Nat → Nat → Bool} (hsym : ∀ i j, t i j = t j i) {a : Nat} (hirr : t a a = false) : ∀ (k : Nat) (told : List Int) (cs : List Nat),
    cs.Pairwise (· < ·) → a ∈ cs → (a : Int) ∉ told → hasN (listsC t (k + 1) told cs) a = (listsC t k [] (cs.filter (t a))).length := by
  intro k told cs
  induction h : k + cs.length using Nat.strongRecOn generalizing k told cs with
  | _ n ih =>
    intro hs ha h0
    match cs with
    | [] => simp at ha
    | x :: cs =>
      simp only [List.length_cons] at h
      obtain ⟨hx, hs'⟩ := List.pairwise_cons.1 hs
      have hl0 : (cs.filter (t x)).length ≤ cs.length := List.length_filter_le _ _
      rw [listsC_cons, hasN_append]
      by_cases e : x = a
      · subst e
        have hn : x ∉ cs := fun hc => by have := hx x hc; omega
        rw [hasN_all (by simp), hasN_none h0 hn, listsC_len, List.filter_cons_of_neg (by simp [hirr])]
        omega
      · have ha' : a ∈ cs := by rcases List.mem_cons.1 ha with h | h; exact absurd h.symm e; exact h
        have h1 : (a : Int) ∉ told ++ [(x : Int)] := by simp [h0]; omega
        rw [ih (k + cs.length) (by omega) k told cs rfl hs' ha' h0]
        match k with
        | 0 =>
          rw [listsC_zero, listsC_zero, listsC_zero]
          have : hasN [told ++ [(x : Int)]] a = 0 := List.countP_eq_zero.2 fun l hl hc => by
            simp only [List.mem_singleton] at hl
            subst hl
            exact h1 (hasI_mem.1 hc)
          rw [this]
          simp
        | k + 1 =>
          cases hxa : t x a with
          | true =>
            have hax : t a x = true := by rw [hsym, hxa]
            rw [ih (k + (cs.filter (t x)).length) (by omega) k _ _ rfl (hs'.filter _) (List.mem_filter.2 ⟨ha', hxa⟩) h1, List.filter_cons_of_pos hax, listsC_cons, List.length_append, listsC_len t k ([] ++ [(x : Int)])]
            congr 2
            rw [List.filter_filter, List.filter_filter]
            congr 1
            exact List.filter_congr fun b _ => Bool.and_comm _ _
          | false =>
            have hax : ¬ t a x = true := by rw [hsym, hxa]; simp
            rw [hasN_none h1 (fun hc => by have := (List.mem_filter.1 hc).2; simp [hxa] at this), List.filter_cons_of_neg hax]
            omega
end Go.Proofs.YtepoabbkalhifaaDoor
/-
  WAYS TO CHOOSE: the program's 'waysToChoose' and the model's 'trChoose', by their contracts; 'GroupBound', 'LeastMustHave', 'LeastOneKind'.
-/
namespace Go.Proofs.YtepoabbkalhifaaDoor
open Go.RowKit

/-- the product of the first steps, as the program takes them -/
def waysI (n : Int) : Nat → Int
  | 0 => 1
  | i + 1 => (waysI n i * (n - i)).tdiv (i + 1)
/-- as the model takes them -/
def stepsI (n k : Int) : Nat → Int
  | 0 => 1
  | i + 1 => (stepsI n k i * (n - k + (i + 1))).tdiv (i + 1)
def InWays (n : Int) (k : Nat) : Prop := (0 ≤ n ∧ n ≤ 12 ∧ k ≤ 12) ∨ (0 ≤ n ∧ n ≤ 132 ∧ k ≤ 2)
theorem waysI_all : (∀ n : Fin 13, ∀ k : Fin 13, 0 ≤ waysI (n.val : Int) k.val ∧ waysI (n.val : Int) k.val ≤ 10000) ∧ (∀ n : Fin 133, ∀ k : Fin 3, 0 ≤ waysI (n.val : Int) k.val ∧ waysI (n.val : Int) k.val ≤ 10000) := by
  constructor <;> decide +kernel
theorem waysI_bound {n : Int} {k : Nat} (h : InWays n k) : 0 ≤ waysI n k ∧ waysI n k ≤ 10000 := by
  rcases h with ⟨h0, h1, h2⟩ | ⟨h0, h1, h2⟩
  · have := waysI_all.1 ⟨n.toNat, by omega⟩ ⟨k, by omega⟩
    rwa [show ((n.toNat : Nat) : Int) = n from by omega] at this
  · have := waysI_all.2 ⟨n.toNat, by omega⟩ ⟨k, by omega⟩
    rwa [show ((n.toNat : Nat) : Int) = n from by omega] at this
theorem InWays.less {n : Int} {k i : Nat} (h : InWays n k) (hi : i ≤ k) : InWays n i := by unfold InWays at *; omega
theorem stepsI_all : (∀ n : Fin 13, ∀ k : Fin 13, k.val ≤ n.val → ∀ i : Fin 13, i.val ≤ k.val → 0 ≤ stepsI (n.val : Int) (k.val : Int) i.val ∧ stepsI (n.val : Int) (k.val : Int) i.val ≤ 10000) ∧ (∀ n : Fin 133, ∀ k : Fin 3, k.val ≤ n.val → ∀ i : Fin 3, i.val ≤ k.val → 0 ≤ stepsI (n.val : Int) (k.val : Int) i.val ∧ stepsI (n.val : Int) (k.val : Int) i.val ≤ 10000) := by
  constructor <;> decide +kernel
theorem stepsI_bound {n : Int} {k i : Nat} (h : InWays n k) (hk : (k : Int) ≤ n) (hi : i ≤ k) : 0 ≤ stepsI n k i ∧ stepsI n k i ≤ 10000 := by
  rcases h with ⟨h0, h1, h2⟩ | ⟨h0, h1, h2⟩
  · have := stepsI_all.1 ⟨n.toNat, by omega⟩ ⟨k, by omega⟩ (by show k ≤ n.toNat; omega) ⟨i, by omega⟩ hi
    rwa [show ((n.toNat : Nat) : Int) = n from by omega] at this
  · have := stepsI_all.2 ⟨n.toNat, by omega⟩ ⟨k, by omega⟩ (by show k ≤ n.toNat; omega) ⟨i, by omega⟩ hi
    rwa [show ((n.toNat : Nat) : Int) = n from by omega] at this
theorem ways_steps_all : (∀ n : Fin 13, ∀ k : Fin 13, waysI (n.val : Int) k.val = if k.val > n.val then 0 else stepsI (n.val : Int) (k.val : Int) k.val) ∧ (∀ n : Fin 133, ∀ k : Fin 3, waysI (n.val : Int) k.val = if k.val > n.val then 0 else stepsI (n.val : Int) (k.val : Int) k.val) := by
  constructor <;> decide +kernel
theorem ways_steps {n : Int} {k : Nat} (h : InWays n k) : waysI n k = if (k : Int) > n then 0 else stepsI n k k := by
  rcases h with ⟨h0, h1, h2⟩ | ⟨h0, h1, h2⟩
  · have := ways_steps_all.1 ⟨n.toNat, by omega⟩ ⟨k, by omega⟩
    rw [show ((n.toNat : Nat) : Int) = n from by omega] at this
    rw [this]
    by_cases hk : k > n.toNat
    · rw [if_pos hk, if_pos (by omega)]
    · rw [if_neg hk, if_neg (by omega)]
  · have := ways_steps_all.2 ⟨n.toNat, by omega⟩ ⟨k, by omega⟩
    rw [show ((n.toNat : Nat) : Int) = n from by omega] at this
    rw [this]
    by_cases hk : k > n.toNat
    · rw [if_pos hk, if_pos (by omega)]
    · rw [if_neg hk, if_neg (by omega)]
/-- what a step's product is within -/
theorem mul_within {a b : Int} (ha : 0 ≤ a ∧ a ≤ 10000) (hb : -200 ≤ b ∧ b ≤ 200) : -2000000 ≤ a * b ∧ a * b ≤ 2000000 := by
  constructor
  · have h1 : a * (-200) ≤ a * b := Int.mul_le_mul_of_nonneg_left hb.1 ha.1
    omega
  · have h1 : a * b ≤ a * 200 := Int.mul_le_mul_of_nonneg_left hb.2 ha.1
    omega
theorem wrap_small {x : Int} (h : -9223372036854775808 ≤ x ∧ x ≤ 9223372036854775807) : IntKind.i64.wrap x = x := by simp [IntKind.wrap, IntKind.bits, IntKind.signed]; omega

set_option maxHeartbeats 1000000 in
set_option maxRecDepth 100000 in
theorem waysToChoose_any (n : Int) (k : Nat) (w : World) (h : InWays n k) :
    Calls Tryd.prog 70 #[.int .i64 n, .int .i64 k] w fun e w' => e = .returned (.int .i64 (waysI n k)) ∧ w = w' := by
  have hk12 : k ≤ 12 := by unfold InWays at h; omega
  have hn0 : 0 ≤ n ∧ n ≤ 132 := by unfold InWays at h; omega
  obtain ⟨hn0, hn1⟩ := hn0
  have H := Lib.hid h
  clear h
  go_enter Tryd.func70, Tryd.ntmps70
  go_wp2
  go_loop [5, 8] (fun v i => ∃ (j : Nat) (u : Int), j ≤ k ∧ i = .int .i64 j ∧ v = .int .i64 u ∧ u = waysI n j) (fun _ i => k - (intOf i).toNat)
  case atStart => exact ⟨0, 1, Nat.zero_le _, rfl, rfl, rfl⟩
  case round =>
    obtain ⟨j, u, hj, rfl, rfl, hu⟩ := hrel
    have hub := waysI_bound (H.out.less hj)
    rw [← hu] at hub
    obtain ⟨hu0, hu1⟩ := hub
    have Hu := Lib.hid hu
    by_cases hlt : j < k
    · have hnx := waysI_bound (H.out.less hlt)
      have e : waysI n (j + 1) = (u * (n - j)).tdiv ((j : Int) + 1) := by rw [hu]; rfl
      rw [e] at hnx
      have He := Lib.hid e
      obtain ⟨hm0, hm1⟩ := mul_within (a := u) (b := n - j) ⟨hu0, hu1⟩ (by omega)
      have hw1 : IntKind.i64.wrap (u * (n - j)) = u * (n - j) := wrap_small (by omega)
      have hw2 : IntKind.i64.wrap ((u * (n - j)).tdiv ((j : Int) + 1)) = (u * (n - j)).tdiv ((j : Int) + 1) := wrap_small (by omega)
      have hji : (j : Int) < (k : Int) := by omega
      have hj1 : ¬ ((j : Int) + 1 = 0) := by omega
      clear hu e hnx
      go_wp2
      go_round
      case rel => exact ⟨j + 1, _, by omega, by go_num, rfl, He.out.symm⟩
      case measure => simp [intOf]; omega
    · have hjk : j = k := by omega
      have hge : ¬ ((j : Int) < (k : Int)) := by omega
      clear hu
      go_wp2
      go_ret
      exact ⟨by rw [Hu.out, hjk]; rfl, rfl⟩

end Go.Proofs.YtepoabbkalhifaaDoor
/-
  TRIPLES COUNTED, as plain lists. Nothing here speaks of the program.
-/
namespace Go.Proofs.YtepoabbkalhifaaDoor
open Go.RowKit

def cnt2 (Q : Nat → Nat → Bool) : List Nat → Nat
  | [] => 0
  | b :: cs => cs.countP (Q b) + cnt2 Q cs
def cnt3 (P : Nat → Nat → Nat → Bool) : List Nat → Nat
  | [] => 0
  | a :: cs => cnt2 (P a) cs + cnt3 P cs
/-- how many of three pairs are tied -/
def tri (t : Nat → Nat → Bool) (a b c : Nat) : Nat := (if t a b then 1 else 0) + (if t a c then 1 else 0) + (if t b c then 1 else 0)
def triB (t : Nat → Nat → Bool) (i a b c : Nat) : Bool := decide (tri t a b c = i)
theorem lists1 (t : Nat → Nat → Bool) (told : List Int) (cs : List Nat) : (listsC t 1 told cs).length = cs.length := by
  induction cs with
  | nil => rw [listsC_nil]; rfl
  | cons a cs ih => rw [listsC_cons, listsC_zero, List.length_append, ih]; simp; omega
theorem lists2 (t : Nat → Nat → Bool) (told : List Int) (cs : List Nat) : (listsC t 2 told cs).length = cnt2 t cs := by
  induction cs with
  | nil => rw [listsC_nil]; rfl
  | cons a cs ih => rw [listsC_cons, List.length_append, lists1, ih, cnt2, List.countP_eq_length_filter]
theorem cnt2_filter (p : Nat → Bool) (Q : Nat → Nat → Bool) (cs : List Nat) : cnt2 Q (cs.filter p) = cnt2 (fun b c => p b && p c && Q b c) cs := by
  induction cs with
  | nil => rfl
  | cons b cs ih =>
    rw [cnt2]
    cases hp : p b with
    | true =>
      rw [List.filter_cons_of_pos hp, cnt2, ih, List.countP_filter]
      congr 1
      exact List.countP_congr fun c _ => by simp [Bool.and_comm]
    | false =>
      rw [List.filter_cons_of_neg (by simp [hp]), ih]
      have : cs.countP (fun c => p b && p c && Q b c) = 0 := List.countP_eq_zero.2 fun c _ => by simp [hp]
      simp only [hp] at this ⊢
      omega
theorem lists3 (t : Nat → Nat → Bool) (told : List Int) (cs : List Nat) : (listsC t 3 told cs).length = cnt3 (triB t 3) cs := by
  induction cs with
  | nil => rw [listsC_nil]; rfl
  | cons a cs ih =>
    rw [listsC_cons, List.length_append, lists2, ih, cnt3, cnt2_filter]
    congr 1
    congr 1
    funext b c
    unfold triB tri
    cases t a b <;> cases t a c <;> cases t b c <;> rfl
theorem cnt2_sum (Q0 Q1 Q2 Q3 : Nat → Nat → Bool) (h : ∀ b c, (if Q0 b c then 1 else 0) + (if Q1 b c then 1 else 0) + (if Q2 b c then 1 else 0) + (if Q3 b c then 1 else 0) = 1) (cs : List Nat) :
    cnt2 Q0 cs + cnt2 Q1 cs + cnt2 Q2 cs + cnt2 Q3 cs = cnt2 (fun _ _ => true) cs := by
  induction cs with
  | nil => rfl
  | cons b cs ih =>
    simp only [cnt2]
    have : cs.countP (Q0 b) + cs.countP (Q1 b) + cs.countP (Q2 b) + cs.countP (Q3 b) = cs.countP (fun _ => true) := by
      clear ih
      induction cs with
      | nil => rfl
      | cons c cs ih2 =>
        simp only [List.countP_cons]
        have := h b c
        simp only [if_true]
        omega
    omega
theorem cnt3_sum (t : Nat → Nat → Bool) (cs : List Nat) : cnt3 (triB t 0) cs + cnt3 (triB t 1) cs + cnt3 (triB t 2) cs + cnt3 (triB t 3) cs = cnt3 (fun _ _ _ => true) cs := by
  induction cs with
  | nil => rfl
  | cons a cs ih =>
    simp only [cnt3]
    have := cnt2_sum (triB t 0 a) (triB t 1 a) (triB t 2 a) (triB t 3 a) (fun b c => by
      unfold triB tri
      cases t a b <;> cases t a c <;> cases t b c <;> rfl) cs
    omega
theorem cnt3_ways : ∀ n : Fin 13, ((cnt3 (fun _ _ _ => true) (List.range n.val) : Nat) : Int) = waysI (n.val : Int) 3 := by decide
end Go.Proofs.YtepoabbkalhifaaDoor
/-
  A RANGE OVER AN ITERATOR THAT WRITES CELLS OF ITS OWN BETWEEN TWO ROUNDS (and whose rounds read them): the contract of such an iterator ('Seq'), and the law of the statement. Nothing here speaks of the program.
-/
namespace Go.Proofs.YtepoabbkalhifaaDoor
open Go.RowKit

/-- What lay is as it lay, but for blocks of S. -/
structure Apart (S : Nat → Prop) (A C : World) : Prop where
  below : Below 0 A C
  same : ∀ j, j < A.heap.size → ¬ S j → C.heap[j]? = A.heap[j]?
/-- The blocks of S are as they were. -/
structure Stays (S : Nat → Prop) (A C : World) : Prop where
  below : Below 0 A C
  same : ∀ j, j < A.heap.size → S j → C.heap[j]? = A.heap[j]?
theorem Apart.refl (S : Nat → Prop) (A : World) : Apart S A A := ⟨Below.refl _ _, fun _ _ _ => rfl⟩
theorem Apart.mono {S S' : Nat → Prop} {A C : World} (h : Apart S A C) (hS : ∀ j, S j → S' j) : Apart S' A C := ⟨h.below, fun j hj hn => h.same j hj fun hs => hn (hS j hs)⟩
theorem Stays.mono {S S' : Nat → Prop} {A C : World} (h : Stays S A C) (hS : ∀ j, S' j → S j) : Stays S' A C := ⟨h.below, fun j hj hs => h.same j hj (hS j hs)⟩
theorem Stays.refl (S : Nat → Prop) (A : World) : Stays S A A := ⟨Below.refl _ _, fun _ _ _ => rfl⟩
theorem Stays.trans {S : Nat → Prop} {A C D : World} (h : Stays S A C) (k : Stays S C D) : Stays S A D :=
  ⟨h.below.trans k.below, fun j hj hs => (k.same j (Nat.lt_of_lt_of_le hj h.below.size) hs).trans (h.same j hj hs)⟩
theorem Apart.trans {S S' : Nat → Prop} {A C D : World} (h : Apart S A C) (k : Apart S' C D) (hS : ∀ j, S' j → S j ∨ A.heap.size ≤ j) : Apart S A D :=
  ⟨h.below.trans k.below, fun j hj hn => (k.same j (Nat.lt_of_lt_of_le hj h.below.size) (fun hs => by rcases hS j hs with h' | h'; exact hn h'; omega)).trans (h.same j hj hn)⟩
theorem Apart.putObj (W : World) (l : Nat) (o : Obj) : Apart (fun j => j = l) W (W.putObj l o) :=
  ⟨(Below.refl 0 W).grown (grownBy_putObj' W l o) (Nat.zero_le _) (fun k _ => Nat.zero_le k), fun _ _ hn => World.putObj_heap_other hn⟩
theorem Apart.alloc (S : Nat → Prop) (W : World) (o : Obj) : Apart S W (W.alloc o) := ⟨(Below.refl 0 W).alloc (Nat.zero_le _) o, fun j hj _ => Below.heap_alloc W o j hj⟩
theorem Stays.alloc (S : Nat → Prop) (W : World) (o : Obj) : Stays S W (W.alloc o) := ⟨(Below.refl 0 W).alloc (Nat.zero_le _) o, fun j hj _ => Below.heap_alloc W o j hj⟩
theorem Stays.putObj {S : Nat → Prop} {l : Nat} (hl : ¬ S l) (W : World) (o : Obj) : Stays S W (W.putObj l o) :=
  ⟨(Below.refl 0 W).grown (grownBy_putObj' W l o) (Nat.zero_le _) (fun k _ => Nat.zero_le k), fun _ _ hs => World.putObj_heap_other fun e => hl (e ▸ hs)⟩
theorem Stays.setCell {S : Nat → Prop} {p : Addr} (hl : ¬ S p.block) (W : World) (u : Value) : Stays S W (W.setCell p u) :=
  ⟨(Below.refl 0 W).setCell (Nat.zero_le _) u, fun j _ hs => Below.heap_setCell W p u j fun e => hl (e ▸ hs)⟩
theorem Apart.grown {S : Nat → Prop} {W W' : World} {row : Option Nat} (hg : W.grownBy W' row) (h : ∀ k, row = some k → S k) : Apart S W W' :=
  ⟨(Below.refl 0 W).grown hg (Nat.zero_le _) (fun k _ => Nat.zero_le k), fun j hj hn => hg.block j hj fun e => hn (h j e.symm)⟩
theorem Stays.grown {S : Nat → Prop} {W W' : World} {row : Option Nat} (hg : W.grownBy W' row) (h : ∀ k, row = some k → ¬ S k) : Stays S W W' :=
  ⟨(Below.refl 0 W).grown hg (Nat.zero_le _) (fun k _ => Nat.zero_le k), fun j hj hs => hg.block j hj fun e => h j e.symm hs⟩
theorem Stays.of_below {S : Nat → Prop} {W W' : World} (h : Below W.heap.size W W') : Stays S W W' := ⟨h.mono (Nat.zero_le _), fun j hj _ => h.block j hj⟩
theorem Apart.of_below {S : Nat → Prop} {W W' : World} (h : Below W.heap.size W W') : Apart S W W' := ⟨h.mono (Nat.zero_le _), fun j hj _ => h.block j hj⟩
theorem Apart.cell {S : Nat → Prop} {A C : World} (h : Apart S A C) {p : Addr} {v : Value} (hc : A.cell? p = some v) (hn : ¬ S p.block) : C.cell? p = some v :=
  (World.cell?_of_block (h.same p.block (World.block_lt_of_cell? A p hc) hn)).trans hc
theorem Apart.frozen {S : Nat → Prop} {A C : World} (h : Apart S A C) {p : Addr} {v : Value} (hc : A.cell? p = some v) (hn : ¬ S p.block) : C.frozen? p = A.frozen? p :=
  World.frozen?_of_block (h.same p.block (World.block_lt_of_cell? A p hc) hn)
theorem Stays.cell {S : Nat → Prop} {A C : World} (h : Stays S A C) {p : Addr} {v : Value} (hc : A.cell? p = some v) (hn : S p.block) : C.cell? p = some v :=
  (World.cell?_of_block (h.same p.block (World.block_lt_of_cell? A p hc) hn)).trans hc
theorem Apart.below_of {S : Nat → Prop} {A C : World} (h : Apart S A C) {B : Nat} (hB : B ≤ A.heap.size) (hS : ∀ j, S j → B ≤ j) : Below B A C :=
  ⟨h.below.os, h.below.tape, h.below.output, h.below.size, fun k hk => h.same k (by omega) fun hs => by have := hS k hs; omega⟩

theorem roundIn_any {m m' : Nat} {P : Program} {l : Nat} {f : FuncId} {tmps : Array Value} {assign body : Code} {w : World} {R : Ending → World → Prop}
    (h : RoundIn Fence.wide m P l f tmps assign body w R) : RoundIn Fence.wide m' P l f tmps assign body w R := ⟨h.1, fun c cs _ => h.2 c cs (room_wide _)⟩
theorem yield_any {m m' : Nat} {P : Program} {l : Nat} {args : Array Value} {W : World} {R : Ending → World → Prop} (h : YieldAt Fence.wide m P l args W R) : YieldAt Fence.wide m' P l args W R := by
  obtain ⟨fn, tmps, assign, body, hy, hR⟩ := h
  exact ⟨fn, tmps, assign, body, hy, roundIn_any hR⟩

/-- What is held between two rounds abides whatever turns blocks that are not the holder's own. -/
def Held {α : Type} (J : (Nat → Prop) → List α → World → Prop) : Prop :=
  ∀ T T' pre A C, J T pre A → Apart T A C → (∀ j, T' j → T j ∨ (A.heap.size ≤ j ∧ j < C.heap.size)) → J T' pre C

/-- THE ITERATOR's CONTRACT: all of xs come, one after the other; or a round has said 'no more' behind some of them. 'Rd T x args W': what a round is handed, and what it may read of the iterator's own blocks T; R: other blocks that a round keeps. -/
def Seq {α : Type} (P : Program) (g : Nat) (lb : Array Value) (R : Nat → Prop) (Rd : (Nat → Prop) → α → Array Value → World → Prop) (xs : List α) (w0 : World) : Prop :=
  ∀ (l : Nat) (J Jx : (Nat → Prop) → List α → World → Prop) (W : World), Below w0.heap.size w0 W → Held J →
    (∀ T pre x args W1, J T pre W1 → Rd T x args W1 → pre ++ [x] <+: xs → YieldAt Fence.wide 0 P l args W1 fun e W' =>
      (e = .returned (.bool true) ∧ J T (pre ++ [x]) W' ∧ Stays (fun j => T j ∨ R j) W1 W') ∨ (e = .returned (.bool false) ∧ Jx T (pre ++ [x]) W')) →
    J (fun _ => False) [] W →
    Calls P g (#[.func (.yield l) #[] #[]] ++ lb) W fun e W' => (∃ v, e = .returned v) ∧ ((∃ T, J T xs W') ∨ (∃ T pre x, pre ++ [x] <+: xs ∧ Jx T (pre ++ [x]) W'))

/-- HOW THE BODY OF A ROUND MAY BE LEFT. -/
def iterPost {α : Type} (B : Nat) (S R : Nat → Prop) (I : (Nat → Prop) → List α → World → Prop) (Ix : Code → List α → World → Prop) (xs : List α) (W : World) : Exit → Act → World → Prop
  | .normal, _, W' => Stays (fun j => S j ∨ R j) W W' ∧ I S xs W'
  | .ret, _, W' => Stays (fun j => B ≤ j ∧ j ≤ B + 1) W W' ∧ Ix .ret xs W'
  | .exit id, _, W' => Stays (fun j => B ≤ j ∧ j ≤ B + 1) W W' ∧ Ix (.exit id) xs W'
  | .goto t, _, W' => Stays (fun j => B ≤ j ∧ j ≤ B + 1) W W' ∧ Ix (.goto t) xs W'
  | .panic _, _, _ => False
  | .outgrown, _, _ => False

variable {P : Program}
theorem wpIn_rangeFunc_iter {α : Type} {n : Nat} {g : Operand} {ps : Array Tmp} {assign body : Code} {Q : Exit → Act → World → Prop} {a : Act} {w : World}
    {gf : Nat} {lb : Array Value} (hg : a.eval g = .func (.func gf) #[] lb) (eg : ∀ args w, (callFunc gf args).run P w = .ok (.enter gf args) w)
    {R : Nat → Prop} {Rd : (Nat → Prop) → α → Array Value → World → Prop} {xs : List α} {w0 : World} (hseq : Seq P gf lb R Rd xs w0) (hb0 : Below w0.heap.size w0 w) (hR : ∀ j, R j → j < w.heap.size)
    (hRd : ∀ T x args A C, Rd T x args A → Stays T A C → Rd T x args C) (hps : ∀ T x args W, Rd T x args W → args.size = ps.size)
    (I : (Nat → Prop) → List α → World → Prop) (Ix : Code → List α → World → Prop) (hI : Held I) (hIx : ∀ c pre A C, Ix c pre A → Apart (fun j => j = w.heap.size + 1) A C → Ix c pre C)
    (h0 : I (fun _ => False) [] w) (a₁ : Array Value → Act)
    (hassign : ∀ (l : Nat) (T : Nat → Prop) (x : α) (args : Array Value) (W : World) (K : Act → World → Prop), Rd T x args W → K (a₁ args) W →
      assign.wpIn (Fence.wide.inRound l) n P (Exit.then K (fun _ _ _ => False)) { tmps := (ps.zip args).foldl (fun t (p, v) => t.setIfInBounds p v) a.tmps, defers := [] } W)
    (hbody : ∀ (l : Nat) (T S : Nat → Prop) (pre : List α) (x : α) (args : Array Value) (W : World), I S pre W → Rd T x args W → (∀ j, T j → S j) →
      body.wpIn (Fence.wide.inRound l) n P (iterPost w.heap.size S R I Ix (pre ++ [x]) W) (a₁ args) W)
    (hdone : ∀ (S : Nat → Prop) (W : World), I S xs W → W.heap[w.heap.size]? = some (.deferred (some [])) → Q .normal { a with defers := { target := .collected w.heap.size, args := #[] } :: a.defers } W)
    (hstop : ∀ (c : Code) (pre : List α) (x : α) (W : World), pre ++ [x] <+: xs → Ix c (pre ++ [x]) W → W.heap[w.heap.size]? = some (.deferred (some [])) → c.wpIn Fence.wide n P Q { a with defers := { target := .collected w.heap.size, args := #[] } :: a.defers } W) :
    (Code.rangeFunc g ps assign body).wpIn Fence.wide n P Q a w := by
  refine wpIn_rangeFunc ?_
  intro fn hfn
  rw [show Fence.wide.round = none from rfl]
  obtain ⟨rec, hrec⟩ : ∃ rec : LoopState → Option Code → Loop, rec = fun st pe => { state := st, pending := pe, fn, tmps := a.tmps, params := ps, assign, body, defers := w.heap.size } := ⟨_, rfl⟩
  obtain ⟨W1, hW1⟩ : ∃ W1, (w.alloc (.deferred (some []))).alloc (.loop (rec .ready none)) = W1 := ⟨_, rfl⟩
  have hL1 : W1.heap[w.heap.size + 1]? = some (.loop (rec .ready none)) := by
    rw [← hW1]; have := World.alloc_heap_new (w.alloc (.deferred (some []))) (.loop (rec .ready none)); rwa [World.size_alloc] at this
  have hK1 : W1.heap[w.heap.size]? = some (.deferred (some [])) := by
    rw [← hW1]; exact (Below.heap_alloc _ _ _ (by simp)).trans (World.alloc_heap_new w _)
  have hw1 : Below w.heap.size w W1 := by rw [← hW1]; exact (((Below.refl _ w).alloc (Nat.le_refl _) _).alloc (by simp) _)
  have hb1 : Below w0.heap.size w0 W1 := hb0.trans (hw1.mono hb0.size)
  have hz1 : W1.heap.size = w.heap.size + 2 := by rw [← hW1]; simp
  have hI1 : I (fun j => j = w.heap.size ∨ j = w.heap.size + 1) [] W1 := hI _ _ _ _ _ h0 (Apart.of_below hw1) (fun j hj => .inr (by omega))
  refine ⟨w.heap.size + 1, [{ target := .collected w.heap.size, args := #[] }], W1, { target := .fn (.func gf) lb, args := #[.func (.yield (w.heap.size + 1)) #[] #[]] }, W1, gf,
    #[.func (.yield (w.heap.size + 1)) #[] #[]] ++ lb, W1, ?_, ?_, ?_, ?_, fun h => (by cases h), ?_⟩
  · rw [← hW1, hrec]; exact run_enterLoop_outer _ _ _ _ _
  · simp only [resolve, hg]
    simp [go_sem]
  · intro f' hf'; trivial
  · simp [invoke, go_sem, eg]
  · refine callsIn_wide.2 ?_
    refine (hseq (w.heap.size + 1)
      (fun T pre W => I (fun j => T j ∨ j = w.heap.size ∨ j = w.heap.size + 1) pre W ∧ (∀ j, T j → w.heap.size + 2 ≤ j) ∧ W.heap[w.heap.size + 1]? = some (.loop (rec .ready none)) ∧ W.heap[w.heap.size]? = some (.deferred (some [])))
      (fun T pre W => ∃ c, Ix c pre W ∧ W.heap[w.heap.size + 1]? = some (.loop (rec .done (some c))) ∧ W.heap[w.heap.size]? = some (.deferred (some [])))
      W1 hb1 ?held ?round ⟨hI _ _ _ _ _ hI1 (Apart.refl _ _) (fun j hj => by rcases hj with h | h; exact h.elim; exact .inl h), fun j h => h.elim, hL1, hK1⟩).mono ?_
    case held =>
      rintro T T' pre A C ⟨hi, hT, hl, hk⟩ hA hT'
      have hlt : w.heap.size + 1 < A.heap.size := (Array.getElem?_eq_some_iff.1 hl).1
      refine ⟨hI _ _ _ _ _ hi (hA.mono fun j hj => .inl hj) (fun j hj => ?_), fun j hj => ?_, (hA.same _ hlt (fun h => by have := hT _ h; omega)).trans hl, (hA.same _ (by omega) (fun h => by have := hT _ h; omega)).trans hk⟩
      · rcases hj with hj | hj
        · rcases hT' j hj with h | h
          · exact .inl (.inl h)
          · exact .inr h
        · exact .inl (.inr hj)
      · rcases hT' j hj with h | h
        · exact hT j h
        · omega
    case round =>
      rintro T pre x args W ⟨hi, hT, hl, hk⟩ hrd _
      have hlt : w.heap.size + 1 < W.heap.size := (Array.getElem?_eq_some_iff.1 hl).1
      have hnT : ¬ T (w.heap.size + 1) := fun h => by have := hT _ h; omega
      have hnR : ¬ (T (w.heap.size + 1) ∨ R (w.heap.size + 1)) := fun h => by rcases h with h | h; exact hnT h; have := hR _ h; omega
      have hy := run_yield (P := P) (args := args) hl (by rw [hrec]; exact hps T x args W hrd)
      rw [hrec] at hy
      refine yield_any (m := n + 1) ⟨fn, _, assign, body, hy, roundIn_any (m := n) (roundIn_of_wpIn hfn (hassign _ T x args W _ hrd ⟨_, run_beginRound hl (by rw [hrec]), ?_⟩))⟩
      have hl2 : (W.putObj (w.heap.size + 1) (.loop { rec .ready none with state := .busy })).heap[w.heap.size + 1]? = some (.loop { rec .ready none with state := .busy }) := World.putObj_heap_same hlt
      have hk2 : (W.putObj (w.heap.size + 1) (.loop { rec .ready none with state := .busy })).heap[w.heap.size]? = some (.deferred (some [])) := (World.putObj_heap_other (by omega)).trans hk
      have hi2 := hI _ _ _ _ _ hi ((Apart.putObj W (w.heap.size + 1) (.loop { rec .ready none with state := .busy })).mono fun j hj => .inr (.inr hj)) (fun j hj => .inl hj)
      have hst := Stays.putObj (S := fun j => T j ∨ R j) hnR W (.loop { rec .ready none with state := .busy })
      have hlz := (Array.getElem?_eq_some_iff.1 hl2).1
      have hkz := (Array.getElem?_eq_some_iff.1 hk2).1
      refine wpIn_mono (hbody _ T _ pre x args _ hi2 (hRd _ _ _ _ _ hrd (hst.mono fun j hj => .inl hj)) fun j hj => .inl hj) ?_
      have fin : ∀ (jump : Option Code) (W3 : World), W3.heap[w.heap.size + 1]? = some (.loop { rec .ready none with state := .busy }) → W3.heap[w.heap.size]? = some (.deferred (some [])) →
          (Instr.endRound (w.heap.size + 1) jump).run P W3 = .ok (.bool jump.isNone) (W3.putObj (w.heap.size + 1) (.loop (rec (if jump.isNone then .ready else .done) jump))) ∧
          (W3.putObj (w.heap.size + 1) (.loop (rec (if jump.isNone then .ready else .done) jump))).heap[w.heap.size + 1]? = some (.loop (rec (if jump.isNone then .ready else .done) jump)) ∧
          (W3.putObj (w.heap.size + 1) (.loop (rec (if jump.isNone then .ready else .done) jump))).heap[w.heap.size]? = some (.deferred (some [])) := fun jump W3 hl3 hk3 => by
        have := run_endRound (P := P) jump hl3
        rw [hrec] at this ⊢
        exact ⟨this, World.putObj_heap_same (Array.getElem?_eq_some_iff.1 hl3).1, (World.putObj_heap_other (by omega)).trans hk3⟩
      rintro e a3 W3 hp
      cases e with
      | normal =>
        obtain ⟨hs3, hi3⟩ := hp
        have hl3 := (hs3.same (w.heap.size + 1) hlz (.inl (.inr (.inr rfl)))).trans hl2
        have hk3 := (hs3.same w.heap.size hkz (.inl (.inr (.inl rfl)))).trans hk2
        obtain ⟨hr, hl4, hk4⟩ := fin none W3 hl3 hk3
        refine ⟨_, _, hr, .inl ⟨rfl, ⟨hI _ _ _ _ _ hi3 ((Apart.putObj W3 _ _).mono fun j hj => .inr (.inr hj)) (fun j hj => .inl hj), hT, hl4, hk4⟩, ?_⟩⟩
        exact (hst.trans (hs3.mono fun j hj => hj.elim (fun h => .inl (.inl h)) .inr)).trans (Stays.putObj (S := fun j => T j ∨ R j) hnR W3 _)
      | ret =>
        obtain ⟨hs3, hi3⟩ := hp
        obtain ⟨hr, hl4, hk4⟩ := fin (some .ret) W3 ((hs3.same (w.heap.size + 1) hlz (by omega)).trans hl2) ((hs3.same w.heap.size hkz (by omega)).trans hk2)
        exact ⟨_, _, hr, .inr ⟨rfl, .ret, hIx _ _ _ _ hi3 (Apart.putObj W3 _ _), hl4, hk4⟩⟩
      | exit id =>
        obtain ⟨hs3, hi3⟩ := hp
        obtain ⟨hr, hl4, hk4⟩ := fin (some (.exit id)) W3 ((hs3.same (w.heap.size + 1) hlz (by omega)).trans hl2) ((hs3.same w.heap.size hkz (by omega)).trans hk2)
        exact ⟨_, _, hr, .inr ⟨rfl, .exit id, hIx _ _ _ _ hi3 (Apart.putObj W3 _ _), hl4, hk4⟩⟩
      | goto t =>
        obtain ⟨hs3, hi3⟩ := hp
        obtain ⟨hr, hl4, hk4⟩ := fin (some (.goto t)) W3 ((hs3.same (w.heap.size + 1) hlz (by omega)).trans hl2) ((hs3.same w.heap.size hkz (by omega)).trans hk2)
        exact ⟨_, _, hr, .inr ⟨rfl, .goto t, hIx _ _ _ _ hi3 (Apart.putObj W3 _ _), hl4, hk4⟩⟩
      | panic ch => exact hp.elim
      | outgrown => exact hp.elim
    · rintro e W2 ⟨⟨v, rfl⟩, (⟨T, hi, hT, hl, hk⟩ | ⟨T, pre, x, hpre, c, hi, hl, hk⟩)⟩
      · exact ⟨none, _, by have := run_endLoop (P := P) hl (by rw [hrec]; simp); rw [hrec] at this; exact this, hdone _ _ (hI _ _ _ _ _ hi ((Apart.putObj W2 _ _).mono fun j hj => .inr (.inr hj)) (fun j hj => .inl hj)) ((World.putObj_heap_other (by omega)).trans hk)⟩
      · exact ⟨some c, _, by have := run_endLoop (P := P) hl (by rw [hrec]; simp); rw [hrec] at this; exact this, hstop c pre x _ hpre (hIx _ _ _ _ hi (Apart.putObj W2 _ _)) ((World.putObj_heap_other (by omega)).trans hk)⟩
end Go.Proofs.YtepoabbkalhifaaDoor
/-
  A LIST OF NUMBERS THAT GROWS BY ONE WHILE THE SHORTER ONE IS STILL READ: 'append(told, a)' at a step of a region that draws its order.
-/
namespace Go.Proofs.YtepoabbkalhifaaDoor
open Go.RowKit

/-- a list of numbers in a block of its own, which may have room behind -/
abbrev World.told (w : World) (A : Option Addr) (c : Nat) (l : List Int) : Prop := w.ownsRow 0 3 1 (.slice A l.length c) l.length (icells l)
/-- one more: the shorter list still stands; the longer lies in its block or in a new one -/
structure Grew (w w' : World) (A A' : Option Addr) (c c' : Nat) (l : List Int) (x : Int) : Prop where
  new : World.told w' A' c' (l ++ [x])
  old : World.told w' A c l
  grow : w.grownBy w' (Value.slice A l.length c).ownBlock
  same : A' = A ∧ c' = c ∧ A ≠ none ∨ w.grownBy w' none ∧ ∃ g, A' = some ⟨g, 0, none⟩ ∧ w.heap.size ≤ g
theorem told_front {w : World} {A : Option Addr} {c : Nat} {l : List Int} {x : Int} (h : World.told w A c (l ++ [x])) (hA : A ≠ none) : World.told w A c l := by
  rcases h.2 with ⟨hv, _⟩ | ⟨g, cap, cur, hv, hb, hg, hn, hm, hs, ht⟩
  · simp only [Value.slice.injEq] at hv
    exact absurd hv.1 hA
  · simp only [Value.slice.injEq] at hv
    obtain ⟨rfl, _, rfl⟩ := hv
    refine ⟨by simp [icells], .inr ⟨g, c, cur, rfl, hb, hg, ?_, hm, hs, ?_⟩⟩
    · rw [List.length_append] at hn; simp at hn; omega
    · have e := congrArg (List.take (l.length * 1)) ht
      rw [List.take_take, icells_append] at e
      rw [Nat.min_eq_left (by rw [List.length_append]; simp)] at e
      rw [e, Nat.mul_one]
      have : (icells l).length = l.length := icells_length l
      rw [← this, List.take_left]
theorem told_own {A : Option Addr} {c : Nat} {l : List Int} {g : Nat} (hA : A = some ⟨g, 0, none⟩) : (Value.slice A l.length c).ownBlock = some g := by rw [hA]; rfl

theorem step_append_told {ops : Array Oper} {o : Oper} {a : Act} {w : World} {K : Act → World → Prop} {Q : Exit → Act → World → Prop} {E : Prop}
    (hgd : o.guard = none) (s x : Operand) (ho : o.op = .call { callee := .builtin .append, args := #[s, x], argTypes := #[22, 22] })
    (A : Option Addr) (c : Nat) (l : List Int) (y : Int) (hs : a.eval s = .slice A l.length c) (hown : World.told w A c l)
    (ad : Addr) (hx : a.eval x = .slice (some ad) 1 1) (hcell : ∀ j u, [Value.int .i64 y][j]? = some u → w.cell? (ad.add j) = some u) (hlen : l.length ≤ 1000)
    (h : ∀ A' c' w', Grew w w' A A' c c' l y → K (a.put o.dst (.slice A' (l.length + 1) c')) w') :
    if Region.wanted o (yielded ops a.tmps) = true then Oper.wp Tryd.prog o a w K Q else E := by
  obtain ⟨i0, hi, hz0, hz1, hz2⟩ := info_parts Tryd.infoInt
  have hone : ∀ u ∈ [Value.int .i64 y], u.oneCell' = true := one_one rfl
  have hll : (l ++ [y]).length = l.length + 1 := by simp
  by_cases hroom : l.length + 1 ≤ c
  · have hw : Region.wanted o (yielded ops a.tmps) = true := by simp [Region.wanted, hgd]
    rw [if_pos hw]
    rcases hown.2 with ⟨hv, _⟩ | ⟨g, cap, cur, hv, hb, hg, hn, hm, hsz, ht⟩
    · simp only [Value.slice.injEq] at hv
      omega
    · simp only [Value.slice.injEq] at hv
      obtain ⟨rfl, _, rfl⟩ := hv
      obtain ⟨w', hrun, r1, r2⟩ := run_append_fits (P := Tryd.prog) w 0 22 o.type 3 i0 1 Tryd.underlying22 hi hz1 g l.length c (icells l) hown ad 1 1 [.int .i64 y] rfl hcell hone hroom
      unfold Oper.wp
      simp [execOp, ho, resolve, invoke, builtin, hs, hx, hrun, Result.andThen]
      have r3 : World.told w' (some ⟨g, 0, none⟩) c (l ++ [y]) := by rw [World.told, hll, icells_append]; exact r1
      exact h _ _ w' ⟨r3, told_front r3 (by simp), r2, .inl ⟨rfl, rfl, by simp⟩⟩
  · refine step_append_grows hgd s x 22 ho 3 i0 _ 1 8 Tryd.underlying22 hi hz0 hz1 hz2 rfl (by decide) A l.length c (icells l) hs ?_ (by simp [icells]) ?_ ad 1 1 [.int .i64 y] hx rfl hcell hone (by omega) (by unfold maxLen; omega) (by omega) ?_
    · intro e
      rcases hown.2 with ⟨hv, h0⟩ | ⟨g, cap, cur, hv, _⟩
      · simp only [Value.slice.injEq] at hv
        exact ⟨hv.2.1, hv.2.2⟩
      · simp [e] at hv
    · intro b e j u hj
      obtain ⟨b', off, e', _, hc⟩ := (CRead.of_own hown) j u hj
      rw [e] at e'
      simp only [Option.some.injEq] at e'
      rw [e', Addr.add_lit]
      exact hc
    · intro v' w' r1 r2
      obtain ⟨A', c', rfl, _⟩ := own_shape r1
      obtain ⟨g, hgA⟩ := own_form r1 (by omega)
      have hlt := (own_lower r1 (Nat.zero_le _))
      refine h A' c' w' ⟨by rw [World.told, hll, icells_append]; exact hlt, hown.kept r2 (by cases (Value.slice A l.length c).ownBlock <;> simp), ⟨r2.os, r2.tape, r2.output, r2.size, fun k hk _ => r2.block k hk (by simp)⟩, .inr ⟨r2, g, hgA, ?_⟩⟩
      subst hgA
      exact (own_lt r1).1
end Go.Proofs.YtepoabbkalhifaaDoor
