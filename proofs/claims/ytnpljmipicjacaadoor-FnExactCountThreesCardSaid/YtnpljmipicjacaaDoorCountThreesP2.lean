/-
  Texts put together for the claim of 'CountThrees' (pack 2): Cmp, Got, Tab, Has, Threes, Ways, TriP, Iter, Told, Tz, Look, LookW.
-/
import Derived.Test.YtnpljmipicjacaaDoorCountThreesP1
import Derived.Deep.OwnRows
import Derived.RangeFuncNested
import Derived.RangeFuncBound
import Derived.RangeFuncCalls
import Derived.RangeFuncLeaves
import Derived.Shelf.Abstract
import Derived.Shelf.RegionOpen
import Derived.OwnWalkIn
import Derived.TacticsInMore
import Derived.LoopNIn
import Derived.LoopIn
import Derived.Deep.RegionLawGrows
import Derived.Laws.OwnMore
import Derived.ScopeJumps
import Derived.WalkMore
/-
  THE PROGRAM's OWN LOOK AT A PARTY: comparisons of numbers and of pairs, 'impl.IsParty', by their contracts.
-/
namespace Go.Proofs.YtnpljmipicjacaaDoor
open Go.RowKit

def cmpI (a b : Int) : Int := if a < b then -1 else if b < a then 1 else 0
set_option maxHeartbeats 400000 in
theorem isNaN_any (a : Int) (w : World) : Calls Tryd.prog 96 #[.int .i64 a] w fun e w' => e = .returned (.bool false) ∧ w = w' := by
  go_enter Tryd.func96, Tryd.ntmps96
  go_wp2
  go_ret
  exact ⟨by simp, rfl⟩
set_option maxHeartbeats 400000 in
theorem compare_any (a b : Int) (w : World) : Calls Tryd.prog 89 #[.int .i64 a, .int .i64 b] w fun e w' => e = .returned (.int .i64 (cmpI a b)) ∧ w = w' := by
  by_cases h1 : a < b
  · have e : cmpI a b = -1 := if_pos h1
    rw [e]
    clear e
    go_enter Tryd.func89, Tryd.ntmps89
    go_wp2_with (go_at_call 96; refine (isNaN_any _ _).mono ?_; rintro e w' ⟨rfl, rfl⟩)
    go_ret
    exact ⟨rfl, rfl⟩
  · by_cases h2 : b < a
    · have e : cmpI a b = 1 := by rw [cmpI, if_neg h1, if_pos h2]
      rw [e]
      clear e
      go_enter Tryd.func89, Tryd.ntmps89
      go_wp2_with (go_at_call 96; refine (isNaN_any _ _).mono ?_; rintro e w' ⟨rfl, rfl⟩)
      go_ret
      exact ⟨rfl, rfl⟩
    · have e : cmpI a b = 0 := by rw [cmpI, if_neg h1, if_neg h2]
      rw [e]
      clear e
      go_enter Tryd.func89, Tryd.ntmps89
      go_wp2_with (go_at_call 96; refine (isNaN_any _ _).mono ?_; rintro e w' ⟨rfl, rfl⟩)
      go_ret
      exact ⟨rfl, rfl⟩

set_option maxHeartbeats 400000 in
theorem or_any (x y : Int) (g : Nat) (w : World) (h0 : w.cell? ⟨g, 0, none⟩ = some (.int .i64 x)) (h1 : w.cell? ⟨g, 1, none⟩ = some (.int .i64 y)) :
    Calls Tryd.prog 88 #[.slice (some ⟨g, 0, none⟩) 2 2] w fun e w' => e = .returned (.int .i64 (if x = 0 then y else x)) ∧ w = w' := by
  by_cases hx : x = 0
  · subst hx
    rw [if_pos rfl]
    by_cases hy : y = 0
    · subst hy
      go_enter Tryd.func88, Tryd.ntmps88
      go_wp2
      refine wp_loop_rounds 3 ?_
      rw [rounds_succ]
      go_wp2
      rw [rounds_succ]
      go_wp2
      rw [rounds_succ]
      go_wp2
      go_ret
      exact ⟨rfl, rfl⟩
    · go_enter Tryd.func88, Tryd.ntmps88
      go_wp2
      refine wp_loop_rounds 3 ?_
      rw [rounds_succ]
      go_wp2
      rw [rounds_succ]
      go_wp2
      go_ret
      exact ⟨rfl, rfl⟩
  · rw [if_neg hx]
    go_enter Tryd.func88, Tryd.ntmps88
    go_wp2
    refine wp_loop_rounds 3 ?_
    rw [rounds_succ]
    go_wp2
    go_ret
    exact ⟨rfl, rfl⟩

def cmpP (a b c d : Int) : Int := if cmpI a c = 0 then cmpI b d else cmpI a c
theorem cmpP_less (a b c d : Int) : cmpP a b c d < 0 ↔ (a < c ∨ a = c ∧ b < d) := by
  unfold cmpP cmpI
  repeat' split
  all_goals omega
set_option maxHeartbeats 1000000 in
set_option maxRecDepth 100000 in
theorem comparePairs_any (a b c d : Int) (w : World) :
    Calls Tryd.prog 76 #[.agg #[.int .i64 a, .int .i64 b], .agg #[.int .i64 c, .int .i64 d]] w fun e w' => e = .returned (.int .i64 (cmpP a b c d)) ∧ Below w.heap.size w w' := by
  go_enter Tryd.func76, Tryd.ntmps76
  go_wp2
  generalize hW : (w.alloc (Obj.cells #[.int .i64 a, .int .i64 b] 85)).alloc (Obj.cells #[.int .i64 c, .int .i64 d] 85) = W
  have c0 : W.cell? ⟨w.heap.size, 0, none⟩ = some (.int .i64 a) := by rw [← hW]; simp
  have c1 : W.cell? ⟨w.heap.size, 1, none⟩ = some (.int .i64 b) := by rw [← hW]; simp
  have c2 : W.cell? ⟨w.heap.size + 1, 0, none⟩ = some (.int .i64 c) := by rw [← hW]; simp
  have c3 : W.cell? ⟨w.heap.size + 1, 1, none⟩ = some (.int .i64 d) := by rw [← hW]; simp
  have hb : Below w.heap.size w W := by rw [← hW]; go_grown
  clear hW
  refine wp_region_still_tail 10 (by kernel_rfl) (by kernel_rfl) ?_
  simp only [List.take_succ_cons, List.take_zero, List.drop_succ_cons, List.drop_zero]
  still_step
  still_step
  still_step
  still_step
  still_call ((compare_any a c _).mono fun _ _ h => ⟨h.1, h.2.symm⟩)
  still_step
  still_step
  still_step
  still_step
  still_call ((compare_any b d _).mono fun _ _ h => ⟨h.1, h.2.symm⟩)
  refine wpStill_nil ?_
  change wpList _ _ _ _ _ (World.drew _)
  go_wp2_with (go_at_call 88; refine (or_any (cmpI a c) (cmpI b d) _ _ (by simp) (by simp)).mono ?_; rintro e w2 ⟨rfl, rfl⟩)
  · have h : cmpI a c = 0 := by assumption
    go_ret
    exact ⟨by simp [cmpP, h], (hb.alloc hb.size _).drew⟩
  · have h : ¬ cmpI a c = 0 := by assumption
    go_ret
    exact ⟨by simp [cmpP, h], (hb.alloc hb.size _).drew⟩
theorem comparePairs_less (a b c d : Int) (h : a < c ∨ a = c ∧ b < d) (w : World) :
    Calls Tryd.prog 76 #[.agg #[.int .i64 a, .int .i64 b], .agg #[.int .i64 c, .int .i64 d]] w fun e w' => e = .returned (.int .i64 (-1)) ∧ Below w.heap.size w w' :=
  (comparePairs_any a b c d w).mono fun _ _ hh => by
    have h1 := (cmpP_less a b c d).2 h
    have h2 : cmpP a b c d = -1 := by unfold cmpP cmpI at h1 ⊢; repeat' split at h1; all_goals (repeat' split); all_goals omega
    rwa [h2] at hh
theorem cmpP_more {a b c d : Int} (h : ¬ (a < c ∨ a = c ∧ b < d)) : 0 ≤ cmpP a b c d := by
  have h1 : ¬ cmpP a b c d < 0 := fun h2 => h ((cmpP_less a b c d).1 h2)
  omega

set_option maxHeartbeats 1000000 in
theorem isParty_any (p : Int) (l : PL) (A : Option Addr) (c : Nat) (w : World) (hl : l.length ≤ 1048576) (hA : CRead w w.heap.size A (pcells l)) :
    Calls Tryd.prog 52 #[.agg #[.int .i64 p, .slice A l.length c]] w fun e w' => e = .returned (.bool (isP p l)) ∧ Below w.heap.size w w' := by
  by_cases hp : p < 0 ∨ 12 < p
  · rw [isP_out p l hp]
    rcases hp with hp | hp
    · go_enter Tryd.func52, Tryd.ntmps52
      go_wp2
      go_ret
      exact ⟨rfl, by go_grown⟩
    · have hp' : ¬ p < 0 := by omega
      go_enter Tryd.func52, Tryd.ntmps52
      go_wp2
      go_ret
      exact ⟨rfl, by go_grown⟩
  · have hp0 : 0 ≤ p := by omega
    have hp1 : p ≤ 12 := by omega
    generalize hn : l.length = n at *
    have Hn := Lib.hid hn
    clear hn hp
    go_enter Tryd.func52, Tryd.ntmps52
    go_wp2
    have hbw : Below (w.heap.size + 1) (w.alloc (Obj.cells #[.int .i64 p, .slice A n c] 31)) (w.alloc (Obj.cells #[.int .i64 p, .slice A n c] 31)) := Below.refl _ _
    go_loopw [16] (fun i wr => ∃ k : Nat, k ≤ n ∧ i = .int .i64 k ∧ (∀ j, j < k → goodAt p l j = true) ∧ Below (w.heap.size + 1) (w.alloc (Obj.cells #[.int .i64 p, .slice A n c] 31)) wr) (fun i _ => n - (intOf i).toNat)
    case atStart => exact ⟨0, Nat.zero_le _, rfl, fun j hj => by omega, hbw⟩
    case round =>
      obtain ⟨k, hk, rfl, hgood, hb⟩ := hrel
      have Hgood := Lib.hid hgood
      clear hgood hbw
      have hs := hb.size
      simp only [World.size_alloc] at hs
      have hbw : Below w.heap.size w wr := Below.trans (b := _) (by go_grown) (hb.mono (by omega))
      have u0 : wr.cell? ⟨w.heap.size, 0, none⟩ = some (.int .i64 p) := (hb.cell (p := ⟨w.heap.size, 0, none⟩) (by simp)).trans (by simp)
      have u1 : wr.cell? ⟨w.heap.size, 1, none⟩ = some (.slice A n c) := (hb.cell (p := ⟨w.heap.size, 1, none⟩) (by simp)).trans (by simp)
      by_cases hlt : k < n
      · obtain ⟨⟨x, y⟩, hx⟩ := getSome l k (by rw [Hn.out]; exact hlt)
        obtain ⟨b, off, rfl, hbb, c0, c1⟩ := (hA.below hbw (Nat.le_refl _)).pair hx
        have hki : (k : Int) < (n : Int) := by omega
        have Hx := Lib.hid hx
        clear hx
        have u2 : (wr.alloc (.cells #[.int .i64 x, .int .i64 y] 85)).cell? ⟨w.heap.size, 0, none⟩ = some (.int .i64 p) := (World.cell?_alloc_lt wr _ _ (by simp; omega)).trans u0
        have u3 : (wr.alloc (.cells #[.int .i64 x, .int .i64 y] 85)).cell? ⟨w.heap.size, 1, none⟩ = some (.slice (some ⟨b, off, none⟩) n c) := (World.cell?_alloc_lt wr _ _ (by simp; omega)).trans u1
        by_cases hxy : 0 ≤ x ∧ x < y ∧ y < p
        · have x0 : 0 ≤ x := by omega
          have x1 : ¬ (y ≤ x) := by omega
          have x2 : ¬ (p ≤ y) := by omega
          have e0 : ∀ z : Ext (wr.heap.size + 1) (wr.alloc (.cells #[.int .i64 x, .int .i64 y] 85)), z.val.cell? ⟨wr.heap.size, 0, none⟩ = some (.int .i64 x) := fun z => z.cell (by simp) (by omega)
          have e1 : ∀ z : Ext (wr.heap.size + 1) (wr.alloc (.cells #[.int .i64 x, .int .i64 y] 85)), z.val.cell? ⟨wr.heap.size, 1, none⟩ = some (.int .i64 y) := fun z => z.cell (by simp) (by omega)
          have z0 : ∀ z : Ext (wr.heap.size + 1) (wr.alloc (.cells #[.int .i64 x, .int .i64 y] 85)), z.val.cell? ⟨w.heap.size, 0, none⟩ = some (.int .i64 p) := fun z => z.cell ((World.cell?_alloc_lt wr _ _ (by simp; omega)).trans u0) (by omega)
          have z1 : ∀ z : Ext (wr.heap.size + 1) (wr.alloc (.cells #[.int .i64 x, .int .i64 y] 85)), z.val.cell? ⟨w.heap.size, 1, none⟩ = some (.slice (some ⟨b, off, none⟩) n c) := fun z => z.cell ((World.cell?_alloc_lt wr _ _ (by simp; omega)).trans u1) (by omega)
          have Hxy := Lib.hid hxy
          clear hxy
          by_cases hkz : k = 0
          · have hk0 : decide ((0 : Int) < (k : Int)) = false := by simp [hkz]
            have hk1 : decide (0 < k) = false := by simp [hkz]
            have Hkz := Lib.hid hkz
            clear hkz
            go_wp2
            refine wp_region_ext (wr.heap.size + 1) (by kernel_rfl) (by kernel_rfl) ?_
            repeat (go_big_quiet_step (fail))
            refine wpQuiet_nil ?_
            rintro w1 ⟨⟨_, hb1⟩, rfl⟩
            have hb2 : Below (wr.heap.size) wr w1 := Below.trans (b := _) ((Below.refl _ _).alloc (by omega) _) (hb1.mono (by omega))
            go_wp2
            go_roundw
            case rel =>
              refine ⟨k + 1, by omega, by go_num, ?_, hb.trans (hb2.mono (by omega))⟩
              intro j hj
              rcases Nat.lt_succ_iff_lt_or_eq.1 hj with h | rfl
              · exact Hgood.out j h
              · exact goodAt_zero Hkz.out Hx.out Hxy.out
            case measure => simp [intOf]; omega
          · obtain ⟨⟨x', y'⟩, hx'⟩ := getSome l (k - 1) (by rw [Hn.out]; omega)
            obtain ⟨b', off', e', _, c0', c1'⟩ := (hA.below hbw (Nat.le_refl _)).pair hx'
            simp only [Option.some.injEq, Addr.mk.injEq, and_true] at e'
            obtain ⟨rfl, rfl⟩ := e'
            have Hx' := Lib.hid hx'
            clear hx'
            have e2 : ∀ z : Ext (wr.heap.size + 1) (wr.alloc (.cells #[.int .i64 x, .int .i64 y] 85)), z.val.cell? ⟨b, off + (k - 1) * 2, none⟩ = some (.int .i64 x') := fun z => z.cell ((World.cell?_alloc_lt wr _ _ (by simp; omega)).trans c0') (by omega)
            have e3 : ∀ z : Ext (wr.heap.size + 1) (wr.alloc (.cells #[.int .i64 x, .int .i64 y] 85)), z.val.cell? ⟨b, off + (k - 1) * 2 + 1, none⟩ = some (.int .i64 y') := fun z => z.cell ((World.cell?_alloc_lt wr _ _ (by simp; omega)).trans c1') (by omega)
            have hk0 : (0 : Int) < (k : Int) := by omega
            have hk1 : decide ((0 : Int) < (k : Int)) = true := by simp; omega
            have hk2 : 0 < k := by omega
            have hk3 : (0 : Int) ≤ (k : Int) - 1 := by omega
            have hk4 : (k : Int) - 1 < (n : Int) := by omega
            clear hkz
            by_cases hA3 : x' < x ∨ x' = x ∧ y' < y
            · go_wp2
              refine wp_region_ext (wr.heap.size + 1) (by kernel_rfl) (by kernel_rfl) ?_
              repeat (go_big_quiet_step ((go_at_call 76; exact Calls.ext_of ((comparePairs_less _ _ _ _ hA3 _).mono fun _ _ h => ⟨h.1, h.2.mono (Ext.size' (by simp) _)⟩))))
              refine wpQuiet_nil ?_
              rintro w1 ⟨⟨_, hb1⟩, rfl⟩
              have hb2 : Below (wr.heap.size) wr w1 := Below.trans (b := _) ((Below.refl _ _).alloc (by omega) _) (hb1.mono (by omega))
              go_wp2
              go_roundw
              case rel =>
                refine ⟨k + 1, by omega, by go_num, ?_, hb.trans (hb2.mono (by omega))⟩
                intro j hj
                rcases Nat.lt_succ_iff_lt_or_eq.1 hj with h | rfl
                · exact Hgood.out j h
                · exact goodAt_later hk2 Hx'.out Hx.out Hxy.out hA3
              case measure => simp [intOf]; omega
            · have hmore := cmpP_more hA3
              go_wp2
              refine wp_region_ext (wr.heap.size + 1) (by kernel_rfl) (by kernel_rfl) ?_
              repeat (go_big_quiet_step ((go_at_call 76; exact Calls.ext_of ((comparePairs_any _ _ _ _ _).mono fun _ _ h => ⟨h.1, h.2.mono (Ext.size' (by simp) _)⟩))))
              refine wpQuiet_nil ?_
              rintro w1 ⟨⟨_, hb1⟩, rfl⟩
              have hb2 : Below (wr.heap.size) wr w1 := Below.trans (b := _) ((Below.refl _ _).alloc (by omega) _) (hb1.mono (by omega))
              go_wp2
              go_ret
              refine ⟨?_, hbw.trans (hb2.mono (by omega))⟩
              rw [isP_no p l (i := k) (by rw [Hn.out]; exact hlt) (goodAt_stale' hk2 Hx'.out Hx.out hA3)]
              rfl
        · have hres : isP p l = false := isP_no p l (i := k) (by rw [Hn.out]; exact hlt) (goodAt_bad Hx.out hxy)
          have Hres := Lib.hid hres
          clear hres
          by_cases h1 : x < 0
          · go_wp2
            go_ret
            exact ⟨by rw [Hres.out]; rfl, hbw.alloc (by omega) _⟩
          · by_cases h2 : y ≤ x
            · go_wp2
              go_ret
              exact ⟨by rw [Hres.out]; rfl, hbw.alloc (by omega) _⟩
            · have h3 : p ≤ y := by omega
              go_wp2
              go_ret
              exact ⟨by rw [Hres.out]; rfl, hbw.alloc (by omega) _⟩
      · have hkl : k = n := by omega
        subst hkl
        have hge : ¬ ((k : Int) < k) := by omega
        go_wp2
        go_ret
        refine ⟨?_, hbw⟩
        rw [isP_of p l hp0 hp1 (fun i hi => Hgood.out i (by rw [Hn.out] at hi; exact hi))]
        rfl

end Go.Proofs.YtnpljmipicjacaaDoor
/-
  Parties and lists of numbers that a call comes back with.
-/
namespace Go.Proofs.YtnpljmipicjacaaDoor
open Go.RowKit

/-- A call came back with a party and a bool; the party's pairs lie in memory of its own. -/
def GotPartyOk (w : World) (p : Int) (l : PL) (ok : Bool) (e : Ending) (w' : World) : Prop :=
  ∃ A c, e = .returned (.tuple #[.agg #[.int .i64 p, .slice A l.length c], .bool ok]) ∧ w'.ownsRow w.heap.size 85 2 (.slice A l.length c) l.length (pcells l) ∧ Below w.heap.size w w'
/-- A call came back with a list of numbers and a bool. -/
def GotIntsOk (w : World) (l : List Int) (ok : Bool) (e : Ending) (w' : World) : Prop :=
  ∃ A c, e = .returned (.tuple #[.slice A l.length c, .bool ok]) ∧ w'.ownsRow w.heap.size 3 1 (.slice A l.length c) l.length (icells l) ∧ Below w.heap.size w w'

end Go.Proofs.YtnpljmipicjacaaDoor
/-
  TABLES OF WHO IS WHOSE FRIEND, in memory of the call's own: one row of rows.
-/
namespace Go.Proofs.YtnpljmipicjacaaDoor
open Go.RowKit

def upd (t : Nat → Nat → Bool) (a b : Nat) (x : Bool) : Nat → Nat → Bool := fun i j => if i = a ∧ j = b then x else t i j
def adj (l : PL) (i j : Nat) : Bool := l.contains ((i : Int), (j : Int)) || l.contains ((j : Int), (i : Int))
theorem adj_nil : adj [] = fun _ _ => false := rfl
theorem adj_snoc (l : PL) (a b : Nat) : adj (l ++ [((a : Int), (b : Int))]) = upd (upd (adj l) a b true) b a true := by
  funext i j
  simp only [adj, upd, List.contains_append, List.contains_cons, List.contains_nil, Bool.or_false]
  have e1 : (((i : Int), (j : Int)) == ((a : Int), (b : Int))) = decide (i = a ∧ j = b) := by rw [Bool.eq_iff_iff]; simp; omega
  have e2 : (((j : Int), (i : Int)) == ((a : Int), (b : Int))) = decide (i = b ∧ j = a) := by rw [Bool.eq_iff_iff]; simp; omega
  rw [e1, e2]
  by_cases h1 : i = b ∧ j = a
  · simp [h1]
  · by_cases h2 : i = a ∧ j = b
    · simp [h2]
    · simp [h1, h2]
theorem adj_pair {n : Nat} {l : PL} (h : isP n l = true) {i j : Nat} (hij : i < j) : adj l i j = l.contains ((i : Int), (j : Int)) := by
  unfold adj
  have : l.contains ((j : Int), (i : Int)) = false := by
    rw [Bool.eq_false_iff]
    intro hc
    rw [List.contains_iff_mem] at hc
    have := (isP_list h).2.2.1 _ hc
    simp at this
    omega
  rw [this, Bool.or_false]
theorem adj_comm (l : PL) (i j : Nat) : adj l i j = adj l j i := by unfold adj; rw [Bool.or_comm]

/-- k rows of n bools each, row i in block G i, under the slice v. -/
structure TabG (w : World) (B : Nat) (v : Value) (k n : Nat) (G : Nat → Nat) (t : Nat → Nat → Bool) : Prop where
  own : w.ownsRow B 83 1 v k ((List.range k).map fun i => Value.slice (some ⟨G i, 0, none⟩) n n)
  row : ∀ i, i < k → B ≤ G i ∧ w.rowIs (G i) 4 n (fun j => .bool (t i j))
  inj : ∀ i j, i < k → j < k → G i = G j → i = j
section
variable {w w' : World} {B k n : Nat} {v : Value} {G : Nat → Nat} {t t' : Nat → Nat → Bool}
theorem TabG.congr (h : TabG w B v k n G t) (e : ∀ i j, i < k → j < n → t i j = t' i j) : TabG w B v k n G t' :=
  ⟨h.own, fun i hi => ⟨(h.row i hi).1, (h.row i hi).2.congr fun j hj => by rw [e i j hi hj]⟩, h.inj⟩
theorem TabG.of_blocks (h : TabG w B v k n G t) (hg : w.grownBy w' none) : TabG w' B v k n G t :=
  ⟨h.own.kept hg (by cases v.ownBlock <;> simp), fun i hi => ⟨(h.row i hi).1, (h.row i hi).2.of_block (hg.block _ (h.row i hi).2.lt (by simp))⟩, h.inj⟩
theorem TabG.alloc (h : TabG w B v k n G t) (o : Obj) : TabG (w.alloc o) B v k n G t := h.of_blocks (World.grownBy_alloc w o none)
theorem TabG.below (h : TabG w B v k n G t) {B' : Nat} (hb : Below B' w w') (hB : w.heap.size ≤ B') : TabG w' B v k n G t := h.of_blocks (below_grownBy hb hB none)
theorem TabG.lower (h : TabG w B v k n G t) {B' : Nat} (hB : B' ≤ B) : TabG w B' v k n G t := ⟨own_lower h.own hB, fun i hi => ⟨Nat.le_trans hB (h.row i hi).1, (h.row i hi).2⟩, h.inj⟩
theorem TabG.cell (h : TabG w B v k n G t) {i j : Nat} (hi : i < k) (hj : j < n) : w.cell? ⟨G i, j, none⟩ = some (.bool (t i j)) := (h.row i hi).2.cell hj
theorem TabG.frozen (h : TabG w B v k n G t) {i : Nat} (hi : i < k) (j : Nat) : w.frozen? ⟨G i, j, none⟩ = false := (h.row i hi).2.frozen j
theorem TabG.blk (h : TabG w B v k n G t) {i : Nat} (hi : i < k) : B ≤ G i ∧ G i < w.heap.size := ⟨(h.row i hi).1, (h.row i hi).2.lt⟩
theorem TabG.outer {g c : Nat} (h : TabG w B (.slice (some ⟨g, 0, none⟩) k c) k n G t) {i : Nat} (hi : i < k) : w.cell? ⟨g, i, none⟩ = some (.slice (some ⟨G i, 0, none⟩) n n) := by
  rw [h.own.cellAt i (by omega)]
  simp [hi]
theorem row_ne_own {e b t : Nat} {size m : Nat} {xs : List Value} {f : Nat → Value} (h : w.ownsRow B e size v m xs) (hr : w.rowIs b t n f) (hne : e ≠ t) : v.ownBlock ≠ some b := by
  rcases h.2 with ⟨rfl, _⟩ | ⟨g, cap, cur, rfl, _, hh, _⟩
  · simp [Value.ownBlock]
  · intro e
    have hgb : g = b := by simpa [Value.ownBlock] using e
    subst hgb
    obtain ⟨c, hc, _⟩ := hr
    rw [hh] at hc
    injection hc with hc
    injection hc with _ ht
    exact hne ht
/-- a store into the table -/
theorem TabG.set (h : TabG w B v k n G t) {a b : Nat} (ha : a < k) (x : Bool) : TabG (w.setCell ⟨G a, b, none⟩ (.bool x)) B v k n G (upd t a b x) := by
  have hne := row_ne_own h.own (h.row a ha).2 (by decide)
  have hg : w.grownBy (w.setCell ⟨G a, b, none⟩ (.bool x)) (some (G a)) := ⟨rfl, rfl, rfl, by simp, fun i _ hi => Below.heap_setCell w _ _ i (fun e => hi (by rw [e]))⟩
  refine ⟨h.own.kept hg (.inr hne), fun i hi => ⟨(h.row i hi).1, ?_⟩, h.inj⟩
  by_cases e : i = a
  · subst e
    exact ((h.row i hi).2.set b (.bool x)).congr fun j _ => by
      unfold upd
      by_cases hj : j = b <;> simp [hj]
  · have hG : G i ≠ G a := fun hh => e (h.inj i a hi ha hh)
    exact ((h.row i hi).2.setOther (a := ⟨G a, b, none⟩) hG _).congr fun j _ => by unfold upd; simp [e]
/-- one row more -/
theorem TabG.push {W : World} {v' : Value} (h : TabG W B v k n G (fun _ _ => false)) (hB : B ≤ W.heap.size) {o : Obj} (hg : ((W.alloc (.cells (madeCells #[.bool false] n) 4)).alloc o).grownBy w' v.ownBlock)
    (hown : w'.ownsRow B 83 1 v' (k + 1) (((List.range k).map fun i => Value.slice (some ⟨G i, 0, none⟩) n n) ++ [.slice (some ⟨W.heap.size, 0, none⟩) n n])) :
    TabG w' B v' (k + 1) n (fun i => if i < k then G i else W.heap.size) (fun _ _ => false) := by
  have h2 := (h.alloc (.cells (madeCells #[.bool false] n) 4)).alloc o
  have hnew : ((W.alloc (.cells (madeCells #[.bool false] n) 4)).alloc o).rowIs W.heap.size 4 n (fun _ => .bool false) := (World.rowIs_made W (.bool false) n 4).alloc o
  have hne : ∀ b f, ((W.alloc (.cells (madeCells #[.bool false] n) 4)).alloc o).rowIs b 4 n f → w'.rowIs b 4 n f := fun b f hr =>
    hr.of_block (hg.block b hr.lt (fun e => row_ne_own h2.own hr (by decide) e.symm))
  refine ⟨?_, fun i hi => ?_, fun i j hi hj e => ?_⟩
  · have : (List.range (k + 1)).map (fun i => Value.slice (some ⟨if i < k then G i else W.heap.size, 0, none⟩) n n) = ((List.range k).map fun i => Value.slice (some ⟨G i, 0, none⟩) n n) ++ [.slice (some ⟨W.heap.size, 0, none⟩) n n] := by
      rw [List.range_succ, List.map_append]
      congr 1
      · exact List.map_congr_left fun i hi => by simp [List.mem_range.1 hi]
      · simp
    rw [this]
    exact hown
  · by_cases hik : i < k
    · simp only [hik, if_true]
      exact ⟨(h.row i hik).1, hne _ _ (h2.row i hik).2⟩
    · simp only [hik, if_false]
      exact ⟨hB, hne _ _ hnew⟩
  · by_cases hik : i < k <;> by_cases hjk : j < k <;> simp only [hik, hjk, if_true, if_false] at e
    · exact h.inj i j hik hjk e
    · have := (h.row i hik).2.lt; omega
    · have := (h.row j hjk).2.lt; omega
    · omega
theorem TabG.nil (w : World) (B n : Nat) (G : Nat → Nat) (t : Nat → Nat → Bool) : TabG w B (.slice none 0 0) 0 n G t := ⟨World.ownsRow_nil _ _ _ _, fun i hi => by omega, fun i j hi => by omega⟩
end
theorem own_cap {w : World} {base : Nat} {e : TypeId} {size n c : Nat} {A : Option Addr} {xs : List Value} (h : w.ownsRow base e size (.slice A n c) n xs) : n ≤ c := by
  rcases h.2 with ⟨h1, h2⟩ | ⟨g, cap, cur, hv, _, _, hm, _, _⟩
  · omega
  · simp only [Value.slice.injEq] at hv
    omega
theorem own_shape {w : World} {B : Nat} {e : TypeId} {size m : Nat} {v : Value} {xs : List Value} (h : w.ownsRow B e size v m xs) : ∃ A c, v = .slice A m c ∧ m ≤ c + 0 ∧ c ≤ maxLen := by
  rcases h.2 with ⟨rfl, rfl⟩ | ⟨g, cap, cur, rfl, _, _, hm, hc, _⟩
  · exact ⟨none, 0, rfl, Nat.le_refl _, by simp [maxLen]⟩
  · exact ⟨_, cap, rfl, hm, hc⟩
/-- the one cell of a slice that was built for an append -/
theorem one_cell {w : World} {g : Nat} {v : Value} (h : w.cell? ⟨g, 0, none⟩ = some v) : ∀ j u, [v][j]? = some u → w.cell? ((⟨g, 0, none⟩ : Addr).add j) = some u := by
  intro j u hu
  match j, hu with
  | 0, hu => simp at hu; subst hu; simpa [Addr.add] using h
theorem one_one {v : Value} (h : v.oneCell' = true) : ∀ u ∈ [v], u.oneCell' = true := by
  intro u hu
  simp at hu
  subst hu
  exact h
/-- A call came back with a table. -/
def GotTab (w : World) (n : Nat) (t : Nat → Nat → Bool) (e : Ending) (w' : World) : Prop :=
  ∃ A c G, e = .returned (.slice A n c) ∧ TabG w' w.heap.size (.slice A n c) n n G t ∧ Below w.heap.size w w'
end Go.Proofs.YtnpljmipicjacaaDoor
/-
  WHETHER A NUMBER IS IN A LIST: the model's look; a list's front.
-/
namespace Go.Proofs.YtnpljmipicjacaaDoor
open Go.RowKit

theorem icells_getD {l : List Int} {j : Nat} (h : j < l.length) : (icells l)[j]? = some (.int .i64 (l.getD j 0)) := by
  simp [icells, List.getD_eq_getElem?_getD, List.getElem?_eq_getElem h]
theorem CRead.ints {w : World} {B : Nat} {A : Option Addr} {q : List Int} (h : CRead w B A (icells q)) (hq : 0 < q.length) : ∃ b off, A = some ⟨b, off, none⟩ ∧ b < B ∧ ∀ j, j < q.length → w.cell? ⟨b, off + j, none⟩ = some (.int .i64 (q.getD j 0)) := by
  obtain ⟨b, off, rfl, hb, _⟩ := h 0 _ (icells_getD hq)
  refine ⟨b, off, rfl, hb, fun j hj => ?_⟩
  obtain ⟨b', off', e, _, hc⟩ := h j _ (icells_getD hj)
  simp only [Option.some.injEq, Addr.mk.injEq, and_true] at e
  obtain ⟨rfl, rfl⟩ := e
  exact hc

theorem CRead.front {w : World} {B : Nat} {A : Option Addr} {q : List Int} (h : CRead w B A (icells q)) (k : Nat) : CRead w B A (icells (q.take k)) := fun j u hu => by
  refine h j u ?_
  unfold icells at hu ⊢
  rw [List.map_take, List.getElem?_take] at hu
  split at hu
  · exact hu
  · cases hu


/-- whether a number is in a list -/
def hasI (q : List Int) (x : Int) : Bool := q.contains x
theorem hasI_mem {q : List Int} {x : Int} : hasI q x = true ↔ x ∈ q := List.contains_iff_mem
set_option maxHeartbeats 1000000 in
theorem l1Has_any (q : List Int) (x : Int) (A : Option Addr) (c : Nat) (w : World) (hl : q.length ≤ 1048576) (hA : CRead w w.heap.size A (icells q)) :
    Calls Tryd.prog 39 #[.slice A q.length c, .int .i64 x] w fun e w' => e = .returned (.bool (hasI q x)) ∧ w = w' := by
  go_enter Tryd.func39, Tryd.ntmps39
  go_wp2
  go_loop [9] (fun i => ∃ k : Nat, k ≤ q.length ∧ i = .int .i64 k ∧ ∀ (j : Nat) (y : Int), j < k → q[j]? = some y → y ≠ x) (fun i => q.length - (intOf i).toNat)
  case atStart => exact ⟨0, Nat.zero_le _, rfl, fun j x hj => by omega⟩
  case round =>
    obtain ⟨k, hk, rfl, hg⟩ := hrel
    have Hg := Lib.hid hg
    clear hg
    by_cases hlt : k < q.length
    · obtain ⟨y, hy⟩ := getSome q k hlt
      obtain ⟨b, off, rfl, hbb, c0⟩ := hA.int hy
      have hki : (k : Int) < (q.length : Int) := by omega
      have Hy := Lib.hid hy
      clear hy
      by_cases hyx : y = x
      · subst hyx
        have He := Lib.hid (show hasI q y = true from hasI_mem.2 (List.mem_of_getElem? Hy.out))
        go_wp2
        go_ret
        exact ⟨by rw [He.out]; rfl, rfl⟩
      · go_wp2
        go_round
        case rel =>
          refine ⟨k + 1, by omega, by go_num, fun j z hj hz => ?_⟩
          by_cases hjk : j = k
          · subst hjk
            rw [Hy.out] at hz
            simp only [Option.some.injEq] at hz
            subst hz
            exact hyx
          · exact Hg.out j z (by omega) hz
        case measure => simp [intOf]; omega
    · have hkl : k = q.length := by omega
      have e : hasI q x = false := by
        rw [Bool.eq_false_iff]
        intro hc
        rw [hasI_mem] at hc
        obtain ⟨i, hi, e⟩ := List.getElem_of_mem hc
        exact Hg.out i _ (by omega) (List.getElem?_eq_getElem hi) e
      have He := Lib.hid e
      clear e
      have hge : ¬ ((k : Int) < (q.length : Int)) := by omega
      go_wp2
      go_ret
      exact ⟨by rw [He.out]; rfl, rfl⟩
end Go.Proofs.YtnpljmipicjacaaDoor
/-
  HOW MANY LISTS OF TIED PEOPLE HAVE A PERSON. Nothing here speaks of the program.
-/
namespace Go.Proofs.YtnpljmipicjacaaDoor
open Go.RowKit

theorem listsC_told (t : Nat → Nat → Bool) : ∀ (k : Nat) (told : List Int) (cs : List Nat), listsC t k told cs = (listsC t k [] cs).map (told ++ ·) := by
  intro k told cs
  induction h : k + cs.length using Nat.strongRecOn generalizing k told cs with
  | _ n ih =>
    match k, cs with
    | 0, cs => rw [listsC_zero, listsC_zero]; simp
    | k + 1, [] => rw [listsC_nil, listsC_nil]; rfl
    | k + 1, a :: cs =>
      simp only [List.length_cons] at h
      have h0 : (cs.filter (t a)).length ≤ cs.length := List.length_filter_le _ _
      rw [listsC_cons, listsC_cons, List.map_append, ih (k + (cs.filter (t a)).length) (by omega) k (told ++ [(a : Int)]) _ rfl, ih (k + 1 + cs.length) (by omega) (k + 1) told cs rfl,
        ih (k + (cs.filter (t a)).length) (by omega) k ([] ++ [(a : Int)]) _ rfl, List.map_map]
      congr 1
      refine List.map_congr_left fun x _ => ?_
      simp
theorem listsC_len (t : Nat → Nat → Bool) (k : Nat) (told : List Int) (cs : List Nat) : (listsC t k told cs).length = (listsC t k [] cs).length := by rw [listsC_told, List.length_map]
theorem listsC_size (t : Nat → Nat → Bool) : ∀ (k : Nat) (told : List Int) (cs : List Nat), ∀ l ∈ listsC t k told cs, l.length = told.length + k := by
  intro k told cs
  induction h : k + cs.length using Nat.strongRecOn generalizing k told cs with
  | _ n ih =>
    match k, cs with
    | 0, cs => rw [listsC_zero]; simp
    | k + 1, [] => rw [listsC_nil]; simp
    | k + 1, a :: cs =>
      simp only [List.length_cons] at h
      have h0 : (cs.filter (t a)).length ≤ cs.length := List.length_filter_le _ _
      rw [listsC_cons]
      intro l hl
      rcases List.mem_append.1 hl with hl | hl
      · have := ih (k + (cs.filter (t a)).length) (by omega) k _ _ rfl l hl
        simp at this
        omega
      · have := ih (k + 1 + cs.length) (by omega) (k + 1) _ _ rfl l hl
        omega
/-- whom a list has -/
theorem listsC_mem (t : Nat → Nat → Bool) : ∀ (k : Nat) (told : List Int) (cs : List Nat), ∀ l ∈ listsC t k told cs, ∀ x ∈ l, x ∈ told ∨ ∃ b ∈ cs, x = ((b : Nat) : Int) := by
  intro k told cs
  induction h : k + cs.length using Nat.strongRecOn generalizing k told cs with
  | _ n ih =>
    match k, cs with
    | 0, cs => rw [listsC_zero]; intro l hl x hx; simp at hl; subst hl; exact .inl hx
    | k + 1, [] => rw [listsC_nil]; simp
    | k + 1, a :: cs =>
      simp only [List.length_cons] at h
      have h0 : (cs.filter (t a)).length ≤ cs.length := List.length_filter_le _ _
      rw [listsC_cons]
      intro l hl x hx
      rcases List.mem_append.1 hl with hl | hl
      · rcases ih (k + (cs.filter (t a)).length) (by omega) k _ _ rfl l hl x hx with h1 | ⟨b, hb, h1⟩
        · rcases List.mem_append.1 h1 with h1 | h1
          · exact .inl h1
          · simp at h1
            exact .inr ⟨a, by simp, h1⟩
        · exact .inr ⟨b, by simp [(List.mem_filter.1 hb).1], h1⟩
      · rcases ih (k + 1 + cs.length) (by omega) (k + 1) _ _ rfl l hl x hx with h1 | ⟨b, hb, h1⟩
        · exact .inl h1
        · exact .inr ⟨b, by simp [hb], h1⟩
/-- how many lists have a person -/
def hasN (L : List (List Int)) (a : Nat) : Nat := L.countP (hasI · a)
theorem hasN_append (L M : List (List Int)) (a : Nat) : hasN (L ++ M) a = hasN L a + hasN M a := List.countP_append
theorem hasN_none {t : Nat → Nat → Bool} {k : Nat} {told : List Int} {cs : List Nat} {a : Nat} (h0 : (a : Int) ∉ told) (h : a ∉ cs) : hasN (listsC t k told cs) a = 0 := by
  refine List.countP_eq_zero.2 fun l hl hc => ?_
  rcases listsC_mem t k told cs l hl _ (hasI_mem.1 hc) with h1 | ⟨b, hb, h1⟩
  · exact h0 h1
  · have : a = b := by omega
    exact h (this ▸ hb)
theorem hasN_all {t : Nat → Nat → Bool} {k : Nat} {told : List Int} {cs : List Nat} {a : Nat} (h0 : (a : Int) ∈ told) : hasN (listsC t k told cs) a = (listsC t k told cs).length := by
  refine List.countP_eq_length.2 fun l hl => ?_
  rw [listsC_told] at hl
  obtain ⟨m, _, rfl⟩ := List.mem_map.1 hl
  exact hasI_mem.2 (List.mem_append_left _ h0)
theorem hasN_listsC {t : Nat → Nat → Bool} (hsym : ∀ i j, t i j = t j i) {a : Nat} (hirr : t a a = false) : ∀ (k : Nat) (told : List Int) (cs : List Nat),
    cs.Pairwise (· < ·) → a ∈ cs → (a : Int) ∉ told → hasN (listsC t (k + 1) told cs) a = (listsC t k [] (cs.filter (t a))).length := by
  intro k told cs
  induction h : k + cs.length using Nat.strongRecOn generalizing k told cs with
  | _ n ih =>
    intro hs ha h0
    match cs with
    | [] => simp at ha
    | x :: cs =>
      simp only [List.length_cons] at h
      obtain ⟨hx, hs'⟩ := List.pairwise_cons.1 hs
      have hl0 : (cs.filter (t x)).length ≤ cs.length := List.length_filter_le _ _
      rw [listsC_cons, hasN_append]
      by_cases e : x = a
      · subst e
        have hn : x ∉ cs := fun hc => by have := hx x hc; omega
        rw [hasN_all (by simp), hasN_none h0 hn, listsC_len, List.filter_cons_of_neg (by simp [hirr])]
        omega
      · have ha' : a ∈ cs := by rcases List.mem_cons.1 ha with h | h; exact absurd h.symm e; exact h
        have h1 : (a : Int) ∉ told ++ [(x : Int)] := by simp [h0]; omega
        rw [ih (k + cs.length) (by omega) k told cs rfl hs' ha' h0]
        match k with
        | 0 =>
          rw [listsC_zero, listsC_zero, listsC_zero]
          have : hasN [told ++ [(x : Int)]] a = 0 := List.countP_eq_zero.2 fun l hl hc => by
            simp only [List.mem_singleton] at hl
            subst hl
            exact h1 (hasI_mem.1 hc)
          rw [this]
          simp
        | k + 1 =>
          cases hxa : t x a with
          | true =>
            have hax : t a x = true := by rw [hsym, hxa]
            rw [ih (k + (cs.filter (t x)).length) (by omega) k _ _ rfl (hs'.filter _) (List.mem_filter.2 ⟨ha', hxa⟩) h1, List.filter_cons_of_pos hax, listsC_cons, List.length_append, listsC_len t k ([] ++ [(x : Int)])]
            congr 2
            rw [List.filter_filter, List.filter_filter]
            congr 1
            exact List.filter_congr fun b _ => Bool.and_comm _ _
          | false =>
            have hax : ¬ t a x = true := by rw [hsym, hxa]; simp
            rw [hasN_none h1 (fun hc => by have := (List.mem_filter.1 hc).2; simp [hxa] at this), List.filter_cons_of_neg hax]
            omega
end Go.Proofs.YtnpljmipicjacaaDoor
/-
  WAYS TO CHOOSE: the program's 'waysToChoose' and the model's 'trChoose', by their contracts; 'GroupBound', 'LeastMustHave', 'LeastOneKind'.
-/
namespace Go.Proofs.YtnpljmipicjacaaDoor
open Go.RowKit

/-- the product of the first steps, as the program takes them -/
def waysI (n : Int) : Nat → Int
  | 0 => 1
  | i + 1 => (waysI n i * (n - i)).tdiv (i + 1)
/-- as the model takes them -/
def stepsI (n k : Int) : Nat → Int
  | 0 => 1
  | i + 1 => (stepsI n k i * (n - k + (i + 1))).tdiv (i + 1)
def InWays (n : Int) (k : Nat) : Prop := (0 ≤ n ∧ n ≤ 12 ∧ k ≤ 12) ∨ (0 ≤ n ∧ n ≤ 132 ∧ k ≤ 2)
theorem waysI_all : (∀ n : Fin 13, ∀ k : Fin 13, 0 ≤ waysI (n.val : Int) k.val ∧ waysI (n.val : Int) k.val ≤ 10000) ∧ (∀ n : Fin 133, ∀ k : Fin 3, 0 ≤ waysI (n.val : Int) k.val ∧ waysI (n.val : Int) k.val ≤ 10000) := by
  constructor <;> decide +kernel
theorem waysI_bound {n : Int} {k : Nat} (h : InWays n k) : 0 ≤ waysI n k ∧ waysI n k ≤ 10000 := by
  rcases h with ⟨h0, h1, h2⟩ | ⟨h0, h1, h2⟩
  · have := waysI_all.1 ⟨n.toNat, by omega⟩ ⟨k, by omega⟩
    rwa [show ((n.toNat : Nat) : Int) = n from by omega] at this
  · have := waysI_all.2 ⟨n.toNat, by omega⟩ ⟨k, by omega⟩
    rwa [show ((n.toNat : Nat) : Int) = n from by omega] at this
theorem InWays.less {n : Int} {k i : Nat} (h : InWays n k) (hi : i ≤ k) : InWays n i := by unfold InWays at *; omega
theorem stepsI_all : (∀ n : Fin 13, ∀ k : Fin 13, k.val ≤ n.val → ∀ i : Fin 13, i.val ≤ k.val → 0 ≤ stepsI (n.val : Int) (k.val : Int) i.val ∧ stepsI (n.val : Int) (k.val : Int) i.val ≤ 10000) ∧ (∀ n : Fin 133, ∀ k : Fin 3, k.val ≤ n.val → ∀ i : Fin 3, i.val ≤ k.val → 0 ≤ stepsI (n.val : Int) (k.val : Int) i.val ∧ stepsI (n.val : Int) (k.val : Int) i.val ≤ 10000) := by
  constructor <;> decide +kernel
theorem stepsI_bound {n : Int} {k i : Nat} (h : InWays n k) (hk : (k : Int) ≤ n) (hi : i ≤ k) : 0 ≤ stepsI n k i ∧ stepsI n k i ≤ 10000 := by
  rcases h with ⟨h0, h1, h2⟩ | ⟨h0, h1, h2⟩
  · have := stepsI_all.1 ⟨n.toNat, by omega⟩ ⟨k, by omega⟩ (by show k ≤ n.toNat; omega) ⟨i, by omega⟩ hi
    rwa [show ((n.toNat : Nat) : Int) = n from by omega] at this
  · have := stepsI_all.2 ⟨n.toNat, by omega⟩ ⟨k, by omega⟩ (by show k ≤ n.toNat; omega) ⟨i, by omega⟩ hi
    rwa [show ((n.toNat : Nat) : Int) = n from by omega] at this
theorem ways_steps_all : (∀ n : Fin 13, ∀ k : Fin 13, waysI (n.val : Int) k.val = if k.val > n.val then 0 else stepsI (n.val : Int) (k.val : Int) k.val) ∧ (∀ n : Fin 133, ∀ k : Fin 3, waysI (n.val : Int) k.val = if k.val > n.val then 0 else stepsI (n.val : Int) (k.val : Int) k.val) := by
  constructor <;> decide +kernel
theorem ways_steps {n : Int} {k : Nat} (h : InWays n k) : waysI n k = if (k : Int) > n then 0 else stepsI n k k := by
  rcases h with ⟨h0, h1, h2⟩ | ⟨h0, h1, h2⟩
  · have := ways_steps_all.1 ⟨n.toNat, by omega⟩ ⟨k, by omega⟩
    rw [show ((n.toNat : Nat) : Int) = n from by omega] at this
    rw [this]
    by_cases hk : k > n.toNat
    · rw [if_pos hk, if_pos (by omega)]
    · rw [if_neg hk, if_neg (by omega)]
  · have := ways_steps_all.2 ⟨n.toNat, by omega⟩ ⟨k, by omega⟩
    rw [show ((n.toNat : Nat) : Int) = n from by omega] at this
    rw [this]
    by_cases hk : k > n.toNat
    · rw [if_pos hk, if_pos (by omega)]
    · rw [if_neg hk, if_neg (by omega)]
/-- what a step's product is within -/
theorem mul_within {a b : Int} (ha : 0 ≤ a ∧ a ≤ 10000) (hb : -200 ≤ b ∧ b ≤ 200) : -2000000 ≤ a * b ∧ a * b ≤ 2000000 := by
  constructor
  · have h1 : a * (-200) ≤ a * b := Int.mul_le_mul_of_nonneg_left hb.1 ha.1
    omega
  · have h1 : a * b ≤ a * 200 := Int.mul_le_mul_of_nonneg_left hb.2 ha.1
    omega
theorem wrap_small {x : Int} (h : -9223372036854775808 ≤ x ∧ x ≤ 9223372036854775807) : IntKind.i64.wrap x = x := by simp [IntKind.wrap, IntKind.bits, IntKind.signed]; omega

set_option maxHeartbeats 1000000 in
set_option maxRecDepth 100000 in
theorem waysToChoose_any (n : Int) (k : Nat) (w : World) (h : InWays n k) :
    Calls Tryd.prog 56 #[.int .i64 n, .int .i64 k] w fun e w' => e = .returned (.int .i64 (waysI n k)) ∧ w = w' := by
  have hk12 : k ≤ 12 := by unfold InWays at h; omega
  have hn0 : 0 ≤ n ∧ n ≤ 132 := by unfold InWays at h; omega
  obtain ⟨hn0, hn1⟩ := hn0
  have H := Lib.hid h
  clear h
  go_enter Tryd.func56, Tryd.ntmps56
  go_wp2
  go_loop [5, 8] (fun v i => ∃ (j : Nat) (u : Int), j ≤ k ∧ i = .int .i64 j ∧ v = .int .i64 u ∧ u = waysI n j) (fun _ i => k - (intOf i).toNat)
  case atStart => exact ⟨0, 1, Nat.zero_le _, rfl, rfl, rfl⟩
  case round =>
    obtain ⟨j, u, hj, rfl, rfl, hu⟩ := hrel
    have hub := waysI_bound (H.out.less hj)
    rw [← hu] at hub
    obtain ⟨hu0, hu1⟩ := hub
    have Hu := Lib.hid hu
    by_cases hlt : j < k
    · have hnx := waysI_bound (H.out.less hlt)
      have e : waysI n (j + 1) = (u * (n - j)).tdiv ((j : Int) + 1) := by rw [hu]; rfl
      rw [e] at hnx
      have He := Lib.hid e
      obtain ⟨hm0, hm1⟩ := mul_within (a := u) (b := n - j) ⟨hu0, hu1⟩ (by omega)
      have hw1 : IntKind.i64.wrap (u * (n - j)) = u * (n - j) := wrap_small (by omega)
      have hw2 : IntKind.i64.wrap ((u * (n - j)).tdiv ((j : Int) + 1)) = (u * (n - j)).tdiv ((j : Int) + 1) := wrap_small (by omega)
      have hji : (j : Int) < (k : Int) := by omega
      have hj1 : ¬ ((j : Int) + 1 = 0) := by omega
      clear hu e hnx
      go_wp2
      go_round
      case rel => exact ⟨j + 1, _, by omega, by go_num, rfl, He.out.symm⟩
      case measure => simp [intOf]; omega
    · have hjk : j = k := by omega
      have hge : ¬ ((j : Int) < (k : Int)) := by omega
      clear hu
      go_wp2
      go_ret
      exact ⟨by rw [Hu.out, hjk]; rfl, rfl⟩

end Go.Proofs.YtnpljmipicjacaaDoor
/-
  TRIPLES COUNTED, as plain lists. Nothing here speaks of the program.
-/
namespace Go.Proofs.YtnpljmipicjacaaDoor
open Go.RowKit

def cnt2 (Q : Nat → Nat → Bool) : List Nat → Nat
  | [] => 0
  | b :: cs => cs.countP (Q b) + cnt2 Q cs
def cnt3 (P : Nat → Nat → Nat → Bool) : List Nat → Nat
  | [] => 0
  | a :: cs => cnt2 (P a) cs + cnt3 P cs
/-- how many of three pairs are tied -/
def tri (t : Nat → Nat → Bool) (a b c : Nat) : Nat := (if t a b then 1 else 0) + (if t a c then 1 else 0) + (if t b c then 1 else 0)
def triB (t : Nat → Nat → Bool) (i a b c : Nat) : Bool := decide (tri t a b c = i)
theorem lists1 (t : Nat → Nat → Bool) (told : List Int) (cs : List Nat) : (listsC t 1 told cs).length = cs.length := by
  induction cs with
  | nil => rw [listsC_nil]; rfl
  | cons a cs ih => rw [listsC_cons, listsC_zero, List.length_append, ih]; simp; omega
theorem lists2 (t : Nat → Nat → Bool) (told : List Int) (cs : List Nat) : (listsC t 2 told cs).length = cnt2 t cs := by
  induction cs with
  | nil => rw [listsC_nil]; rfl
  | cons a cs ih => rw [listsC_cons, List.length_append, lists1, ih, cnt2, List.countP_eq_length_filter]
theorem cnt2_filter (p : Nat → Bool) (Q : Nat → Nat → Bool) (cs : List Nat) : cnt2 Q (cs.filter p) = cnt2 (fun b c => p b && p c && Q b c) cs := by
  induction cs with
  | nil => rfl
  | cons b cs ih =>
    rw [cnt2]
    cases hp : p b with
    | true =>
      rw [List.filter_cons_of_pos hp, cnt2, ih, List.countP_filter]
      congr 1
      exact List.countP_congr fun c _ => by simp [hp, Bool.and_comm]
    | false =>
      rw [List.filter_cons_of_neg (by simp [hp]), ih]
      have : cs.countP (fun c => p b && p c && Q b c) = 0 := List.countP_eq_zero.2 fun c _ => by simp [hp]
      simp only [hp] at this ⊢
      omega
theorem lists3 (t : Nat → Nat → Bool) (told : List Int) (cs : List Nat) : (listsC t 3 told cs).length = cnt3 (triB t 3) cs := by
  induction cs with
  | nil => rw [listsC_nil]; rfl
  | cons a cs ih =>
    rw [listsC_cons, List.length_append, lists2, ih, cnt3, cnt2_filter]
    congr 1
    congr 1
    funext b c
    unfold triB tri
    cases t a b <;> cases t a c <;> cases t b c <;> rfl
theorem cnt2_sum (Q0 Q1 Q2 Q3 : Nat → Nat → Bool) (h : ∀ b c, (if Q0 b c then 1 else 0) + (if Q1 b c then 1 else 0) + (if Q2 b c then 1 else 0) + (if Q3 b c then 1 else 0) = 1) (cs : List Nat) :
    cnt2 Q0 cs + cnt2 Q1 cs + cnt2 Q2 cs + cnt2 Q3 cs = cnt2 (fun _ _ => true) cs := by
  induction cs with
  | nil => rfl
  | cons b cs ih =>
    simp only [cnt2]
    have : cs.countP (Q0 b) + cs.countP (Q1 b) + cs.countP (Q2 b) + cs.countP (Q3 b) = cs.countP (fun _ => true) := by
      clear ih
      induction cs with
      | nil => rfl
      | cons c cs ih2 =>
        simp only [List.countP_cons]
        have := h b c
        simp only [if_true]
        omega
    omega
theorem cnt3_sum (t : Nat → Nat → Bool) (cs : List Nat) : cnt3 (triB t 0) cs + cnt3 (triB t 1) cs + cnt3 (triB t 2) cs + cnt3 (triB t 3) cs = cnt3 (fun _ _ _ => true) cs := by
  induction cs with
  | nil => rfl
  | cons a cs ih =>
    simp only [cnt3]
    have := cnt2_sum (triB t 0 a) (triB t 1 a) (triB t 2 a) (triB t 3 a) (fun b c => by
      unfold triB tri
      cases t a b <;> cases t a c <;> cases t b c <;> rfl) cs
    omega
theorem cnt3_ways : ∀ n : Fin 13, ((cnt3 (fun _ _ _ => true) (List.range n.val) : Nat) : Int) = waysI (n.val : Int) 3 := by decide
end Go.Proofs.YtnpljmipicjacaaDoor
/-
  A RANGE OVER AN ITERATOR THAT WRITES CELLS OF ITS OWN BETWEEN TWO ROUNDS (and whose rounds read them): the contract of such an iterator ('Seq'), and the law of the statement. Nothing here speaks of the program.
-/
namespace Go.Proofs.YtnpljmipicjacaaDoor
open Go.RowKit

/-- What lay is as it lay, but for blocks of S. -/
structure Apart (S : Nat → Prop) (A C : World) : Prop where
  below : Below 0 A C
  same : ∀ j, j < A.heap.size → ¬ S j → C.heap[j]? = A.heap[j]?
/-- The blocks of S are as they were. -/
structure Stays (S : Nat → Prop) (A C : World) : Prop where
  below : Below 0 A C
  same : ∀ j, j < A.heap.size → S j → C.heap[j]? = A.heap[j]?
theorem Apart.refl (S : Nat → Prop) (A : World) : Apart S A A := ⟨Below.refl _ _, fun _ _ _ => rfl⟩
theorem Apart.mono {S S' : Nat → Prop} {A C : World} (h : Apart S A C) (hS : ∀ j, S j → S' j) : Apart S' A C := ⟨h.below, fun j hj hn => h.same j hj fun hs => hn (hS j hs)⟩
theorem Stays.mono {S S' : Nat → Prop} {A C : World} (h : Stays S A C) (hS : ∀ j, S' j → S j) : Stays S' A C := ⟨h.below, fun j hj hs => h.same j hj (hS j hs)⟩
theorem Stays.refl (S : Nat → Prop) (A : World) : Stays S A A := ⟨Below.refl _ _, fun _ _ _ => rfl⟩
theorem Stays.trans {S : Nat → Prop} {A C D : World} (h : Stays S A C) (k : Stays S C D) : Stays S A D :=
  ⟨h.below.trans k.below, fun j hj hs => (k.same j (Nat.lt_of_lt_of_le hj h.below.size) hs).trans (h.same j hj hs)⟩
theorem Apart.trans {S S' : Nat → Prop} {A C D : World} (h : Apart S A C) (k : Apart S' C D) (hS : ∀ j, S' j → S j ∨ A.heap.size ≤ j) : Apart S A D :=
  ⟨h.below.trans k.below, fun j hj hn => (k.same j (Nat.lt_of_lt_of_le hj h.below.size) (fun hs => by rcases hS j hs with h' | h'; exact hn h'; omega)).trans (h.same j hj hn)⟩
theorem Apart.putObj (W : World) (l : Nat) (o : Obj) : Apart (fun j => j = l) W (W.putObj l o) :=
  ⟨(Below.refl 0 W).grown (grownBy_putObj' W l o) (Nat.zero_le _) (fun k _ => Nat.zero_le k), fun _ _ hn => World.putObj_heap_other hn⟩
theorem Apart.alloc (S : Nat → Prop) (W : World) (o : Obj) : Apart S W (W.alloc o) := ⟨(Below.refl 0 W).alloc (Nat.zero_le _) o, fun j hj _ => Below.heap_alloc W o j hj⟩
theorem Stays.alloc (S : Nat → Prop) (W : World) (o : Obj) : Stays S W (W.alloc o) := ⟨(Below.refl 0 W).alloc (Nat.zero_le _) o, fun j hj _ => Below.heap_alloc W o j hj⟩
theorem Stays.putObj {S : Nat → Prop} {l : Nat} (hl : ¬ S l) (W : World) (o : Obj) : Stays S W (W.putObj l o) :=
  ⟨(Below.refl 0 W).grown (grownBy_putObj' W l o) (Nat.zero_le _) (fun k _ => Nat.zero_le k), fun _ _ hs => World.putObj_heap_other fun e => hl (e ▸ hs)⟩
theorem Stays.setCell {S : Nat → Prop} {p : Addr} (hl : ¬ S p.block) (W : World) (u : Value) : Stays S W (W.setCell p u) :=
  ⟨(Below.refl 0 W).setCell (Nat.zero_le _) u, fun j _ hs => Below.heap_setCell W p u j fun e => hl (e ▸ hs)⟩
theorem Apart.grown {S : Nat → Prop} {W W' : World} {row : Option Nat} (hg : W.grownBy W' row) (h : ∀ k, row = some k → S k) : Apart S W W' :=
  ⟨(Below.refl 0 W).grown hg (Nat.zero_le _) (fun k _ => Nat.zero_le k), fun j hj hn => hg.block j hj fun e => hn (h j e.symm)⟩
theorem Stays.grown {S : Nat → Prop} {W W' : World} {row : Option Nat} (hg : W.grownBy W' row) (h : ∀ k, row = some k → ¬ S k) : Stays S W W' :=
  ⟨(Below.refl 0 W).grown hg (Nat.zero_le _) (fun k _ => Nat.zero_le k), fun j hj hs => hg.block j hj fun e => h j e.symm hs⟩
theorem Stays.of_below {S : Nat → Prop} {W W' : World} (h : Below W.heap.size W W') : Stays S W W' := ⟨h.mono (Nat.zero_le _), fun j hj _ => h.block j hj⟩
theorem Apart.of_below {S : Nat → Prop} {W W' : World} (h : Below W.heap.size W W') : Apart S W W' := ⟨h.mono (Nat.zero_le _), fun j hj _ => h.block j hj⟩
theorem Apart.cell {S : Nat → Prop} {A C : World} (h : Apart S A C) {p : Addr} {v : Value} (hc : A.cell? p = some v) (hn : ¬ S p.block) : C.cell? p = some v :=
  (World.cell?_of_block (h.same p.block (World.block_lt_of_cell? A p hc) hn)).trans hc
theorem Apart.frozen {S : Nat → Prop} {A C : World} (h : Apart S A C) {p : Addr} {v : Value} (hc : A.cell? p = some v) (hn : ¬ S p.block) : C.frozen? p = A.frozen? p :=
  World.frozen?_of_block (h.same p.block (World.block_lt_of_cell? A p hc) hn)
theorem Stays.cell {S : Nat → Prop} {A C : World} (h : Stays S A C) {p : Addr} {v : Value} (hc : A.cell? p = some v) (hn : S p.block) : C.cell? p = some v :=
  (World.cell?_of_block (h.same p.block (World.block_lt_of_cell? A p hc) hn)).trans hc
theorem Apart.below_of {S : Nat → Prop} {A C : World} (h : Apart S A C) {B : Nat} (hB : B ≤ A.heap.size) (hS : ∀ j, S j → B ≤ j) : Below B A C :=
  ⟨h.below.os, h.below.tape, h.below.output, h.below.size, fun k hk => h.same k (by omega) fun hs => by have := hS k hs; omega⟩

theorem roundIn_any {m m' : Nat} {P : Program} {l : Nat} {f : FuncId} {tmps : Array Value} {assign body : Code} {w : World} {R : Ending → World → Prop}
    (h : RoundIn Fence.wide m P l f tmps assign body w R) : RoundIn Fence.wide m' P l f tmps assign body w R := ⟨h.1, fun c cs _ => h.2 c cs (room_wide _)⟩
theorem yield_any {m m' : Nat} {P : Program} {l : Nat} {args : Array Value} {W : World} {R : Ending → World → Prop} (h : YieldAt Fence.wide m P l args W R) : YieldAt Fence.wide m' P l args W R := by
  obtain ⟨fn, tmps, assign, body, hy, hR⟩ := h
  exact ⟨fn, tmps, assign, body, hy, roundIn_any hR⟩

/-- What is held between two rounds abides whatever turns blocks that are not the holder's own. -/
def Held {α : Type} (J : (Nat → Prop) → List α → World → Prop) : Prop :=
  ∀ T T' pre A C, J T pre A → Apart T A C → (∀ j, T' j → T j ∨ A.heap.size ≤ j) → J T' pre C

/-- THE ITERATOR's CONTRACT: all of xs come, one after the other; or a round has said 'no more' behind some of them. 'Rd T x args W': what a round is handed, and what it may read of the iterator's own blocks T; R: other blocks that a round keeps. -/
def Seq {α : Type} (P : Program) (g : Nat) (lb : Array Value) (R : Nat → Prop) (Rd : (Nat → Prop) → α → Array Value → World → Prop) (xs : List α) (w0 : World) : Prop :=
  ∀ (l : Nat) (J Jx : (Nat → Prop) → List α → World → Prop) (W : World), Below w0.heap.size w0 W → Held J →
    (∀ T pre x args W1, J T pre W1 → Rd T x args W1 → YieldAt Fence.wide 0 P l args W1 fun e W' =>
      (e = .returned (.bool true) ∧ J T (pre ++ [x]) W' ∧ Stays (fun j => T j ∨ R j) W1 W') ∨ (e = .returned (.bool false) ∧ Jx T (pre ++ [x]) W')) →
    J (fun _ => False) [] W →
    Calls P g (#[.func (.yield l) #[] #[]] ++ lb) W fun e W' => (∃ v, e = .returned v) ∧ ((∃ T, J T xs W') ∨ (∃ T pre x, pre ++ [x] <+: xs ∧ Jx T (pre ++ [x]) W'))

/-- HOW THE BODY OF A ROUND MAY BE LEFT. -/
def iterPost {α : Type} (B : Nat) (S R : Nat → Prop) (I : (Nat → Prop) → List α → World → Prop) (Ix : Code → List α → World → Prop) (xs : List α) (W : World) : Exit → Act → World → Prop
  | .normal, _, W' => Stays (fun j => S j ∨ R j) W W' ∧ I S xs W'
  | .ret, _, W' => Stays (fun j => B ≤ j ∧ j ≤ B + 1) W W' ∧ Ix .ret xs W'
  | .exit id, _, W' => Stays (fun j => B ≤ j ∧ j ≤ B + 1) W W' ∧ Ix (.exit id) xs W'
  | .goto t, _, W' => Stays (fun j => B ≤ j ∧ j ≤ B + 1) W W' ∧ Ix (.goto t) xs W'
  | .panic _, _, _ => False
  | .outgrown, _, _ => False

variable {P : Program}
theorem wpIn_rangeFunc_iter {α : Type} {n : Nat} {g : Operand} {ps : Array Tmp} {assign body : Code} {Q : Exit → Act → World → Prop} {a : Act} {w : World}
    {gf : Nat} {lb : Array Value} (hg : a.eval g = .func (.func gf) #[] lb) (eg : ∀ args w, (callFunc gf args).run P w = .ok (.enter gf args) w)
    {R : Nat → Prop} {Rd : (Nat → Prop) → α → Array Value → World → Prop} {xs : List α} {w0 : World} (hseq : Seq P gf lb R Rd xs w0) (hb0 : Below w0.heap.size w0 w) (hR : ∀ j, R j → j < w.heap.size)
    (hRd : ∀ T x args A C, Rd T x args A → Stays T A C → Rd T x args C) (hps : ∀ T x args W, Rd T x args W → args.size = ps.size)
    (I : (Nat → Prop) → List α → World → Prop) (Ix : Code → List α → World → Prop) (hI : Held I) (hIx : ∀ c pre A C, Ix c pre A → Apart (fun j => j = w.heap.size + 1) A C → Ix c pre C)
    (h0 : I (fun _ => False) [] w) (a₁ : Array Value → Act)
    (hassign : ∀ (l : Nat) (T : Nat → Prop) (x : α) (args : Array Value) (W : World) (K : Act → World → Prop), Rd T x args W → K (a₁ args) W →
      assign.wpIn (Fence.wide.inRound l) n P (Exit.then K (fun _ _ _ => False)) { tmps := (ps.zip args).foldl (fun t (p, v) => t.setIfInBounds p v) a.tmps, defers := [] } W)
    (hbody : ∀ (l : Nat) (T S : Nat → Prop) (pre : List α) (x : α) (args : Array Value) (W : World), I S pre W → Rd T x args W → (∀ j, T j → S j) →
      body.wpIn (Fence.wide.inRound l) n P (iterPost w.heap.size S R I Ix (pre ++ [x]) W) (a₁ args) W)
    (hdone : ∀ (S : Nat → Prop) (W : World), I S xs W → W.heap[w.heap.size]? = some (.deferred (some [])) → Q .normal { a with defers := { target := .collected w.heap.size, args := #[] } :: a.defers } W)
    (hstop : ∀ (c : Code) (pre : List α) (x : α) (W : World), pre ++ [x] <+: xs → Ix c (pre ++ [x]) W → W.heap[w.heap.size]? = some (.deferred (some [])) → c.wpIn Fence.wide n P Q { a with defers := { target := .collected w.heap.size, args := #[] } :: a.defers } W) :
    (Code.rangeFunc g ps assign body).wpIn Fence.wide n P Q a w := by
  refine wpIn_rangeFunc ?_
  intro fn hfn
  rw [show Fence.wide.round = none from rfl]
  obtain ⟨rec, hrec⟩ : ∃ rec : LoopState → Option Code → Loop, rec = fun st pe => { state := st, pending := pe, fn, tmps := a.tmps, params := ps, assign, body, defers := w.heap.size } := ⟨_, rfl⟩
  obtain ⟨W1, hW1⟩ : ∃ W1, (w.alloc (.deferred (some []))).alloc (.loop (rec .ready none)) = W1 := ⟨_, rfl⟩
  have hL1 : W1.heap[w.heap.size + 1]? = some (.loop (rec .ready none)) := by
    rw [← hW1]; have := World.alloc_heap_new (w.alloc (.deferred (some []))) (.loop (rec .ready none)); rwa [World.size_alloc] at this
  have hK1 : W1.heap[w.heap.size]? = some (.deferred (some [])) := by
    rw [← hW1]; exact (Below.heap_alloc _ _ _ (by simp)).trans (World.alloc_heap_new w _)
  have hw1 : Below w.heap.size w W1 := by rw [← hW1]; exact (((Below.refl _ w).alloc (Nat.le_refl _) _).alloc (by simp) _)
  have hb1 : Below w0.heap.size w0 W1 := hb0.trans (hw1.mono hb0.size)
  have hI1 : I (fun j => j = w.heap.size ∨ j = w.heap.size + 1) [] W1 := hI _ _ _ _ _ h0 (Apart.of_below hw1) (fun j hj => .inr (by omega))
  refine ⟨w.heap.size + 1, [{ target := .collected w.heap.size, args := #[] }], W1, { target := .fn (.func gf) lb, args := #[.func (.yield (w.heap.size + 1)) #[] #[]] }, W1, gf,
    #[.func (.yield (w.heap.size + 1)) #[] #[]] ++ lb, W1, ?_, ?_, ?_, ?_, fun h => (by cases h), ?_⟩
  · rw [← hW1, hrec]; exact run_enterLoop_outer _ _ _ _ _
  · simp only [resolve, hg]
    simp [go_sem]
  · intro f' hf'; trivial
  · simp [invoke, go_sem, eg]
  · refine callsIn_wide.2 ?_
    refine (hseq (w.heap.size + 1)
      (fun T pre W => I (fun j => T j ∨ j = w.heap.size ∨ j = w.heap.size + 1) pre W ∧ (∀ j, T j → w.heap.size + 2 ≤ j) ∧ W.heap[w.heap.size + 1]? = some (.loop (rec .ready none)) ∧ W.heap[w.heap.size]? = some (.deferred (some [])))
      (fun T pre W => ∃ c, Ix c pre W ∧ W.heap[w.heap.size + 1]? = some (.loop (rec .done (some c))) ∧ W.heap[w.heap.size]? = some (.deferred (some [])))
      W1 hb1 ?held ?round ⟨hI _ _ _ _ _ hI1 (Apart.refl _ _) (fun j hj => by rcases hj with h | h; exact h.elim; exact .inl h), fun j h => h.elim, hL1, hK1⟩).mono ?_
    case held =>
      rintro T T' pre A C ⟨hi, hT, hl, hk⟩ hA hT'
      have hlt : w.heap.size + 1 < A.heap.size := (Array.getElem?_eq_some_iff.1 hl).1
      refine ⟨hI _ _ _ _ _ hi (hA.mono fun j hj => .inl hj) (fun j hj => ?_), fun j hj => ?_, (hA.same _ hlt (fun h => by have := hT _ h; omega)).trans hl, (hA.same _ (by omega) (fun h => by have := hT _ h; omega)).trans hk⟩
      · rcases hj with hj | hj
        · rcases hT' j hj with h | h
          · exact .inl (.inl h)
          · exact .inr h
        · exact .inl (.inr hj)
      · rcases hT' j hj with h | h
        · exact hT j h
        · omega
    case round =>
      rintro T pre x args W ⟨hi, hT, hl, hk⟩ hrd
      have hlt : w.heap.size + 1 < W.heap.size := (Array.getElem?_eq_some_iff.1 hl).1
      have hnT : ¬ T (w.heap.size + 1) := fun h => by have := hT _ h; omega
      have hnR : ¬ (T (w.heap.size + 1) ∨ R (w.heap.size + 1)) := fun h => by rcases h with h | h; exact hnT h; have := hR _ h; omega
      have hy := run_yield (P := P) (args := args) hl (by rw [hrec]; exact hps T x args W hrd)
      rw [hrec] at hy
      refine yield_any (m := n + 1) ⟨fn, _, assign, body, hy, roundIn_any (m := n) (roundIn_of_wpIn hfn (hassign _ T x args W _ hrd ⟨_, run_beginRound hl (by rw [hrec]), ?_⟩))⟩
      have hl2 : (W.putObj (w.heap.size + 1) (.loop { rec .ready none with state := .busy })).heap[w.heap.size + 1]? = some (.loop { rec .ready none with state := .busy }) := World.putObj_heap_same hlt
      have hk2 : (W.putObj (w.heap.size + 1) (.loop { rec .ready none with state := .busy })).heap[w.heap.size]? = some (.deferred (some [])) := (World.putObj_heap_other (by omega)).trans hk
      have hi2 := hI _ _ _ _ _ hi ((Apart.putObj W (w.heap.size + 1) (.loop { rec .ready none with state := .busy })).mono fun j hj => .inr (.inr hj)) (fun j hj => .inl hj)
      have hst := Stays.putObj (S := fun j => T j ∨ R j) hnR W (.loop { rec .ready none with state := .busy })
      have hlz := (Array.getElem?_eq_some_iff.1 hl2).1
      have hkz := (Array.getElem?_eq_some_iff.1 hk2).1
      refine wpIn_mono (hbody _ T _ pre x args _ hi2 (hRd _ _ _ _ _ hrd (hst.mono fun j hj => .inl hj)) fun j hj => .inl hj) ?_
      have fin : ∀ (jump : Option Code) (W3 : World), W3.heap[w.heap.size + 1]? = some (.loop { rec .ready none with state := .busy }) → W3.heap[w.heap.size]? = some (.deferred (some [])) →
          (Instr.endRound (w.heap.size + 1) jump).run P W3 = .ok (.bool jump.isNone) (W3.putObj (w.heap.size + 1) (.loop (rec (if jump.isNone then .ready else .done) jump))) ∧
          (W3.putObj (w.heap.size + 1) (.loop (rec (if jump.isNone then .ready else .done) jump))).heap[w.heap.size + 1]? = some (.loop (rec (if jump.isNone then .ready else .done) jump)) ∧
          (W3.putObj (w.heap.size + 1) (.loop (rec (if jump.isNone then .ready else .done) jump))).heap[w.heap.size]? = some (.deferred (some [])) := fun jump W3 hl3 hk3 => by
        have := run_endRound (P := P) jump hl3
        rw [hrec] at this ⊢
        exact ⟨this, World.putObj_heap_same (Array.getElem?_eq_some_iff.1 hl3).1, (World.putObj_heap_other (by omega)).trans hk3⟩
      rintro e a3 W3 hp
      cases e with
      | normal =>
        obtain ⟨hs3, hi3⟩ := hp
        have hl3 := (hs3.same (w.heap.size + 1) hlz (.inl (.inr (.inr rfl)))).trans hl2
        have hk3 := (hs3.same w.heap.size hkz (.inl (.inr (.inl rfl)))).trans hk2
        obtain ⟨hr, hl4, hk4⟩ := fin none W3 hl3 hk3
        refine ⟨_, _, hr, .inl ⟨rfl, ⟨hI _ _ _ _ _ hi3 ((Apart.putObj W3 _ _).mono fun j hj => .inr (.inr hj)) (fun j hj => .inl hj), hT, hl4, hk4⟩, ?_⟩⟩
        exact (hst.trans (hs3.mono fun j hj => hj.elim (fun h => .inl (.inl h)) .inr)).trans (Stays.putObj (S := fun j => T j ∨ R j) hnR W3 _)
      | ret =>
        obtain ⟨hs3, hi3⟩ := hp
        obtain ⟨hr, hl4, hk4⟩ := fin (some .ret) W3 ((hs3.same (w.heap.size + 1) hlz (by omega)).trans hl2) ((hs3.same w.heap.size hkz (by omega)).trans hk2)
        exact ⟨_, _, hr, .inr ⟨rfl, .ret, hIx _ _ _ _ hi3 (Apart.putObj W3 _ _), hl4, hk4⟩⟩
      | exit id =>
        obtain ⟨hs3, hi3⟩ := hp
        obtain ⟨hr, hl4, hk4⟩ := fin (some (.exit id)) W3 ((hs3.same (w.heap.size + 1) hlz (by omega)).trans hl2) ((hs3.same w.heap.size hkz (by omega)).trans hk2)
        exact ⟨_, _, hr, .inr ⟨rfl, .exit id, hIx _ _ _ _ hi3 (Apart.putObj W3 _ _), hl4, hk4⟩⟩
      | goto t =>
        obtain ⟨hs3, hi3⟩ := hp
        obtain ⟨hr, hl4, hk4⟩ := fin (some (.goto t)) W3 ((hs3.same (w.heap.size + 1) hlz (by omega)).trans hl2) ((hs3.same w.heap.size hkz (by omega)).trans hk2)
        exact ⟨_, _, hr, .inr ⟨rfl, .goto t, hIx _ _ _ _ hi3 (Apart.putObj W3 _ _), hl4, hk4⟩⟩
      | panic ch => exact hp.elim
      | outgrown => exact hp.elim
    · rintro e W2 ⟨⟨v, rfl⟩, (⟨T, hi, hT, hl, hk⟩ | ⟨T, pre, x, hpre, c, hi, hl, hk⟩)⟩
      · exact ⟨none, _, by have := run_endLoop (P := P) hl (by rw [hrec]; simp); rw [hrec] at this; exact this, hdone _ _ (hI _ _ _ _ _ hi ((Apart.putObj W2 _ _).mono fun j hj => .inr (.inr hj)) (fun j hj => .inl hj)) ((World.putObj_heap_other (by omega)).trans hk)⟩
      · exact ⟨some c, _, by have := run_endLoop (P := P) hl (by rw [hrec]; simp); rw [hrec] at this; exact this, hstop c pre x _ hpre (hIx _ _ _ _ hi (Apart.putObj W2 _ _)) ((World.putObj_heap_other (by omega)).trans hk)⟩
end Go.Proofs.YtnpljmipicjacaaDoor
/-
  A LIST OF NUMBERS THAT GROWS BY ONE WHILE THE SHORTER ONE IS STILL READ: 'append(told, a)' at a step of a region that draws its order.
-/
namespace Go.Proofs.YtnpljmipicjacaaDoor
open Go.RowKit

/-- a list of numbers in a block of its own, which may have room behind -/
abbrev World.told (w : World) (A : Option Addr) (c : Nat) (l : List Int) : Prop := w.ownsRow 0 3 1 (.slice A l.length c) l.length (icells l)
/-- one more: the shorter list still stands; the longer lies in its block or in a new one -/
structure Grew (w w' : World) (A A' : Option Addr) (c c' : Nat) (l : List Int) (x : Int) : Prop where
  new : World.told w' A' c' (l ++ [x])
  old : World.told w' A c l
  grow : w.grownBy w' (Value.slice A l.length c).ownBlock
  same : A' = A ∧ c' = c ∧ A ≠ none ∨ w.grownBy w' none ∧ ∃ g, A' = some ⟨g, 0, none⟩ ∧ w.heap.size ≤ g
theorem told_front {w : World} {A : Option Addr} {c : Nat} {l : List Int} {x : Int} (h : World.told w A c (l ++ [x])) (hA : A ≠ none) : World.told w A c l := by
  rcases h.2 with ⟨hv, _⟩ | ⟨g, cap, cur, hv, hb, hg, hn, hm, hs, ht⟩
  · simp only [Value.slice.injEq] at hv
    exact absurd hv.1 hA
  · simp only [Value.slice.injEq] at hv
    obtain ⟨rfl, _, rfl⟩ := hv
    refine ⟨by simp [icells], .inr ⟨g, c, cur, rfl, hb, hg, ?_, hm, hs, ?_⟩⟩
    · rw [List.length_append] at hn; simp at hn; omega
    · have e := congrArg (List.take (l.length * 1)) ht
      rw [List.take_take, icells_append] at e
      rw [Nat.min_eq_left (by rw [List.length_append]; simp)] at e
      rw [e, Nat.mul_one]
      have : (icells l).length = l.length := icells_length l
      rw [← this, List.take_left]
theorem told_own {A : Option Addr} {c : Nat} {l : List Int} {g : Nat} (hA : A = some ⟨g, 0, none⟩) : (Value.slice A l.length c).ownBlock = some g := by rw [hA]; rfl

theorem step_append_told {ops : Array Oper} {o : Oper} {a : Act} {w : World} {K : Act → World → Prop} {Q : Exit → Act → World → Prop} {E : Prop}
    (hgd : o.guard = none) (s x : Operand) (ho : o.op = .call { callee := .builtin .append, args := #[s, x], argTypes := #[25, 25] })
    (A : Option Addr) (c : Nat) (l : List Int) (y : Int) (hs : a.eval s = .slice A l.length c) (hown : World.told w A c l)
    (ad : Addr) (hx : a.eval x = .slice (some ad) 1 1) (hcell : ∀ j u, [Value.int .i64 y][j]? = some u → w.cell? (ad.add j) = some u) (hlen : l.length ≤ 1000)
    (h : ∀ A' c' w', Grew w w' A A' c c' l y → K (a.put o.dst (.slice A' (l.length + 1) c')) w') :
    if Region.wanted o (yielded ops a.tmps) = true then Oper.wp Tryd.prog o a w K Q else E := by
  obtain ⟨i0, hi, hz0, hz1, hz2⟩ := info_parts Tryd.infoInt
  have hone : ∀ u ∈ [Value.int .i64 y], u.oneCell' = true := one_one rfl
  have hll : (l ++ [y]).length = l.length + 1 := by simp
  by_cases hroom : l.length + 1 ≤ c
  · have hw : Region.wanted o (yielded ops a.tmps) = true := by simp [Region.wanted, hgd]
    rw [if_pos hw]
    rcases hown.2 with ⟨hv, _⟩ | ⟨g, cap, cur, hv, hb, hg, hn, hm, hsz, ht⟩
    · simp only [Value.slice.injEq] at hv
      omega
    · simp only [Value.slice.injEq] at hv
      obtain ⟨rfl, _, rfl⟩ := hv
      obtain ⟨w', hrun, r1, r2⟩ := run_append_fits (P := Tryd.prog) w 0 25 o.type 3 i0 1 Tryd.underlying25 hi hz1 g l.length c (icells l) hown ad 1 1 [.int .i64 y] rfl hcell hone hroom
      unfold Oper.wp
      simp [execOp, ho, resolve, invoke, builtin, hs, hx, hrun, Result.andThen]
      have r3 : World.told w' (some ⟨g, 0, none⟩) c (l ++ [y]) := by rw [World.told, hll, icells_append]; exact r1
      exact h _ _ w' ⟨r3, told_front r3 (by simp), r2, .inl ⟨rfl, rfl, by simp⟩⟩
  · refine step_append_grows hgd s x 25 ho 3 i0 _ 1 8 Tryd.underlying25 hi hz0 hz1 hz2 rfl (by decide) A l.length c (icells l) hs ?_ (by simp [icells]) ?_ ad 1 1 [.int .i64 y] hx rfl hcell hone (by omega) (by unfold maxLen; omega) (by omega) ?_
    · intro e
      rcases hown.2 with ⟨hv, h0⟩ | ⟨g, cap, cur, hv, _⟩
      · simp only [Value.slice.injEq] at hv
        exact ⟨hv.2.1, hv.2.2⟩
      · simp [e] at hv
    · intro b e j u hj
      obtain ⟨b', off, e', _, hc⟩ := (CRead.of_own hown) j u hj
      rw [e] at e'
      simp only [Option.some.injEq] at e'
      rw [e', Addr.add_lit]
      exact hc
    · intro v' w' r1 r2
      obtain ⟨A', c', rfl, _⟩ := own_shape r1
      obtain ⟨g, hgA⟩ := own_form r1 (by omega)
      have hlt := (own_lower r1 (Nat.zero_le _))
      refine h A' c' w' ⟨by rw [World.told, hll, icells_append]; exact hlt, hown.kept r2 (by cases (Value.slice A l.length c).ownBlock <;> simp), ⟨r2.os, r2.tape, r2.output, r2.size, fun k hk _ => r2.block k hk (by simp)⟩, .inr ⟨r2, g, hgA, ?_⟩⟩
      subst hgA
      exact (own_lt r1).1
end Go.Proofs.YtnpljmipicjacaaDoor
/-
  math/bits.TrailingZeros16 by its contract, where the library's table lies as its initialiser lays it.
-/
namespace Go.Proofs.YtnpljmipicjacaaDoor
open Go.RowKit

/-- The table in its variable (block 0). -/
def TabW (w : World) : Prop := ∀ j, j < 32 → w.cell? ⟨0, j, none⟩ = some (.int .u8 (Lib.deBruijn32tab.getD j 0))
theorem TabW.below {B : Nat} {w w' : World} (h : TabW w) (hb : Below B w w') (hB : 0 < B) : TabW w' := fun j hj => (hb.cell (p := ⟨0, j, none⟩) hB).trans (h j hj)
theorem TabW.pos {w : World} (h : TabW w) : 0 < w.heap.size := World.block_lt_of_cell? w _ (h 0 (by omega))

theorem tz16_key (x a : Nat) (hx : x < 65536) (hx0 : x ≠ 0) (hlow : x &&& (65536 - x) = 2 ^ a) (ha : a < 16) :
    bits BinOp.and IntKind.u16 (x : Int) (IntKind.u16.wrap (-(x : Int))) % 4294967296 * 125613361 % 4294967296 / 134217728 = ((2 ^ a * 125613361 % 4294967296 / 134217728 : Nat) : Int) := by
  have e1 : IntKind.u16.wrap (-(x : Int)) = ((65536 - x : Nat) : Int) := by rw [IntKind.wrap_u16]; omega
  have h2 : 2 ^ a < 2 ^ 16 := Nat.pow_lt_pow_right (by omega) ha
  rw [show (2 : Nat) ^ 16 = 65536 from rfl] at h2
  rw [e1, u16_and_nat x _ hx (by omega), hlow]
  omega

set_option maxHeartbeats 1000000 in
theorem tz16_core (x k idx : Nat) (w : World) (hx0 : ((x : Int) == 0) = false)
    (key : bits BinOp.and IntKind.u16 (x : Int) (IntKind.u16.wrap (-(x : Int))) % 4294967296 * 125613361 % 4294967296 / 134217728 = (idx : Int))
    (hi : idx < 32) (hk : k < 32) (hcell : w.cell? ⟨0, idx, none⟩ = some (.int .u8 k)) :
    Calls Tryd.prog 69 #[.int .u16 x] w fun e w' => e = .returned (.int .i64 k) ∧ w = w' := by
  go_enter Tryd.func69, Tryd.ntmps69
  go_wp2_with (simp only [key])
  go_ret
  exact ⟨rfl, rfl⟩
/-- the least person of a set -/
theorem tz16_any {J a : Nat} {cs : List Nat} (h : IsSet J (a :: cs)) (w : World) (hT : TabW w) :
    Calls Tryd.prog 69 #[.int .u16 J] w fun e w' => e = .returned (.int .i64 a) ∧ w = w' := by
  have hp := h.pos
  have hs := h.small
  have ha := h.lt a List.mem_cons_self
  obtain ⟨hlow, _⟩ := Lib.lowest_bit 16 J hp hs
  rw [h.least] at hlow
  obtain ⟨hi, htab⟩ := Lib.deBruijn32_at a (by omega)
  have hcell := hT _ hi
  rw [htab] at hcell
  exact tz16_core J a _ w (by simp; omega) (tz16_key J a hs hp hlow ha) hi (by omega) hcell
end Go.Proofs.YtnpljmipicjacaaDoor
/-
  THE PROGRAM's RECURSIVE CLOSURE THAT GOES THROUGH THE LISTS OF PEOPLE WHO ARE TIED ('look' in 'allTied'), by its contract: induction on how many are still to come.
-/
namespace Go.Proofs.YtnpljmipicjacaaDoor
open Go.RowKit

/-- the closure's value -/
abbrev lookV (bs yb bl bt : Nat) : Value := .func (.func 80) #[] #[.pointer (some ⟨bs, 0, none⟩), .pointer (some ⟨yb, 0, none⟩), .pointer (some ⟨bl, 0, none⟩), .pointer (some ⟨bt, 0, none⟩)]
/-- what the closure's boxes hold -/
structure LookAt (w : World) (l : Nat) (size : Int) (T : Nat → Nat) (bs yb bl bt : Nat) : Prop where
  s : w.cell? ⟨bs, 0, none⟩ = some (.int .i64 size)
  y : w.cell? ⟨yb, 0, none⟩ = some (.func (.yield l) #[] #[])
  k : w.cell? ⟨bl, 0, none⟩ = some (lookV bs yb bl bt)
  t : ∀ a, a < 12 → w.cell? ⟨bt, a, none⟩ = some (.int .u16 (T a))
  tab : TabW w
theorem LookAt.of {w w' : World} {l : Nat} {size : Int} {T : Nat → Nat} {bs yb bl bt : Nat} {R : Nat → Prop} (h : LookAt w l size T bs yb bl bt) (hR : ∀ j, R j → w'.heap[j]? = w.heap[j]?)
    (h1 : R bs) (h2 : R yb) (h3 : R bl) (h4 : R bt) (h5 : R 0) : LookAt w' l size T bs yb bl bt := by
  have e : ∀ b o v, R b → w.cell? ⟨b, o, none⟩ = some v → w'.cell? ⟨b, o, none⟩ = some v := fun b o v hb hc => (World.cell?_of_block (w := w) (a := ⟨b, o, none⟩) (hR b hb)).trans hc
  exact ⟨e _ _ _ h1 h.s, e _ _ _ h2 h.y, e _ _ _ h3 h.k, fun a ha => e _ _ _ h4 (h.t a ha), fun j hj => e _ _ _ h5 (h.tab j hj)⟩
theorem told_kept {w w' : World} {A : Option Addr} {c : Nat} {l : List Int} (h : World.told w A c l) (hk : ∀ k, (Value.slice A l.length c).ownBlock = some k → w'.heap[k]? = w.heap[k]?) : World.told w' A c l := by
  refine ⟨h.1, ?_⟩
  rcases h.2 with h' | ⟨g, cap, cur, hv, hb, hg, rest⟩
  · exact .inl h'
  · exact .inr ⟨g, cap, cur, hv, hb, (hk g (by rw [hv]; rfl)).trans hg, rest⟩

/-- All lists have come. -/
structure LookYes (J : (Nat → Prop) → List (List Int) → World → Prop) (R S : Nat → Prop) (A : Option Addr) (c : Nat) (l : List Int) (xs : List (List Int)) (W W' : World) : Prop where
  ex : ∃ S', J S' xs W' ∧ (∀ j, S j → S' j) ∧ (∀ j, S' j → S j ∨ W.heap.size ≤ j)
  below : Below 0 W W'
  ro : ∀ j, R j → W'.heap[j]? = W.heap[j]?
  other : ∀ j, S j → j < W.heap.size → (Value.slice A l.length c).ownBlock ≠ some j → W'.heap[j]? = W.heap[j]?
  told : World.told W' A c l
/-- How a call of the closure ends. -/
def LookPost (J Jx : (Nat → Prop) → List (List Int) → World → Prop) (R S : Nat → Prop) (A : Option Addr) (c : Nat) (l : List Int) (pre L : List (List Int)) (W : World) : Bool → World → Prop
  | true, W' => LookYes J R S A c l (pre ++ L) W W'
  | false, W' => ∃ S' q x, q ++ [x] <+: L ∧ Jx S' (pre ++ (q ++ [x])) W'

section
variable {J Jx : (Nat → Prop) → List (List Int) → World → Prop} {R S S1 : Nat → Prop} {A A' : Option Addr} {c c' B : Nat} {l : List Int} {xs pre : List (List Int)} {W wr X w1 w2 : World}
theorem LookYes.start (hJ : J S xs W) (ht : World.told W A c l) : LookYes J R S A c l xs W W := ⟨⟨S, hJ, fun _ h => h, fun _ h => .inl h⟩, Below.refl _ _, fun _ _ => rfl, fun _ _ _ _ => rfl, ht⟩
/-- one person more: what holds where the closure is called again -/
theorem LookYes.step {x : Int} (hh : Held J) (h : LookYes J R S A c l xs W wr) (hA : ∀ k, (Value.slice A l.length c).ownBlock = some k → S k) (hS : ∀ j, S j → B ≤ j) (hR : ∀ j, R j → j < B) (hB : B ≤ W.heap.size)
    (hX : Below wr.heap.size wr X) (g : Grew X w1 A A' c c' l x) :
    (∃ S2, J S2 xs w1 ∧ (∀ j, S j → S2 j) ∧ (∀ j, S2 j → S j ∨ W.heap.size ≤ j) ∧ (∀ k, (Value.slice A' (l ++ [x]).length c').ownBlock = some k → S2 k)) ∧ (∀ j, R j → w1.heap[j]? = wr.heap[j]?) ∧ B ≤ w1.heap.size ∧ W.heap.size ≤ w1.heap.size := by
  obtain ⟨S1, hJ1, hs1, hs2⟩ := h.ex
  have hsz := h.below.size
  have hsX := hX.size
  have hs3 := g.grow.size
  have hap : Apart S1 wr w1 := ⟨(hX.mono (Nat.zero_le _)).trans ((Below.refl 0 X).grown g.grow (Nat.zero_le _) fun k _ => Nat.zero_le k), fun j hj hn => by
    rw [g.grow.block j (by omega) (fun e => hn (hs1 j (hA j e.symm))), hX.block j hj]⟩
  refine ⟨⟨fun j => S1 j ∨ (wr.heap.size ≤ j ∧ j < w1.heap.size), hh _ _ _ _ _ hJ1 hap (fun j hj => hj.imp id And.left), fun j hj => .inl (hs1 j hj), fun j hj => ?_, fun k hk => ?_⟩, fun j hj => ?_, by omega, by omega⟩
  · rcases hj with hj | hj
    · exact hs2 j hj
    · exact .inr (by omega)
  · rcases g.same with ⟨rfl, rfl, _⟩ | ⟨_, b, rfl, hb⟩
    · exact .inl (hs1 k (hA k (by
        cases hA' : A' with
        | none => rw [hA'] at hk; simp [Value.ownBlock] at hk
        | some a => rw [hA'] at hk; exact hk)))
    · have hlt := (own_lt g.new).2
      have : b = k := by simpa [Value.ownBlock] using hk
      subst this
      exact .inr ⟨by omega, hlt⟩
  · have h1 := hR j hj
    rw [g.grow.block j (by omega) (fun e => by have := hS j (hA j e.symm); omega), hX.block j (by omega)]
theorem LookYes.next {x : Int} {S2 : Nat → Prop} {L : List (List Int)} (h : LookYes J R S A c l xs W wr) (hA : ∀ k, (Value.slice A l.length c).ownBlock = some k → S k) (hS : ∀ j, S j → B ≤ j) (hR : ∀ j, R j → j < B) (hB : B ≤ W.heap.size)
    (hX : Below wr.heap.size wr X) (g : Grew X w1 A A' c c' l x) (k1 : ∀ j, S j → S2 j) (k2 : ∀ j, S2 j → S j ∨ W.heap.size ≤ j) (h2 : LookYes J R S2 A' c' (l ++ [x]) L w1 w2) : LookYes J R S A c l L W w2 := by
  have hsz := h.below.size
  have hsX := hX.size
  have hs3 := g.grow.size
  have hoA : ∀ j, S j → (Value.slice A l.length c).ownBlock ≠ some j → w1.heap[j]? = wr.heap[j]? ∨ wr.heap.size ≤ j := fun j _ hne => by
    by_cases hlt : j < wr.heap.size
    · exact .inl (by rw [g.grow.block j (by omega) (fun e => hne e.symm), hX.block j hlt])
    · exact .inr (by omega)
  refine ⟨?_, (h.below.trans ((hX.mono (Nat.zero_le _)).trans ((Below.refl 0 X).grown g.grow (Nat.zero_le _) fun k _ => Nat.zero_le k))).trans h2.below, fun j hj => ?_, fun j hj hlt hne => ?_, ?_⟩
  · obtain ⟨S', hJ', e1, e2⟩ := h2.ex
    refine ⟨S', hJ', fun j hj => e1 j (k1 j hj), fun j hj => ?_⟩
    rcases e2 j hj with h' | h'
    · exact k2 j h'
    · exact .inr (by omega)
  · have h1 := hR j hj
    rw [h2.ro j hj, g.grow.block j (by omega) (fun e => by have := hS j (hA j e.symm); omega), hX.block j (by omega), h.ro j hj]
  · rw [h2.other j (k1 j hj) (by omega) ?_]
    · rcases hoA j hj hne with h' | h'
      · rw [h', h.other j hj hlt hne]
      · omega
    · rcases g.same with ⟨rfl, rfl, _⟩ | ⟨_, b, rfl, hb⟩
      · intro e
        refine hne ?_
        cases hA' : A' with
        | none => rw [hA'] at e; simp [Value.ownBlock] at e
        | some a => rw [hA'] at e; exact e
      · intro e
        have : b = j := by simpa [Value.ownBlock] using e
        omega
  · rcases g.same with ⟨rfl, rfl, hne⟩ | ⟨_, b, rfl, hb⟩
    · exact told_front h2.told hne
    · refine told_kept g.old fun k hk => ?_
      have hklt := (own_lies g.old k hk).2
      refine h2.other k (k1 k (hA k hk)) hklt fun e => ?_
      have hbk : b = k := by simpa [Value.ownBlock] using e
      have hkX := (own_lies h.told k hk).2
      omega
end
theorem IsSet.smaller {J a : Nat} {cs : List Nat} (h : IsSet J (a :: cs)) : J &&& (65535 - 2 ^ a) < J := by
  have h1 := Nat.and_le_left (n := J) (m := 65535 - 2 ^ a)
  rcases Nat.lt_or_eq_of_le h1 with h2 | h2
  · exact h2
  · have h3 := (h.mem a).2 List.mem_cons_self
    have h4 := h.tail.mem a
    rw [h2, h3] at h4
    have h5 := h4.1 rfl
    have := (List.pairwise_cons.1 h.up).1 a h5
    omega
end Go.Proofs.YtnpljmipicjacaaDoor
/-
  THE PROGRAM's RECURSIVE CLOSURE THAT GOES THROUGH THE LISTS OF PEOPLE WHO ARE TIED, walked.
-/
namespace Go.Proofs.YtnpljmipicjacaaDoor
open Go.RowKit Go.Shelf
attribute [local go_sem] Oper.semAt_some

theorem clear_bit {j a : Nat} (hj : j < 65536) (ha : a < 16) : bits BinOp.andNot IntKind.u16 (j : Int) (IntKind.u16.wrap (2 ^ min a 16)) = ((j &&& (65535 - 2 ^ a) : Nat) : Int) := by
  have h2 : 2 ^ a < 2 ^ 16 := Nat.pow_lt_pow_right (by omega) ha
  rw [show (2 : Nat) ^ 16 = 65536 from rfl] at h2
  have e : IntKind.u16.wrap (2 ^ min a 16) = ((2 ^ a : Nat) : Int) := by
    obtain ⟨m, hm⟩ : ∃ m, 2 ^ a = m := ⟨_, rfl⟩
    rw [Nat.min_eq_left (by omega), IntKind.wrap_u16, show (2 : Int) ^ a = ((2 ^ a : Nat) : Int) from by simp, hm]
    rw [hm] at h2
    omega
  rw [e, u16_andNot_nat j _ hj h2]

section
variable {l : Nat} {size : Int} {T : Nat → Nat} {t : Nat → Nat → Bool} {bs yb bl bt B : Nat} {R : Nat → Prop} {J Jx : (Nat → Prop) → List (List Int) → World → Prop}
/-- Nobody more is wanted: the list is handed to the round. -/
theorem look_zero (hR : ∀ j, R j → j < B)
    (hY : ∀ S pre told A c W1, J S pre W1 → World.told W1 A c told → (∀ k, (Value.slice A told.length c).ownBlock = some k → S k) → YieldAt Fence.wide 0 Tryd.prog l #[.slice A told.length c] W1 fun e W' =>
      (e = .returned (.bool true) ∧ J S (pre ++ [told]) W' ∧ Stays (fun j => S j ∨ R j) W1 W') ∨ (e = .returned (.bool false) ∧ Jx S (pre ++ [told]) W'))
    (cs : List Nat) (told : List Int) (jn : Nat) (A : Option Addr) (c : Nat) (S : Nat → Prop) (pre : List (List Int)) (W : World) (hsz : size ≤ told.length) (hB : B ≤ W.heap.size) (hL : LookAt W l size T bs yb bl bt)
    (hJ : J S pre W) (ht : World.told W A c told) (hA : ∀ k, (Value.slice A told.length c).ownBlock = some k → S k) :
    Calls Tryd.prog 80 #[.slice A told.length c, .int .u16 jn, .pointer (some ⟨bs, 0, none⟩), .pointer (some ⟨yb, 0, none⟩), .pointer (some ⟨bl, 0, none⟩), .pointer (some ⟨bt, 0, none⟩)] W fun e W' =>
      ∃ ok, e = .returned (.bool ok) ∧ LookPost J Jx R S A c told pre (listsC t 0 told cs) W ok W' := by
  have hs := hL.s
  have hy0 := hL.y
  obtain ⟨fn, tmps, assign, body, hy, hRd⟩ := yield_any (m' := 2) (hY S pre told A c W hJ ht hA)
  rw [listsC_zero]
  refine (callsIn_wide (n := 3)).1 ?_
  refine callsIn_of_wp Tryd.func80 rfl trivial ?_ rfl
  simp only [Tryd.ntmps80, List.size_toArray, List.length_cons, List.length_nil, Nat.reduceAdd, Nat.reduceSub, Array.replicate_succ, Array.replicate_zero, List.push_toArray, List.append_toArray, List.nil_append, List.cons_append]
  gi_wp2
  refine wpIn_wide.2 (wp_scope_straight ((wpIn_wide (n := 3)).1 ?_))
  gi_wp2
  refine hRd.mono ?_
  rintro e W' (⟨rfl, hJ', hst⟩ | ⟨rfl, hJx⟩)
  · gi_wp2
    rw [Exit.noGoto_ret]
    go_ret
    refine ⟨true, rfl, ⟨S, hJ', fun _ h => h, fun _ h => .inl h⟩, hst.below, fun j hj => hst.same j (by have := hR j hj; omega) (.inr hj), fun j hj hlt _ => hst.same j hlt (.inl hj), ?_⟩
    exact told_kept ht fun k hk => hst.same k (own_lies ht k hk).2 (.inl (hA k hk))
  · gi_wp2
    rw [Exit.noGoto_ret]
    go_ret
    exact ⟨false, rfl, S, [], told, List.prefix_refl _, hJx⟩

set_option maxHeartbeats 4000000 in
set_option maxRecDepth 100000 in
theorem look_any (hR : ∀ j, R j → j < B)
    (hY : ∀ S pre told A c W1, J S pre W1 → World.told W1 A c told → (∀ k, (Value.slice A told.length c).ownBlock = some k → S k) → YieldAt Fence.wide 0 Tryd.prog l #[.slice A told.length c] W1 fun e W' =>
      (e = .returned (.bool true) ∧ J S (pre ++ [told]) W' ∧ Stays (fun j => S j ∨ R j) W1 W') ∨ (e = .returned (.bool false) ∧ Jx S (pre ++ [told]) W'))
    (hh : Held J) (h1 : R bs) (h2 : R yb) (h3 : R bl) (h4 : R bt) (h5 : R 0) (hT : ∀ a b, a < 12 → b < 16 → (T a).testBit b = t a b) (hT16 : ∀ a, a < 12 → T a < 65536) : ∀ (need : Nat)
    (cs : List Nat) (told : List Int) (jn : Nat) (A : Option Addr) (c : Nat) (S : Nat → Prop) (pre : List (List Int)) (W : World), (need = 0 ∧ size ≤ told.length ∨ 0 < need ∧ size = told.length + need) → told.length + need ≤ 100 → IsSet jn cs → (∀ b ∈ cs, b < 12) →
    B ≤ W.heap.size → LookAt W l size T bs yb bl bt → J S pre W → World.told W A c told → (∀ k, (Value.slice A told.length c).ownBlock = some k → S k) → (∀ j, S j → B ≤ j) →
    Calls Tryd.prog 80 #[.slice A told.length c, .int .u16 jn, .pointer (some ⟨bs, 0, none⟩), .pointer (some ⟨yb, 0, none⟩), .pointer (some ⟨bl, 0, none⟩), .pointer (some ⟨bt, 0, none⟩)] W fun e W' =>
      ∃ ok, e = .returned (.bool ok) ∧ LookPost J Jx R S A c told pre (listsC t need told cs) W ok W' := by
  intro need
  induction need with
  | zero =>
    intro cs told jn A c S pre W hsz _ _ _ hB hL hJ ht hA _
    exact look_zero hR hY cs told jn A c S pre W (by omega) hB hL hJ ht hA
  | succ need ih =>
    intro cs told jn A c S pre W hsz h100 hset hcs hB hL hJ ht hA hS
    have hlt : (told.length : Int) < size := by omega
    have hnle : ¬ size ≤ (told.length : Int) := by omega
    have hs := hL.s
    have hsz' : (need = 0 ∧ size ≤ ((told.length + 1 : Nat) : Int)) ∨ (0 < need ∧ size = ((told.length + 1 : Nat) : Int) + need) := by omega
    obtain ⟨L, hLL⟩ : ∃ L, listsC t (need + 1) told cs = L := ⟨_, rfl⟩
    rw [hLL]
    have HLL := Lib.hid hLL
    have HSZ := Lib.hid hsz'
    have HL0 := Lib.hid hL
    clear hLL hsz' hsz hL
    go_enter Tryd.func80, Tryd.ntmps80
    go_wp2
    refine wp_scope_jumps 0 (fun a W' => (∃ t0 t1 t2 t3 t4 t5 t6 t7 t8 t9 t10 t11 t12 t13 t14 t15 t16 t17 t18 t19 t20 t21 t22 t23 t24 t25 t26 t27 t28 t29 t30 t31 t32 t33 t34 t35 t36, a = ({ tmps := #[t0, t1, t2, t3, t4, t5, t6, t7, t8, t9, t10, t11, t12, t13, t14, t15, t16, t17, t18, t19, t20, t21, t22, t23, t24, t25, t26, t27, t28, t29, t30, t31, t32, t33, t34, t35, t36], defers := [] } : Act)) ∧ ∃ S' q x, q ++ [x] <+: L ∧ Jx S' (pre ++ (q ++ [x])) W') (fun _ _ => 0) rfl ?first ?pass
    case pass =>
      rintro a W' ⟨⟨t0, t1, t2, t3, t4, t5, t6, t7, t8, t9, t10, t11, t12, t13, t14, t15, t16, t17, t18, t19, t20, t21, t22, t23, t24, t25, t26, t27, t28, t29, t30, t31, t32, t33, t34, t35, t36, rfl⟩, hx⟩
      go_wp2
      rw [show ∀ (a : Act) (w : World) (Q : Exit → Act → World → Prop) (J : Act → World → Prop), Exit.jump 0 J Q .ret a w = Q .ret a w from fun _ _ _ _ => rfl]
      go_ret
      exact ⟨false, rfl, hx⟩
    case first =>
      go_wp2
      clear hs
      go_loopw [1] (fun i wr => ∃ (jn' : Nat) (cs' : List Nat) (done : List (List Int)), i = .int .u16 jn' ∧ IsSet jn' cs' ∧ (∀ b ∈ cs', b < 12) ∧ L = done ++ listsC t (need + 1) told cs' ∧ LookYes J R S A c told (pre ++ done) W wr) (fun i _ => (intOf i).toNat)
      case atStart => exact ⟨jn, cs, [], rfl, hset, hcs, by rw [HLL.out]; rfl, by rw [List.append_nil]; exact LookYes.start hJ ht⟩
      case round =>
        obtain ⟨jn', cs', done, rfl, hset', hcs', hL', hyes⟩ := hrel
        have hL2 := HL0.out.of hyes.ro h1 h2 h3 h4 h5
        have Hyes := Lib.hid hyes
        have HL' := Lib.hid hL'
        clear hyes hL'
        cases cs' with
        | nil =>
          have hz := hset'.zero
          subst hz
          go_wp2
          rw [show ∀ (a : Act) (w : World) (Q : Exit → Act → World → Prop) (J : Act → World → Prop), Exit.jump 0 J Q .ret a w = Q .ret a w from fun _ _ _ _ => rfl]
          go_ret
          refine ⟨true, rfl, ?_⟩
          have e := HL'.out
          rw [listsC_nil, List.append_nil] at e
          rw [e]
          exact Hyes.out
        | cons a cs'' =>
          have hpos := hset'.pos
          have hposI : ((jn' : Int) == 0) = false := by simp only [beq_eq_false_iff_ne, ne_eq]; omega
          go_wp2_with fail
          refine (tz16_any hset' wr hL2.tab).mono ?_
          rintro e w' ⟨rfl, rfl⟩
          go_wp2
          have ha12 := hcs' a List.mem_cons_self
          have hTa := hT16 a ha12
          rw [clear_bit hset'.small (by omega)]
          have htail := hset'.tail
          have hsm := hset'.smaller
          have hint := htail.inter (T := T a) (f := t a) (fun b hb => hT a b ha12 hb)
          obtain ⟨j2, hj2⟩ : ∃ j2, jn' &&& (65535 - 2 ^ a) = j2 := ⟨_, rfl⟩
          rw [hj2] at htail hsm hint ⊢
          have hand := u16_and_nat j2 (T a) htail.small hTa
          have hai : (a : Int) < 12 := by omega
          have hto := Hyes.out.told
          have f1 := hL2.k
          have f2 := hL2.t a ha12
          have hblw : bl < wr.heap.size := World.block_lt_of_cell? wr _ f1
          have hbtw : bt < wr.heap.size := World.block_lt_of_cell? wr _ f2
          have g1 : ∀ o, (wr.drew.alloc o).cell? ⟨bl, 0, none⟩ = some (lookV bs yb bl bt) := fun o => (World.cell?_alloc_lt wr.drew _ _ hblw).trans f1
          have g2 : ∀ o, (wr.drew.alloc o).cell? ⟨bt, a, none⟩ = some (.int .u16 (T a)) := fun o => (World.cell?_alloc_lt wr.drew _ _ hbtw).trans f2
          have hll : (told ++ [(a : Int)]).length = told.length + 1 := by simp
          have Htail := Lib.hid htail
          have Hint := Lib.hid hint
          have Hlen : (told ++ [(a : Int)]).length + need ≤ 100 := by rw [hll]; omega
          clear hj2 hset' hpos hposI hint htail hL2 hlt hnle
          go_region_law (first
            | (refine step_append_told (by rfl) _ _ (by rfl) A c told a (by rfl) ((World.ownsRow.drew hto).alloc _) ⟨wr.heap.size, 0, none⟩ (by rfl) (one_cell (by simp)) (by omega) ?_; intro A1 c1 w1 G1; obtain ⟨⟨S2, e1, e2, e3, e4⟩, e5, e6, e7⟩ := Hyes.out.step hh hA hS hR hB ((Below.refl _ wr).drew.alloc (Nat.le_refl _) _) G1; have hL3 := HL0.out.of (fun j hj => (e5 j hj).trans (Hyes.out.ro j hj)) h1 h2 h3 h4 h5; have m1 := hL3.k; have m2 := hL3.t a ha12; have ihc := ih (cs''.filter (t a)) (told ++ [(a : Int)]) (j2 &&& T a) A1 c1 S2 (pre ++ done) w1 (by rw [hll]; exact HSZ.out) Hlen Hint.out (fun b hb => hcs' b (List.mem_cons_of_mem _ (List.mem_filter.1 hb).1)) e6 hL3 e1 G1.new e4 (fun j hj => by rcases e3 j hj with h | h; exact hS j h; omega); rw [hll] at ihc; have IHC := Lib.hid ihc; have HG := Lib.hid G1; clear ihc hL3 G1)
            | (go_simp; refine IHC.out.mono ?_; rintro e w2 ⟨ok, rfl, hpost⟩)
            | fail)
          all_goals (cases ok)
          all_goals (go_wp2)
          all_goals first
            | (go_step3; refine (show 0 = 0 ∧ _ from ⟨rfl, ?_⟩); refine (show (∃ _, _) ∧ _ from ⟨⟨_, _, _, _, _, _, _, _, _, _, _, _, _, _, _, _, _, _, _, _, _, _, _, _, _, _, _, _, _, _, _, _, _, _, _, _, _, rfl⟩, ?_⟩); obtain ⟨S', q, x, hq, hx⟩ := hpost; refine ⟨S', done ++ q, x, ?_, by simpa [List.append_assoc] using hx⟩; rw [HL'.out, listsC_cons, List.append_assoc done q]; exact (List.prefix_append_right_inj _).2 (hq.trans (List.prefix_append _ _)))
            | (refine ⟨⟨_, _, _, _, _, _, _, _, _, _, _, _, _, _, _, _, _, _, _, _, _, _, ⟨j2, cs'', done ++ listsC t need (told ++ [(a : Int)]) (cs''.filter (t a)), rfl, Htail.out, fun b hb => hcs' b (List.mem_cons_of_mem _ hb), by rw [HL'.out, listsC_cons, List.append_assoc], ?_⟩, rfl⟩, ?_⟩; (rw [← List.append_assoc]; exact Hyes.out.next hA hS hR hB ((Below.refl _ wr).drew.alloc (Nat.le_refl _) _) HG.out e2 e3 hpost); (show ((j2 : Nat) : Int).toNat < ((jn' : Nat) : Int).toNat; omega))
end
end Go.Proofs.YtnpljmipicjacaaDoor
