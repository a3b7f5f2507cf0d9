/-
  Texts put together for the claim of 'WidestDistance' (pack 2): Cmp, Got, Tab, WideP, Some, Table, Of, Other, Meet, MeetW, PairsOf, OtherP.
-/
import Derived.Test.YthpapkfpcijpoaaDoorWidestDistanceP1
import Derived.Deep.OwnRows
import Derived.StillTailTactics
import Derived.Deep.RegionHeld3
/-
  THE PROGRAM's OWN LOOK AT A PARTY: comparisons of numbers and of pairs, 'impl.IsParty', by their contracts.
-/
namespace Go.Proofs.YthpapkfpcijpoaaDoor
open Go.RowKit

def cmpI (a b : Int) : Int := if a < b then -1 else if b < a then 1 else 0
set_option maxHeartbeats 400000 in
theorem isNaN_any (a : Int) (w : World) : Calls Tryd.prog 108 #[.int .i64 a] w fun e w' => e = .returned (.bool false) ∧ w = w' := by
  go_enter Tryd.func108, Tryd.ntmps108
  go_wp2
  go_ret
  exact ⟨by simp, rfl⟩
set_option maxHeartbeats 400000 in
theorem compare_any (a b : Int) (w : World) : Calls Tryd.prog 94 #[.int .i64 a, .int .i64 b] w fun e w' => e = .returned (.int .i64 (cmpI a b)) ∧ w = w' := by
  by_cases h1 : a < b
  · have e : cmpI a b = -1 := if_pos h1
    rw [e]
    clear e
    go_enter Tryd.func94, Tryd.ntmps94
    go_wp2_with (go_at_call 108; refine (isNaN_any _ _).mono ?_; rintro e w' ⟨rfl, rfl⟩)
    go_ret
    exact ⟨rfl, rfl⟩
  · by_cases h2 : b < a
    · have e : cmpI a b = 1 := by rw [cmpI, if_neg h1, if_pos h2]
      rw [e]
      clear e
      go_enter Tryd.func94, Tryd.ntmps94
      go_wp2_with (go_at_call 108; refine (isNaN_any _ _).mono ?_; rintro e w' ⟨rfl, rfl⟩)
      go_ret
      exact ⟨rfl, rfl⟩
    · have e : cmpI a b = 0 := by rw [cmpI, if_neg h1, if_neg h2]
      rw [e]
      clear e
      go_enter Tryd.func94, Tryd.ntmps94
      go_wp2_with (go_at_call 108; refine (isNaN_any _ _).mono ?_; rintro e w' ⟨rfl, rfl⟩)
      go_ret
      exact ⟨rfl, rfl⟩

set_option maxHeartbeats 400000 in
theorem or_any (x y : Int) (g : Nat) (w : World) (h0 : w.cell? ⟨g, 0, none⟩ = some (.int .i64 x)) (h1 : w.cell? ⟨g, 1, none⟩ = some (.int .i64 y)) :
    Calls Tryd.prog 93 #[.slice (some ⟨g, 0, none⟩) 2 2] w fun e w' => e = .returned (.int .i64 (if x = 0 then y else x)) ∧ w = w' := by
  by_cases hx : x = 0
  · subst hx
    rw [if_pos rfl]
    by_cases hy : y = 0
    · subst hy
      go_enter Tryd.func93, Tryd.ntmps93
      go_wp2
      refine wp_loop_rounds 3 ?_
      rw [rounds_succ]
      go_wp2
      rw [rounds_succ]
      go_wp2
      rw [rounds_succ]
      go_wp2
      go_ret
      exact ⟨rfl, rfl⟩
    · go_enter Tryd.func93, Tryd.ntmps93
      go_wp2
      refine wp_loop_rounds 3 ?_
      rw [rounds_succ]
      go_wp2
      rw [rounds_succ]
      go_wp2
      go_ret
      exact ⟨rfl, rfl⟩
  · rw [if_neg hx]
    go_enter Tryd.func93, Tryd.ntmps93
    go_wp2
    refine wp_loop_rounds 3 ?_
    rw [rounds_succ]
    go_wp2
    go_ret
    exact ⟨rfl, rfl⟩

def cmpP (a b c d : Int) : Int := if cmpI a c = 0 then cmpI b d else cmpI a c
theorem cmpP_less (a b c d : Int) : cmpP a b c d < 0 ↔ (a < c ∨ a = c ∧ b < d) := by
  unfold cmpP cmpI
  repeat' split
  all_goals omega
set_option maxHeartbeats 1000000 in
set_option maxRecDepth 100000 in
theorem comparePairs_any (a b c d : Int) (w : World) :
    Calls Tryd.prog 70 #[.agg #[.int .i64 a, .int .i64 b], .agg #[.int .i64 c, .int .i64 d]] w fun e w' => e = .returned (.int .i64 (cmpP a b c d)) ∧ Below w.heap.size w w' := by
  go_enter Tryd.func70, Tryd.ntmps70
  go_wp2
  generalize hW : (w.alloc (Obj.cells #[.int .i64 a, .int .i64 b] 85)).alloc (Obj.cells #[.int .i64 c, .int .i64 d] 85) = W
  have c0 : W.cell? ⟨w.heap.size, 0, none⟩ = some (.int .i64 a) := by rw [← hW]; simp
  have c1 : W.cell? ⟨w.heap.size, 1, none⟩ = some (.int .i64 b) := by rw [← hW]; simp
  have c2 : W.cell? ⟨w.heap.size + 1, 0, none⟩ = some (.int .i64 c) := by rw [← hW]; simp
  have c3 : W.cell? ⟨w.heap.size + 1, 1, none⟩ = some (.int .i64 d) := by rw [← hW]; simp
  have hb : Below w.heap.size w W := by rw [← hW]; go_grown
  clear hW
  refine wp_region_still_tail 10 (by kernel_rfl) (by kernel_rfl) ?_
  simp only [List.take_succ_cons, List.take_zero, List.drop_succ_cons, List.drop_zero]
  still_step
  still_step
  still_step
  still_step
  still_call ((compare_any a c _).mono fun _ _ h => ⟨h.1, h.2.symm⟩)
  still_step
  still_step
  still_step
  still_step
  still_call ((compare_any b d _).mono fun _ _ h => ⟨h.1, h.2.symm⟩)
  refine wpStill_nil ?_
  change wpList _ _ _ _ _ (World.drew _)
  go_wp2_with (go_at_call 93; refine (or_any (cmpI a c) (cmpI b d) _ _ (by simp) (by simp)).mono ?_; rintro e w2 ⟨rfl, rfl⟩)
  · have h : cmpI a c = 0 := by assumption
    go_ret
    exact ⟨by simp [cmpP, h], (hb.alloc hb.size _).drew⟩
  · have h : ¬ cmpI a c = 0 := by assumption
    go_ret
    exact ⟨by simp [cmpP, h], (hb.alloc hb.size _).drew⟩
theorem comparePairs_less (a b c d : Int) (h : a < c ∨ a = c ∧ b < d) (w : World) :
    Calls Tryd.prog 70 #[.agg #[.int .i64 a, .int .i64 b], .agg #[.int .i64 c, .int .i64 d]] w fun e w' => e = .returned (.int .i64 (-1)) ∧ Below w.heap.size w w' :=
  (comparePairs_any a b c d w).mono fun _ _ hh => by
    have h1 := (cmpP_less a b c d).2 h
    have h2 : cmpP a b c d = -1 := by unfold cmpP cmpI at h1 ⊢; repeat' split at h1; all_goals (repeat' split); all_goals omega
    rwa [h2] at hh
theorem cmpP_more {a b c d : Int} (h : ¬ (a < c ∨ a = c ∧ b < d)) : 0 ≤ cmpP a b c d := by
  have h1 : ¬ cmpP a b c d < 0 := fun h2 => h ((cmpP_less a b c d).1 h2)
  omega

set_option maxHeartbeats 1000000 in
theorem isParty_any (p : Int) (l : PL) (A : Option Addr) (c : Nat) (w : World) (hl : l.length ≤ 1048576) (hA : CRead w w.heap.size A (pcells l)) :
    Calls Tryd.prog 42 #[.agg #[.int .i64 p, .slice A l.length c]] w fun e w' => e = .returned (.bool (isP p l)) ∧ Below w.heap.size w w' := by
  by_cases hp : p < 0 ∨ 12 < p
  · rw [isP_out p l hp]
    rcases hp with hp | hp
    · go_enter Tryd.func42, Tryd.ntmps42
      go_wp2
      go_ret
      exact ⟨rfl, by go_grown⟩
    · have hp' : ¬ p < 0 := by omega
      go_enter Tryd.func42, Tryd.ntmps42
      go_wp2
      go_ret
      exact ⟨rfl, by go_grown⟩
  · have hp0 : 0 ≤ p := by omega
    have hp1 : p ≤ 12 := by omega
    generalize hn : l.length = n at *
    have Hn := Lib.hid hn
    clear hn hp
    go_enter Tryd.func42, Tryd.ntmps42
    go_wp2
    have hbw : Below (w.heap.size + 1) (w.alloc (Obj.cells #[.int .i64 p, .slice A n c] 31)) (w.alloc (Obj.cells #[.int .i64 p, .slice A n c] 31)) := Below.refl _ _
    go_loopw [16] (fun i wr => ∃ k : Nat, k ≤ n ∧ i = .int .i64 k ∧ (∀ j, j < k → goodAt p l j = true) ∧ Below (w.heap.size + 1) (w.alloc (Obj.cells #[.int .i64 p, .slice A n c] 31)) wr) (fun i _ => n - (intOf i).toNat)
    case atStart => exact ⟨0, Nat.zero_le _, rfl, fun j hj => by omega, hbw⟩
    case round =>
      obtain ⟨k, hk, rfl, hgood, hb⟩ := hrel
      have Hgood := Lib.hid hgood
      clear hgood hbw
      have hs := hb.size
      simp only [World.size_alloc] at hs
      have hbw : Below w.heap.size w wr := Below.trans (b := _) (by go_grown) (hb.mono (by omega))
      have u0 : wr.cell? ⟨w.heap.size, 0, none⟩ = some (.int .i64 p) := (hb.cell (p := ⟨w.heap.size, 0, none⟩) (by simp)).trans (by simp)
      have u1 : wr.cell? ⟨w.heap.size, 1, none⟩ = some (.slice A n c) := (hb.cell (p := ⟨w.heap.size, 1, none⟩) (by simp)).trans (by simp)
      by_cases hlt : k < n
      · obtain ⟨⟨x, y⟩, hx⟩ := getSome l k (by rw [Hn.out]; exact hlt)
        obtain ⟨b, off, rfl, hbb, c0, c1⟩ := (hA.below hbw (Nat.le_refl _)).pair hx
        have hki : (k : Int) < (n : Int) := by omega
        have Hx := Lib.hid hx
        clear hx
        have u2 : (wr.alloc (.cells #[.int .i64 x, .int .i64 y] 85)).cell? ⟨w.heap.size, 0, none⟩ = some (.int .i64 p) := (World.cell?_alloc_lt wr _ _ (by simp; omega)).trans u0
        have u3 : (wr.alloc (.cells #[.int .i64 x, .int .i64 y] 85)).cell? ⟨w.heap.size, 1, none⟩ = some (.slice (some ⟨b, off, none⟩) n c) := (World.cell?_alloc_lt wr _ _ (by simp; omega)).trans u1
        by_cases hxy : 0 ≤ x ∧ x < y ∧ y < p
        · have x0 : 0 ≤ x := by omega
          have x1 : ¬ (y ≤ x) := by omega
          have x2 : ¬ (p ≤ y) := by omega
          have e0 : ∀ z : Ext (wr.heap.size + 1) (wr.alloc (.cells #[.int .i64 x, .int .i64 y] 85)), z.val.cell? ⟨wr.heap.size, 0, none⟩ = some (.int .i64 x) := fun z => z.cell (by simp) (by omega)
          have e1 : ∀ z : Ext (wr.heap.size + 1) (wr.alloc (.cells #[.int .i64 x, .int .i64 y] 85)), z.val.cell? ⟨wr.heap.size, 1, none⟩ = some (.int .i64 y) := fun z => z.cell (by simp) (by omega)
          have z0 : ∀ z : Ext (wr.heap.size + 1) (wr.alloc (.cells #[.int .i64 x, .int .i64 y] 85)), z.val.cell? ⟨w.heap.size, 0, none⟩ = some (.int .i64 p) := fun z => z.cell ((World.cell?_alloc_lt wr _ _ (by simp; omega)).trans u0) (by omega)
          have z1 : ∀ z : Ext (wr.heap.size + 1) (wr.alloc (.cells #[.int .i64 x, .int .i64 y] 85)), z.val.cell? ⟨w.heap.size, 1, none⟩ = some (.slice (some ⟨b, off, none⟩) n c) := fun z => z.cell ((World.cell?_alloc_lt wr _ _ (by simp; omega)).trans u1) (by omega)
          have Hxy := Lib.hid hxy
          clear hxy
          by_cases hkz : k = 0
          · have hk0 : decide ((0 : Int) < (k : Int)) = false := by simp [hkz]
            have hk1 : decide (0 < k) = false := by simp [hkz]
            have Hkz := Lib.hid hkz
            clear hkz
            go_wp2
            refine wp_region_ext (wr.heap.size + 1) (by kernel_rfl) (by kernel_rfl) ?_
            repeat (go_big_quiet_step (fail))
            refine wpQuiet_nil ?_
            rintro w1 ⟨⟨_, hb1⟩, rfl⟩
            have hb2 : Below (wr.heap.size) wr w1 := Below.trans (b := _) ((Below.refl _ _).alloc (by omega) _) (hb1.mono (by omega))
            go_wp2
            go_roundw
            case rel =>
              refine ⟨k + 1, by omega, by go_num, ?_, hb.trans (hb2.mono (by omega))⟩
              intro j hj
              rcases Nat.lt_succ_iff_lt_or_eq.1 hj with h | rfl
              · exact Hgood.out j h
              · exact goodAt_zero Hkz.out Hx.out Hxy.out
            case measure => simp [intOf]; omega
          · obtain ⟨⟨x', y'⟩, hx'⟩ := getSome l (k - 1) (by rw [Hn.out]; omega)
            obtain ⟨b', off', e', _, c0', c1'⟩ := (hA.below hbw (Nat.le_refl _)).pair hx'
            simp only [Option.some.injEq, Addr.mk.injEq, and_true] at e'
            obtain ⟨rfl, rfl⟩ := e'
            have Hx' := Lib.hid hx'
            clear hx'
            have e2 : ∀ z : Ext (wr.heap.size + 1) (wr.alloc (.cells #[.int .i64 x, .int .i64 y] 85)), z.val.cell? ⟨b, off + (k - 1) * 2, none⟩ = some (.int .i64 x') := fun z => z.cell ((World.cell?_alloc_lt wr _ _ (by simp; omega)).trans c0') (by omega)
            have e3 : ∀ z : Ext (wr.heap.size + 1) (wr.alloc (.cells #[.int .i64 x, .int .i64 y] 85)), z.val.cell? ⟨b, off + (k - 1) * 2 + 1, none⟩ = some (.int .i64 y') := fun z => z.cell ((World.cell?_alloc_lt wr _ _ (by simp; omega)).trans c1') (by omega)
            have hk0 : (0 : Int) < (k : Int) := by omega
            have hk1 : decide ((0 : Int) < (k : Int)) = true := by simp; omega
            have hk2 : 0 < k := by omega
            have hk3 : (0 : Int) ≤ (k : Int) - 1 := by omega
            have hk4 : (k : Int) - 1 < (n : Int) := by omega
            clear hkz
            by_cases hA3 : x' < x ∨ x' = x ∧ y' < y
            · go_wp2
              refine wp_region_ext (wr.heap.size + 1) (by kernel_rfl) (by kernel_rfl) ?_
              repeat (go_big_quiet_step ((go_at_call 70; exact Calls.ext_of ((comparePairs_less _ _ _ _ hA3 _).mono fun _ _ h => ⟨h.1, h.2.mono (Ext.size' (by simp) _)⟩))))
              refine wpQuiet_nil ?_
              rintro w1 ⟨⟨_, hb1⟩, rfl⟩
              have hb2 : Below (wr.heap.size) wr w1 := Below.trans (b := _) ((Below.refl _ _).alloc (by omega) _) (hb1.mono (by omega))
              go_wp2
              go_roundw
              case rel =>
                refine ⟨k + 1, by omega, by go_num, ?_, hb.trans (hb2.mono (by omega))⟩
                intro j hj
                rcases Nat.lt_succ_iff_lt_or_eq.1 hj with h | rfl
                · exact Hgood.out j h
                · exact goodAt_later hk2 Hx'.out Hx.out Hxy.out hA3
              case measure => simp [intOf]; omega
            · have hmore := cmpP_more hA3
              go_wp2
              refine wp_region_ext (wr.heap.size + 1) (by kernel_rfl) (by kernel_rfl) ?_
              repeat (go_big_quiet_step ((go_at_call 70; exact Calls.ext_of ((comparePairs_any _ _ _ _ _).mono fun _ _ h => ⟨h.1, h.2.mono (Ext.size' (by simp) _)⟩))))
              refine wpQuiet_nil ?_
              rintro w1 ⟨⟨_, hb1⟩, rfl⟩
              have hb2 : Below (wr.heap.size) wr w1 := Below.trans (b := _) ((Below.refl _ _).alloc (by omega) _) (hb1.mono (by omega))
              go_wp2
              go_ret
              refine ⟨?_, hbw.trans (hb2.mono (by omega))⟩
              rw [isP_no p l (i := k) (by rw [Hn.out]; exact hlt) (goodAt_stale' hk2 Hx'.out Hx.out hA3)]
              rfl
        · have hres : isP p l = false := isP_no p l (i := k) (by rw [Hn.out]; exact hlt) (goodAt_bad Hx.out hxy)
          have Hres := Lib.hid hres
          clear hres
          by_cases h1 : x < 0
          · go_wp2
            go_ret
            exact ⟨by rw [Hres.out]; rfl, hbw.alloc (by omega) _⟩
          · by_cases h2 : y ≤ x
            · go_wp2
              go_ret
              exact ⟨by rw [Hres.out]; rfl, hbw.alloc (by omega) _⟩
            · have h3 : p ≤ y := by omega
              go_wp2
              go_ret
              exact ⟨by rw [Hres.out]; rfl, hbw.alloc (by omega) _⟩
      · have hkl : k = n := by omega
        subst hkl
        have hge : ¬ ((k : Int) < k) := by omega
        go_wp2
        go_ret
        refine ⟨?_, hbw⟩
        rw [isP_of p l hp0 hp1 (fun i hi => Hgood.out i (by rw [Hn.out] at hi; exact hi))]
        rfl

end Go.Proofs.YthpapkfpcijpoaaDoor
/-
  Parties and lists of numbers that a call comes back with.
-/
namespace Go.Proofs.YthpapkfpcijpoaaDoor
open Go.RowKit

/-- A call came back with a party and a bool; the party's pairs lie in memory of its own. -/
def GotPartyOk (w : World) (p : Int) (l : PL) (ok : Bool) (e : Ending) (w' : World) : Prop :=
  ∃ A c, e = .returned (.tuple #[.agg #[.int .i64 p, .slice A l.length c], .bool ok]) ∧ w'.ownsRow w.heap.size 85 2 (.slice A l.length c) l.length (pcells l) ∧ Below w.heap.size w w'
/-- A call came back with a list of numbers and a bool. -/
def GotIntsOk (w : World) (l : List Int) (ok : Bool) (e : Ending) (w' : World) : Prop :=
  ∃ A c, e = .returned (.tuple #[.slice A l.length c, .bool ok]) ∧ w'.ownsRow w.heap.size 3 1 (.slice A l.length c) l.length (icells l) ∧ Below w.heap.size w w'

end Go.Proofs.YthpapkfpcijpoaaDoor
/-
  TABLES OF WHO IS WHOSE FRIEND, in memory of the call's own: one row of rows.
-/
namespace Go.Proofs.YthpapkfpcijpoaaDoor
open Go.RowKit

def upd (t : Nat → Nat → Bool) (a b : Nat) (x : Bool) : Nat → Nat → Bool := fun i j => if i = a ∧ j = b then x else t i j
def adj (l : PL) (i j : Nat) : Bool := l.contains ((i : Int), (j : Int)) || l.contains ((j : Int), (i : Int))
theorem adj_nil : adj [] = fun _ _ => false := rfl
theorem adj_snoc (l : PL) (a b : Nat) : adj (l ++ [((a : Int), (b : Int))]) = upd (upd (adj l) a b true) b a true := by
  funext i j
  simp only [adj, upd, List.contains_append, List.contains_cons, List.contains_nil, Bool.or_false]
  have e1 : (((i : Int), (j : Int)) == ((a : Int), (b : Int))) = decide (i = a ∧ j = b) := by rw [Bool.eq_iff_iff]; simp; omega
  have e2 : (((j : Int), (i : Int)) == ((a : Int), (b : Int))) = decide (i = b ∧ j = a) := by rw [Bool.eq_iff_iff]; simp; omega
  rw [e1, e2]
  by_cases h1 : i = b ∧ j = a
  · simp [h1]
  · by_cases h2 : i = a ∧ j = b
    · simp [h2]
    · simp [h1, h2]
theorem adj_pair {n : Nat} {l : PL} (h : isP n l = true) {i j : Nat} (hij : i < j) : adj l i j = l.contains ((i : Int), (j : Int)) := by
  unfold adj
  have : l.contains ((j : Int), (i : Int)) = false := by
    rw [Bool.eq_false_iff]
    intro hc
    rw [List.contains_iff_mem] at hc
    have := (isP_list h).2.2.1 _ hc
    simp at this
    omega
  rw [this, Bool.or_false]
theorem adj_comm (l : PL) (i j : Nat) : adj l i j = adj l j i := by unfold adj; rw [Bool.or_comm]

/-- k rows of n bools each, row i in block G i, under the slice v. -/
structure TabG (w : World) (B : Nat) (v : Value) (k n : Nat) (G : Nat → Nat) (t : Nat → Nat → Bool) : Prop where
  own : w.ownsRow B 86 1 v k ((List.range k).map fun i => Value.slice (some ⟨G i, 0, none⟩) n n)
  row : ∀ i, i < k → B ≤ G i ∧ w.rowIs (G i) 4 n (fun j => .bool (t i j))
  inj : ∀ i j, i < k → j < k → G i = G j → i = j
section
variable {w w' : World} {B k n : Nat} {v : Value} {G : Nat → Nat} {t t' : Nat → Nat → Bool}
theorem TabG.congr (h : TabG w B v k n G t) (e : ∀ i j, i < k → j < n → t i j = t' i j) : TabG w B v k n G t' :=
  ⟨h.own, fun i hi => ⟨(h.row i hi).1, (h.row i hi).2.congr fun j hj => by rw [e i j hi hj]⟩, h.inj⟩
theorem TabG.of_blocks (h : TabG w B v k n G t) (hg : w.grownBy w' none) : TabG w' B v k n G t :=
  ⟨h.own.kept hg (by cases v.ownBlock <;> simp), fun i hi => ⟨(h.row i hi).1, (h.row i hi).2.of_block (hg.block _ (h.row i hi).2.lt (by simp))⟩, h.inj⟩
theorem TabG.alloc (h : TabG w B v k n G t) (o : Obj) : TabG (w.alloc o) B v k n G t := h.of_blocks (World.grownBy_alloc w o none)
theorem TabG.below (h : TabG w B v k n G t) {B' : Nat} (hb : Below B' w w') (hB : w.heap.size ≤ B') : TabG w' B v k n G t := h.of_blocks (below_grownBy hb hB none)
theorem TabG.lower (h : TabG w B v k n G t) {B' : Nat} (hB : B' ≤ B) : TabG w B' v k n G t := ⟨own_lower h.own hB, fun i hi => ⟨Nat.le_trans hB (h.row i hi).1, (h.row i hi).2⟩, h.inj⟩
theorem TabG.cell (h : TabG w B v k n G t) {i j : Nat} (hi : i < k) (hj : j < n) : w.cell? ⟨G i, j, none⟩ = some (.bool (t i j)) := (h.row i hi).2.cell hj
theorem TabG.frozen (h : TabG w B v k n G t) {i : Nat} (hi : i < k) (j : Nat) : w.frozen? ⟨G i, j, none⟩ = false := (h.row i hi).2.frozen j
theorem TabG.blk (h : TabG w B v k n G t) {i : Nat} (hi : i < k) : B ≤ G i ∧ G i < w.heap.size := ⟨(h.row i hi).1, (h.row i hi).2.lt⟩
theorem TabG.outer {g c : Nat} (h : TabG w B (.slice (some ⟨g, 0, none⟩) k c) k n G t) {i : Nat} (hi : i < k) : w.cell? ⟨g, i, none⟩ = some (.slice (some ⟨G i, 0, none⟩) n n) := by
  rw [h.own.cellAt i (by omega)]
  simp [hi]
theorem row_ne_own {e b t : Nat} {size m : Nat} {xs : List Value} {f : Nat → Value} (h : w.ownsRow B e size v m xs) (hr : w.rowIs b t n f) (hne : e ≠ t) : v.ownBlock ≠ some b := by
  rcases h.2 with ⟨rfl, _⟩ | ⟨g, cap, cur, rfl, _, hh, _⟩
  · simp [Value.ownBlock]
  · intro e
    have hgb : g = b := by simpa [Value.ownBlock] using e
    subst hgb
    obtain ⟨c, hc, _⟩ := hr
    rw [hh] at hc
    injection hc with hc
    injection hc with _ ht
    exact hne ht
/-- a store into the table -/
theorem TabG.set (h : TabG w B v k n G t) {a b : Nat} (ha : a < k) (x : Bool) : TabG (w.setCell ⟨G a, b, none⟩ (.bool x)) B v k n G (upd t a b x) := by
  have hne := row_ne_own h.own (h.row a ha).2 (by decide)
  have hg : w.grownBy (w.setCell ⟨G a, b, none⟩ (.bool x)) (some (G a)) := ⟨rfl, rfl, rfl, by simp, fun i _ hi => Below.heap_setCell w _ _ i (fun e => hi (by rw [e]))⟩
  refine ⟨h.own.kept hg (.inr hne), fun i hi => ⟨(h.row i hi).1, ?_⟩, h.inj⟩
  by_cases e : i = a
  · subst e
    exact ((h.row i hi).2.set b (.bool x)).congr fun j _ => by
      unfold upd
      by_cases hj : j = b <;> simp [hj]
  · have hG : G i ≠ G a := fun hh => e (h.inj i a hi ha hh)
    exact ((h.row i hi).2.setOther (a := ⟨G a, b, none⟩) hG _).congr fun j _ => by unfold upd; simp [e]
/-- one row more -/
theorem TabG.push {W : World} {v' : Value} (h : TabG W B v k n G (fun _ _ => false)) (hB : B ≤ W.heap.size) {o : Obj} (hg : ((W.alloc (.cells (madeCells #[.bool false] n) 4)).alloc o).grownBy w' v.ownBlock)
    (hown : w'.ownsRow B 86 1 v' (k + 1) (((List.range k).map fun i => Value.slice (some ⟨G i, 0, none⟩) n n) ++ [.slice (some ⟨W.heap.size, 0, none⟩) n n])) :
    TabG w' B v' (k + 1) n (fun i => if i < k then G i else W.heap.size) (fun _ _ => false) := by
  have h2 := (h.alloc (.cells (madeCells #[.bool false] n) 4)).alloc o
  have hnew : ((W.alloc (.cells (madeCells #[.bool false] n) 4)).alloc o).rowIs W.heap.size 4 n (fun _ => .bool false) := (World.rowIs_made W (.bool false) n 4).alloc o
  have hne : ∀ b f, ((W.alloc (.cells (madeCells #[.bool false] n) 4)).alloc o).rowIs b 4 n f → w'.rowIs b 4 n f := fun b f hr =>
    hr.of_block (hg.block b hr.lt (fun e => row_ne_own h2.own hr (by decide) e.symm))
  refine ⟨?_, fun i hi => ?_, fun i j hi hj e => ?_⟩
  · have : (List.range (k + 1)).map (fun i => Value.slice (some ⟨if i < k then G i else W.heap.size, 0, none⟩) n n) = ((List.range k).map fun i => Value.slice (some ⟨G i, 0, none⟩) n n) ++ [.slice (some ⟨W.heap.size, 0, none⟩) n n] := by
      rw [List.range_succ, List.map_append]
      congr 1
      · exact List.map_congr_left fun i hi => by simp [List.mem_range.1 hi]
      · simp
    rw [this]
    exact hown
  · by_cases hik : i < k
    · simp only [hik, if_true]
      exact ⟨(h.row i hik).1, hne _ _ (h2.row i hik).2⟩
    · simp only [hik, if_false]
      exact ⟨hB, hne _ _ hnew⟩
  · by_cases hik : i < k <;> by_cases hjk : j < k <;> simp only [hik, hjk, if_true, if_false] at e
    · exact h.inj i j hik hjk e
    · have := (h.row i hik).2.lt; omega
    · have := (h.row j hjk).2.lt; omega
    · omega
theorem TabG.nil (w : World) (B n : Nat) (G : Nat → Nat) (t : Nat → Nat → Bool) : TabG w B (.slice none 0 0) 0 n G t := ⟨World.ownsRow_nil _ _ _ _, fun i hi => by omega, fun i j hi => by omega⟩
end
theorem own_cap {w : World} {base : Nat} {e : TypeId} {size n c : Nat} {A : Option Addr} {xs : List Value} (h : w.ownsRow base e size (.slice A n c) n xs) : n ≤ c := by
  rcases h.2 with ⟨h1, h2⟩ | ⟨g, cap, cur, hv, _, _, hm, _, _⟩
  · omega
  · simp only [Value.slice.injEq] at hv
    omega
theorem own_shape {w : World} {B : Nat} {e : TypeId} {size m : Nat} {v : Value} {xs : List Value} (h : w.ownsRow B e size v m xs) : ∃ A c, v = .slice A m c ∧ m ≤ c + 0 ∧ c ≤ maxLen := by
  rcases h.2 with ⟨rfl, rfl⟩ | ⟨g, cap, cur, rfl, _, _, hm, hc, _⟩
  · exact ⟨none, 0, rfl, Nat.le_refl _, by simp [maxLen]⟩
  · exact ⟨_, cap, rfl, hm, hc⟩
/-- the one cell of a slice that was built for an append -/
theorem one_cell {w : World} {g : Nat} {v : Value} (h : w.cell? ⟨g, 0, none⟩ = some v) : ∀ j u, [v][j]? = some u → w.cell? ((⟨g, 0, none⟩ : Addr).add j) = some u := by
  intro j u hu
  match j, hu with
  | 0, hu => simp at hu; subst hu; simpa [Addr.add] using h
theorem one_one {v : Value} (h : v.oneCell' = true) : ∀ u ∈ [v], u.oneCell' = true := by
  intro u hu
  simp at hu
  subst hu
  exact h
/-- A call came back with a table. -/
def GotTab (w : World) (n : Nat) (t : Nat → Nat → Bool) (e : Ending) (w' : World) : Prop :=
  ∃ A c G, e = .returned (.slice A n c) ∧ TabG w' w.heap.size (.slice A n c) n n G t ∧ Below w.heap.size w w'
end Go.Proofs.YthpapkfpcijpoaaDoor
/-
  THE WIDEST DISTANCE, in pure terms.
-/
namespace Go.Proofs.YthpapkfpcijpoaaDoor
open Go.RowKit

section
variable {n : Nat} {t : Nat → Nat → Bool}
theorem rch_join {a x y d e : Nat} (h1 : rch n t a d x = true) (h2 : rch n t x e y = true) : rch n t a (d + e) y = true := by
  induction e generalizing y with
  | zero => simp [rch] at h2; rw [h2]; exact h1
  | succ e ih =>
    rcases rch_succ.1 h2 with h | ⟨z, hz, h3, h4⟩
    · exact rch_mono (ih h) (by omega)
    · exact rch_succ.2 (.inr ⟨z, hz, ih h3, h4⟩)
theorem rch_back (hs : ∀ x y, t x y = t y x) (ht : ∀ y x, t y x = true → x < n) {a x d : Nat} (h : rch n t a d x = true) : rch n t x d a = true := by
  induction d generalizing x with
  | zero => simp [rch] at h; subst h; simp [rch]
  | succ d ih =>
    rcases rch_succ.1 h with h | ⟨y, hy, h1, h2⟩
    · exact rch_mono (ih h) (by omega)
    · have h3 : rch n t x 1 y = true := rch_succ.2 (.inr ⟨x, ht y x h2, by simp [rch], by rw [hs]; exact h2⟩)
      have := rch_join h3 (ih h1)
      rwa [Nat.add_comm] at this
theorem dist_comm (hs : ∀ x y, t x y = t y x) (ht : ∀ y x, t y x = true → x < n) (a x : Nat) : distO n t a x = distO n t x a := by
  refine IsDist.eq ?_
  have hb : ∀ d, rch n t a d x = rch n t x d a := fun d => by
    rw [Bool.eq_iff_iff]
    exact ⟨rch_back hs ht, rch_back hs ht⟩
  rcases distO_spec n t x a with ⟨h1, h2⟩ | ⟨d, h1, h2, h3⟩
  · exact .inl ⟨h1, fun d => by rw [hb]; exact h2 d⟩
  · exact .inr ⟨d, h1, by rw [hb]; exact h2, fun e he => by rw [hb]; exact h3 e he⟩
end
/-- the greatest of all distances -/
def IsWide (n : Nat) (D : Nat → Nat → Int) (m : Int) : Prop := 0 ≤ m ∧ (∀ x y, x < n → y < n → D x y ≤ m) ∧ (m = 0 ∨ ∃ x y, x < n ∧ y < n ∧ D x y = m)
theorem IsWide.unique {n : Nat} {D : Nat → Nat → Int} {m m' : Int} (h : IsWide n D m) (h' : IsWide n D m') : m = m' := by
  have key : ∀ {m m' : Int}, IsWide n D m → IsWide n D m' → m ≤ m' := by
    intro m m' h h'
    rcases h.2.2 with rfl | ⟨x, y, hx, hy, rfl⟩
    · exact h'.1
    · exact h'.2.1 x y hx hy
  have h1 := key h h'
  have h2 := key h' h
  omega
/-- the greatest distance of the first pairs -/
def wideL (D : Nat → Nat → Int) (L : PL) : Int := L.foldl (fun m q => max m (D q.1.toNat q.2.toNat)) 0
theorem wideL_snoc (D : Nat → Nat → Int) (L : PL) (q : Int × Int) : wideL D (L ++ [q]) = max (wideL D L) (D q.1.toNat q.2.toNat) := by simp [wideL]
theorem wideL_facts (D : Nat → Nat → Int) (L : PL) : 0 ≤ wideL D L ∧ (∀ q ∈ L, D q.1.toNat q.2.toNat ≤ wideL D L) ∧ (wideL D L = 0 ∨ ∃ q ∈ L, D q.1.toNat q.2.toNat = wideL D L) := by
  have key : ∀ (L : PL) (m0 : Int), m0 ≤ L.foldl (fun m q => max m (D q.1.toNat q.2.toNat)) m0 ∧ (∀ q ∈ L, D q.1.toNat q.2.toNat ≤ L.foldl (fun m q => max m (D q.1.toNat q.2.toNat)) m0) ∧
      (L.foldl (fun m q => max m (D q.1.toNat q.2.toNat)) m0 = m0 ∨ ∃ q ∈ L, D q.1.toNat q.2.toNat = L.foldl (fun m q => max m (D q.1.toNat q.2.toNat)) m0) := by
    intro L
    induction L with
    | nil => intro m0; exact ⟨Int.le_refl _, fun q hq => absurd hq List.not_mem_nil, Or.inl rfl⟩
    | cons p L ih =>
      intro m0
      obtain ⟨h1, h2, h3⟩ := ih (max m0 (D p.1.toNat p.2.toNat))
      simp only [List.foldl_cons]
      refine ⟨by omega, fun q hq => ?_, ?_⟩
      · rcases List.mem_cons.1 hq with rfl | hq
        · omega
        · exact h2 q hq
      · rcases h3 with h3 | ⟨q, hq, h3⟩
        · rw [h3]
          by_cases hm : m0 ≤ D p.1.toNat p.2.toNat
          · right; exact ⟨p, List.mem_cons_self, by omega⟩
          · left; omega
        · right; exact ⟨q, List.mem_cons_of_mem _ hq, h3⟩
  exact key L 0
theorem wide_all {n : Nat} {t : Nat → Nat → Bool} (hs : ∀ x y, t x y = t y x) (ht : ∀ y x, t y x = true → x < n) : IsWide n (distO n t) (wideL (distO n t) (allP n)) := by
  obtain ⟨h1, h2, h3⟩ := wideL_facts (distO n t) (allP n)
  refine ⟨h1, fun x y hx hy => ?_, ?_⟩
  · rcases Nat.lt_trichotomy x y with h | h | h
    · exact h2 ((x : Int), (y : Int)) (mem_allP.2 ⟨by simp, by simp; omega, by simp; omega⟩)
    · subst h; rw [distO_self]; exact h1
    · rw [dist_comm hs ht]; exact h2 ((y : Int), (x : Int)) (mem_allP.2 ⟨by simp, by simp; omega, by simp; omega⟩)
  · rcases h3 with h3 | ⟨q, hq, h3⟩
    · exact .inl h3
    · have := mem_allP.1 hq
      exact .inr ⟨q.1.toNat, q.2.toNat, by omega, by omega, h3⟩
/-- whether all pairs have a distance -/
noncomputable def hangB (n : Nat) (t : Nat → Nat → Bool) : Bool := (allP n).all fun q => decide (0 ≤ distO n t q.1.toNat q.2.toNat)
theorem hang_no {n : Nat} {t : Nat → Nat → Bool} (hs : ∀ x y, t x y = t y x) (ht : ∀ y x, t y x = true → x < n) {x y : Nat} (hx : x < n) (hy : y < n) (h : distO n t x y < 0) : hangB n t = false := by
  cases e : hangB n t with
  | false => rfl
  | true =>
    unfold hangB at e
    rw [List.all_eq_true] at e
    rcases Nat.lt_trichotomy x y with h1 | h1 | h1
    · have := of_decide_eq_true (e ((x : Int), (y : Int)) (mem_allP.2 ⟨by simp, by simp; omega, by simp; omega⟩))
      simp at this; omega
    · subst h1; rw [distO_self] at h; omega
    · have := of_decide_eq_true (e ((y : Int), (x : Int)) (mem_allP.2 ⟨by simp, by simp; omega, by simp; omega⟩))
      rw [dist_comm hs ht] at h
      simp at this; omega
theorem hang_yes {n : Nat} {t : Nat → Nat → Bool} (h : ∀ x y, x < n → y < n → 0 ≤ distO n t x y) : hangB n t = true := by
  unfold hangB
  rw [List.all_eq_true]
  intro q hq
  have := mem_allP.1 hq
  exact decide_eq_true (h _ _ (by omega) (by omega))
noncomputable def resWidestDistance (p : Int) (l : PL) : Int × Bool := if isP p l && decide (0 < p) && hangB p.toNat (adj l) then (wideL (distO p.toNat (adj l)) (allP p.toNat), true) else (0, false)
end Go.Proofs.YthpapkfpcijpoaaDoor
/-
  A PARTY OF AT LEAST ONE PERSON: the model's test; the greater of two numbers.
-/
namespace Go.Proofs.YthpapkfpcijpoaaDoor
open Go.RowKit

set_option maxHeartbeats 400000 in
theorem l1Most_any (a b : Int) (w : World) : Calls Tryd.prog 60 #[.int .i64 a, .int .i64 b] w fun e w' => e = .returned (.int .i64 (max a b)) ∧ w = w' := by
  by_cases h : b < a
  · rw [show max a b = a by omega]
    go_enter Tryd.func60, Tryd.ntmps60
    go_wp2
    go_ret
    exact ⟨rfl, rfl⟩
  · rw [show max a b = b by omega]
    go_enter Tryd.func60, Tryd.ntmps60
    go_wp2
    go_ret
    exact ⟨rfl, rfl⟩
set_option maxHeartbeats 1000000 in
theorem cfSome_any (p : Int) (l : PL) (A : Option Addr) (c : Nat) (w : World) (hl : l.length ≤ 1048576) (hA : CRead w w.heap.size A (pcells l)) :
    Calls Tryd.prog 59 #[.agg #[.int .i64 p, .slice A l.length c]] w fun e w' => e = .returned (.bool (isP p l && decide (0 < p))) ∧ Below w.heap.size w w' := by
  have hr : CRead (w.alloc (Obj.cells #[.int .i64 p, .slice A l.length c] 31)) (w.alloc (Obj.cells #[.int .i64 p, .slice A l.length c] 31)).heap.size A (pcells l) := (hA.below (B' := w.heap.size) (by go_grown) (Nat.le_refl _)).more (by go_size)
  have call := paGood_any p l A c _ hl hr
  cases hp : isP p l with
  | false =>
    rw [hp] at call
    have Call := Lib.hid call
    clear call hp
    rw [Bool.false_and]
    go_enter Tryd.func59, Tryd.ntmps59
    go_wp2_with fail
    refine Call.out.mono ?_
    rintro e w2 ⟨rfl, hb2⟩
    simp only [World.size_alloc] at hb2
    go_wp2
    go_ret
    exact ⟨rfl, Below.trans (b := _) (by go_grown) (hb2.mono (by omega))⟩
  | true =>
    rw [hp] at call
    have Call := Lib.hid call
    clear call hp
    rw [Bool.true_and]
    by_cases h0 : 0 < p
    · rw [decide_eq_true h0]
      go_enter Tryd.func59, Tryd.ntmps59
      go_wp2_with fail
      refine Call.out.mono ?_
      rintro e w2 ⟨rfl, hb2⟩
      have c0 : w2.cell? ⟨w.heap.size, 0, none⟩ = some (.int .i64 p) := carry hb2 (by simp) (by simp)
      simp only [World.size_alloc] at hb2
      go_wp2
      go_ret
      exact ⟨rfl, Below.trans (b := _) (by go_grown) (hb2.mono (by omega))⟩
    · go_enter Tryd.func59, Tryd.ntmps59
      go_wp2_with fail
      refine Call.out.mono ?_
      rintro e w2 ⟨rfl, hb2⟩
      have c0 : w2.cell? ⟨w.heap.size, 0, none⟩ = some (.int .i64 p) := carry hb2 (by simp) (by simp)
      simp only [World.size_alloc] at hb2
      go_wp2
      go_ret
      exact ⟨rfl, Below.trans (b := _) (by go_grown) (hb2.mono (by omega))⟩
end Go.Proofs.YthpapkfpcijpoaaDoor
/-
  THE MODEL's TABLE OF A PARTY, AND THE PARTY OF A TABLE, by their contracts.
-/
namespace Go.Proofs.YthpapkfpcijpoaaDoor
open Go.RowKit

theorem Tryd.infoRow : (Tryd.prog.info? 86).map (fun i => (i.zero, i.size, i.bytes)) = some (some (.slice none 0 0), 1, 24) := by kernel_rfl

set_option maxHeartbeats 2000000 in
set_option maxRecDepth 100000 in
theorem paTable_any (p : Int) (l : PL) (A : Option Addr) (c : Nat) (w : World) (hp : isP p l = true) (hA : CRead w w.heap.size A (pcells l)) :
    Calls Tryd.prog 40 #[.agg #[.int .i64 p, .slice A l.length c]] w (GotTab w p.toNat (adj l)) := by
  obtain ⟨i0, hi, hz0, hz1, hz2⟩ := info_parts Tryd.infoRow
  obtain ⟨i1, hj, hy0, hy1, hy2⟩ := info_parts Tryd.infoBool
  obtain ⟨n, rfl⟩ : ∃ n : Nat, p = n := ⟨p.toNat, by have := isP_range hp; omega⟩
  have hn := isP_range hp
  have hlen : l.length ≤ 66 := by have h1 := isP_length hp; have h2 := people_sq hn.1 hn.2; omega
  simp only [Int.toNat_natCast]
  have Hp := Lib.hid hp
  clear hp
  generalize hB : w.heap.size + 1 = B
  have hBw : w.heap.size < B := by omega
  have HB := Lib.hid hB
  have hB0 : w.heap.size + 1 ≤ B := by omega
  have hB1 : B ≤ w.heap.size + 1 := by omega
  clear hB
  go_enter Tryd.func40, Tryd.ntmps40
  go_wp2
  go_loopw [3, 4] (fun v i wr => ∃ k : Nat, ∃ G, k ≤ n ∧ i = .int .i64 k ∧ TabG wr B v k n G (fun _ _ => false) ∧ Below B (w.alloc (Obj.cells #[.int .i64 (n : Int), .slice A l.length c] 31)) wr) (fun _ i _ => n - (intOf i).toNat)
  case atStart => exact ⟨0, fun _ => 0, Nat.zero_le _, rfl, TabG.nil _ _ _ _ _, Below.refl _ _⟩
  case round =>
    obtain ⟨k, G, hk, rfl, htab, hb⟩ := hrel
    have hs := hb.size
    simp only [World.size_alloc] at hs
    have u0 : wr.cell? ⟨w.heap.size, 0, none⟩ = some (.int .i64 n) := carry hb (by simp) hBw
    have u1 : wr.cell? ⟨w.heap.size, 1, none⟩ = some (.slice A l.length c) := carry hb (by simp) hBw
    by_cases hlt : k < n
    · have hki : (k : Int) < n := by omega
      go_wp2_with (first
        | (at_make; refine wpList_make_row _ rfl _ _ 86 rfl 4 i1 (.bool false) Tryd.underlying86 hj hy0 hy1 rfl _ _ n rfl rfl (by rw [hy2]; omega) (by omega) ?_)
        | (at_builtin; refine wpList_append_own _ rfl _ _ 58 rfl B 86 i0 (.slice none 0 0) 1 24 Tryd.underlying58 hi hz0 hz1 hz2 rfl (by decide) _ _ _ rfl ((htab.own.alloc _).alloc _) ⟨wr.heap.size + 1, 0, none⟩ 1 1 [.slice (some ⟨wr.heap.size, 0, none⟩) n n] rfl rfl (one_cell (by simp)) (one_one rfl) (by unfold maxLen; omega) (by omega) (by simp; omega) ?_; intro v' w1 hown' hgrow _; have htab' := htab.push (by omega) hgrow hown'))
      have hb1 : Below B (w.alloc (Obj.cells #[.int .i64 (n : Int), .slice A l.length c] 31)) w1 := ((hb.alloc (by omega) _).alloc (by simp; omega) _).grown hgrow (by simp; omega) (fun b hb => (htab.own.lt b hb).1)
      clear hown' hgrow
      go_roundw
      case rel => exact ⟨k + 1, _, by omega, by go_num, htab', hb1⟩
      case measure => simp [intOf]; omega
    · have hkl : n = k := by omega
      subst hkl
      have hge : ¬ ((n : Int) < n) := by omega
      obtain ⟨A', c', rfl, _⟩ := own_shape htab.own
      go_wp2
      go_loopw [22] (fun i wx => ∃ m : Nat, m ≤ l.length ∧ i = .int .i64 m ∧ TabG wx B (.slice A' n c') n n G (adj (l.take m)) ∧ Below B (w.alloc (Obj.cells #[.int .i64 (n : Int), .slice A l.length c] 31)) wx) (fun i _ => l.length - (intOf i).toNat)
      case atStart => exact ⟨0, Nat.zero_le _, rfl, by simpa [adj_nil] using htab, hb⟩
      case round =>
        clear htab hb u0 u1 hs
        obtain ⟨m, hm, rfl, htab, hb⟩ := hrel
        have hs := hb.size
        simp only [World.size_alloc] at hs
        have hbw : Below w.heap.size w wr := Below.trans (b := _) (by go_grown) (hb.mono (by omega))
        by_cases hmt : m < l.length
        · obtain ⟨⟨x, y⟩, hx⟩ := getSome l m hmt
          obtain ⟨h0, h1, h2⟩ := goodAt_pair (isP_good Hp.out hmt) hx
          obtain ⟨a, rfl⟩ : ∃ a : Nat, x = a := ⟨x.toNat, by omega⟩
          obtain ⟨b, rfl⟩ : ∃ b : Nat, y = b := ⟨y.toNat, by omega⟩
          obtain ⟨bb, off, rfl, hbb, c0, c1⟩ := (hA.below hbw (Nat.le_refl _)).pair hx
          obtain ⟨g, rfl⟩ := own_form htab.own (by omega)
          have hmi : (m : Int) < (l.length : Int) := by omega
          have han : a < n := by omega
          have hbn : b < n := by omega
          have ha : (a : Int) < n := by omega
          have hb' : (b : Int) < n := h2
          have hGa := htab.blk han
          have hGb := htab.blk hbn
          have Hx := Lib.hid hx
          clear hx
          go_wp2
          generalize hW : wr.alloc (Obj.cells #[.int .i64 (a : Int), .int .i64 (b : Int)] 85) = W
          have tW : TabG W B (.slice (some ⟨g, 0, none⟩) n c') n n G (adj (l.take m)) := by rw [← hW]; exact htab.alloc _
          have bW : Below B (w.alloc (Obj.cells #[.int .i64 (n : Int), .slice (some ⟨bb, off, none⟩) l.length c] 31)) W := by rw [← hW]; exact hb.alloc (by omega) _
          have e0 : W.cell? ⟨wr.heap.size, 0, none⟩ = some (.int .i64 a) := by rw [← hW]; simp
          have e1 : W.cell? ⟨wr.heap.size, 1, none⟩ = some (.int .i64 b) := by rw [← hW]; simp
          clear hW
          have t1 := tW.set (b := b) han true
          have t2 := t1.set (b := a) hbn true
          rw [← adj_snoc] at t2
          have d0 := tW.outer han
          have d1 := tW.cell han hbn
          have d2 := tW.frozen han b
          have d3 := t1.outer hbn
          have d4 := t1.cell hbn han
          have d5 := t1.frozen hbn a
          have e2 : (W.setCell ⟨G a, b, none⟩ (.bool true)).cell? ⟨wr.heap.size, 0, none⟩ = some (.int .i64 a) := by rw [World.cell?_setCell_other _ _ _ _ (by simp)]; exact e0
          have e3 : (W.setCell ⟨G a, b, none⟩ (.bool true)).cell? ⟨wr.heap.size, 1, none⟩ = some (.int .i64 b) := by rw [World.cell?_setCell_other _ _ _ _ (by simp)]; exact e1
          have T2 := Lib.hid t2
          clear t1 t2 tW htab
          refine wp_region_still_tail 8 (by kernel_rfl) (by kernel_rfl) ?_
          simp only [List.take_succ_cons, List.take_zero, List.drop_succ_cons, List.drop_zero]
          repeat still_step
          refine wpStill_nil ?_
          change wpList _ _ _ _ _ (World.drew _)
          go_wp2
          generalize hW2 : (W.setCell ⟨G a, b, none⟩ (.bool true)).drew = W2
          have f0 : W2.cell? ⟨wr.heap.size, 0, none⟩ = some (.int .i64 a) := by rw [← hW2]; exact e2
          have f1 : W2.cell? ⟨wr.heap.size, 1, none⟩ = some (.int .i64 b) := by rw [← hW2]; exact e3
          have f3 : W2.cell? ⟨g, b, none⟩ = some (.slice (some ⟨G b, 0, none⟩) n n) := by rw [← hW2]; exact d3
          have f4 : W2.cell? ⟨G b, a, none⟩ = some (.bool (upd (adj (l.take m)) a b true b a)) := by rw [← hW2]; exact d4
          have f5 : W2.frozen? ⟨G b, a, none⟩ = false := by rw [← hW2]; exact d5
          have b2 : Below B (w.alloc (Obj.cells #[.int .i64 (n : Int), .slice (some ⟨bb, off, none⟩) l.length c] 31)) (W2.setCell ⟨G b, a, none⟩ (.bool true)).drew := by
            rw [← hW2]
            exact (((bW.setCell (p := ⟨G a, b, none⟩) hGa.1 _).drew).setCell (p := ⟨G b, a, none⟩) hGb.1 _).drew
          have t3 : TabG (W2.setCell ⟨G b, a, none⟩ (.bool true)).drew B (.slice (some ⟨g, 0, none⟩) n c') n n G (adj (l.take m ++ [((a : Int), (b : Int))])) := by
            rw [← hW2]
            exact T2.out.of_blocks ⟨rfl, rfl, rfl, Nat.le_refl _, fun _ _ _ => rfl⟩
          have B2 := Lib.hid b2
          have T3 := Lib.hid t3
          clear hW2 d0 d1 d2 d3 d4 d5 e0 e1 e2 e3 T2 bW b2 t3
          refine wp_region_still_tail 8 (by kernel_rfl) (by kernel_rfl) ?_
          simp only [List.take_succ_cons, List.take_zero, List.drop_succ_cons, List.drop_zero]
          repeat still_step
          refine wpStill_nil ?_
          change wpList _ _ _ _ _ (World.drew _)
          go_wp2
          go_roundw
          case rel =>
            refine ⟨m + 1, by omega, by go_num, ?_, B2.out⟩
            rw [List.take_add_one, Hx.out, Option.toList_some]
            exact T3.out
          case measure => simp [intOf]; omega
        · have hml : m = l.length := by omega
          subst hml
          have hgm : ¬ ((l.length : Int) < l.length) := by omega
          go_wp2
          go_ret
          rw [List.take_length] at htab
          exact ⟨A', c', G, rfl, htab.lower (by omega), hbw⟩
end Go.Proofs.YthpapkfpcijpoaaDoor
/-
  THE MODEL's PARTY OF A TABLE, by its contract.
-/
namespace Go.Proofs.YthpapkfpcijpoaaDoor
open Go.RowKit

def tabP (n : Nat) (t : Nat → Nat → Bool) : PL := (allP n).filter fun q => t q.1.toNat q.2.toNat

/-- 'paOf' in the middle of its loops: the result's box is as it was made, the party's box holds the pairs so far. -/
structure OfRel (w wr : World) (n : Nat) (v : Value) (L : PL) : Prop where
  below : Below w.heap.size w wr
  res : wr.heap[w.heap.size]? = some (.cells #[.int .i64 0, .slice none 0 0] 31 (0, 0))
  box : wr.heap[w.heap.size + 1]? = some (.cells #[.int .i64 n, v] 31 (0, 0))
  own : wr.ownsRow (w.heap.size + 2) 85 2 v L.length (pcells L)
theorem lt_of_heap {w : World} {b : Nat} {o : Obj} (h : w.heap[b]? = some o) : b < w.heap.size := (Array.getElem?_eq_some_iff.1 h).1
theorem OfRel.start (w : World) (n : Nat) : OfRel w ((w.alloc (.cells #[.int .i64 0, .slice none 0 0] 31)).alloc (.cells #[.int .i64 n, .slice none 0 0] 31)) n (.slice none 0 0) [] := by
  refine ⟨by go_grown, ?_, ?_, World.ownsRow_nil _ _ _ _⟩
  · rw [Below.heap_alloc _ _ _ (by simp)]
    exact heap_alloc_new w _
  · have := heap_alloc_new (w.alloc (.cells #[.int .i64 0, .slice none 0 0] 31)) (.cells #[.int .i64 n, .slice none 0 0] 31)
    simpa using this
/-- one pair more -/
theorem OfRel.push {w wr w1 : World} {n : Nat} {v v' : Value} {L : PL} {x y : Int} {o : Obj} (h : OfRel w wr n v L) (hown : w1.ownsRow (w.heap.size + 2) 85 2 v' (L.length + 1) (pcells L ++ [.int .i64 x, .int .i64 y])) (hg : (wr.alloc o).grownBy w1 v.ownBlock) :
    OfRel w (w1.setCell ⟨w.heap.size + 1, 1, none⟩ v') n v' (L ++ [(x, y)]) := by
  have hs := lt_of_heap h.box
  have hb : ∀ k, k < w.heap.size + 2 → w1.heap[k]? = wr.heap[k]? := fun k hk => by
    rw [hg.block k (by simp; omega) (fun e => by have := (h.own.lt k e.symm).1; omega), Below.heap_alloc _ _ _ (by omega)]
  have e1 := (hb (w.heap.size + 1) (by omega)).trans h.box
  refine ⟨?_, ?_, ?_, ?_⟩
  · exact ((h.below.alloc (by omega) o).grown hg (by simp; omega) (fun k hk => by have := (h.own.lt k hk).1; omega)).setCell (p := ⟨w.heap.size + 1, 1, none⟩) (by simp) _
  · rw [heap_setCell_other _ _ _ _ (by simp)]
    exact (hb _ (by omega)).trans h.res
  · exact heap_setCell_same w1 (w.heap.size + 1) 1 _ _ v' e1
  · have e : (L ++ [(x, y)]).length = L.length + 1 := by simp
    rw [e, pcells_append]
    refine hown.kept (row := some (w.heap.size + 1)) ⟨rfl, rfl, rfl, by simp, fun k _ hk => heap_setCell_other _ _ _ _ (fun e => hk (by rw [e]))⟩ ?_
    right
    intro e
    have := (hown.lt _ e).1
    omega
/-- what the walk reads behind an append -/
theorem OfRel.kept {w wr w1 : World} {n : Nat} {v : Value} {L : PL} {o : Obj} (h : OfRel w wr n v L) (hg : (wr.alloc o).grownBy w1 v.ownBlock) :
    w1.cell? ⟨w.heap.size + 1, 1, none⟩ = some v ∧ w1.frozen? ⟨w.heap.size + 1, 1, none⟩ = false ∧ wr.heap.size < w1.heap.size ∧ w.heap.size + 1 < w1.heap.size ∧ w.heap.size < w1.heap.size := by
  have hs := lt_of_heap h.box
  have e1 : w1.heap[w.heap.size + 1]? = some (.cells #[.int .i64 n, v] 31 (0, 0)) := by
    rw [hg.block _ (by simp; omega) (fun e => by have := (h.own.lt _ e.symm).1; omega), Below.heap_alloc _ _ _ (by omega)]
    exact h.box
  have := hg.size
  simp only [World.size_alloc] at this
  exact ⟨by rw [cell_of_row _ _ _ _ _ _ e1]; rfl, frozen_of_row _ _ _ _ _ e1, by omega, by omega, by omega⟩
theorem two_cells {w : World} {g : Nat} {u v : Value} (h : w.cell? ⟨g, 0, none⟩ = some u) (h' : w.cell? ⟨g, 1, none⟩ = some v) : ∀ j x, [u, v][j]? = some x → w.cell? ((⟨g, 0, none⟩ : Addr).add j) = some x := by
  intro j x hx
  match j, hx with
  | 0, hx => simp at hx; subst hx; simpa [Addr.add] using h
  | 1, hx => simp at hx; subst hx; simpa [Addr.add] using h'
theorem two_one {u v : Value} (h : u.oneCell' = true) (h' : v.oneCell' = true) : ∀ x ∈ [u, v], x.oneCell' = true := by
  intro x hx
  simp at hx
  rcases hx with rfl | rfl
  · exact h
  · exact h'
theorem OfRel.cells {w wr : World} {n : Nat} {v : Value} {L : PL} (h : OfRel w wr n v L) : wr.cell? ⟨w.heap.size, 0, none⟩ = some (.int .i64 0) ∧ wr.cell? ⟨w.heap.size, 1, none⟩ = some (.slice none 0 0) ∧
    wr.cell? ⟨w.heap.size + 1, 0, none⟩ = some (.int .i64 n) ∧ wr.cell? ⟨w.heap.size + 1, 1, none⟩ = some v ∧ (∀ j, wr.frozen? ⟨w.heap.size, j, none⟩ = false) ∧ (∀ j, wr.frozen? ⟨w.heap.size + 1, j, none⟩ = false) :=
  ⟨by rw [cell_of_row _ _ _ _ _ _ h.res]; rfl, by rw [cell_of_row _ _ _ _ _ _ h.res]; rfl, by rw [cell_of_row _ _ _ _ _ _ h.box]; rfl, by rw [cell_of_row _ _ _ _ _ _ h.box]; rfl,
    fun j => frozen_of_row _ _ j _ _ h.res, fun j => frozen_of_row _ _ j _ _ h.box⟩

theorem filter_upTo_yes {n a b : Nat} {t : Nat → Nat → Bool} (h : a < b) (ht : t a b = true) : (upTo n a (b + 1)).filter (fun q => t q.1.toNat q.2.toNat) = (upTo n a b).filter (fun q => t q.1.toNat q.2.toNat) ++ [((a : Int), (b : Int))] := by
  rw [upTo_next h, List.filter_append]
  simp [ht]
theorem filter_upTo_no {n a b : Nat} {t : Nat → Nat → Bool} (h : a < b) (ht : t a b = false) : (upTo n a (b + 1)).filter (fun q => t q.1.toNat q.2.toNat) = (upTo n a b).filter (fun q => t q.1.toNat q.2.toNat) := by
  rw [upTo_next h, List.filter_append]
  simp [ht]
theorem upTo_length {n a b : Nat} (ha : a ≤ 12) (hb : b ≤ 13) (hn : n ≤ 12) : (upTo n a b).length ≤ 1000 := by
  unfold upTo rowP
  simp only [List.length_append, List.length_flatMap, List.length_map, List.length_range']
  have h : ∀ l : List Nat, (l.map fun a => n - (a + 1)).sum ≤ l.length * n := by
    intro l
    induction l with
    | nil => simp
    | cons x l ih => simp only [List.map_cons, List.sum_cons, List.length_cons, Nat.add_mul, Nat.one_mul]; omega
  have h1 := h (List.range a)
  rw [List.length_range] at h1
  have h2 : a * n ≤ 12 * 12 := Nat.mul_le_mul ha hn
  omega

end Go.Proofs.YthpapkfpcijpoaaDoor
/-
  THE MODEL's PARTY WITH FRIENDS AND STRANGERS EXCHANGED, by its contract.
-/
namespace Go.Proofs.YthpapkfpcijpoaaDoor
open Go.RowKit

def otherP (n : Nat) (l : PL) : PL := (allP n).filter fun q => !l.contains q
theorem tabP_congr {n : Nat} {t t' : Nat → Nat → Bool} (h : ∀ i j, i < j → j < n → t i j = t' i j) : tabP n t = tabP n t' := by
  unfold tabP
  refine List.filter_congr fun q hq => ?_
  have := mem_allP.1 hq
  exact h _ _ (by omega) (by omega)
theorem tabP_contains {n : Nat} {l : PL} (f : Bool → Bool) (h : isP n l = true) : tabP n (fun i j => f (adj l i j)) = (allP n).filter fun q => f (l.contains q) := by
  unfold tabP
  refine List.filter_congr fun q hq => ?_
  have hm := mem_allP.1 hq
  show f (adj l q.1.toNat q.2.toNat) = _
  rw [adj_pair h (i := q.1.toNat) (j := q.2.toNat) (by omega)]
  have e : (((q.1.toNat : Nat) : Int), ((q.2.toNat : Nat) : Int)) = q := by
    obtain ⟨x, y⟩ := q
    simp only [Prod.mk.injEq]
    simp at hm
    omega
  rw [e]
theorem tabP_other {n : Nat} {l : PL} (h : isP n l = true) : tabP n (fun i j => !adj l i j) = otherP n l := tabP_contains (fun b => !b) h
theorem tabP_same {n : Nat} {l : PL} (h : isP n l = true) : tabP n (adj l) = l := (tabP_contains (fun b => b) h).trans (isP_filter h)

/-- the table in the middle of being turned -/
def turnT (t : Nat → Nat → Bool) (a b : Nat) : Nat → Nat → Bool := fun i j => if i < a ∨ i = a ∧ j < b then !t i j else t i j
theorem turnT_start (t : Nat → Nat → Bool) : turnT t 0 0 = t := by funext i j; simp [turnT]
theorem turnT_next (t : Nat → Nat → Bool) (a b : Nat) : upd (turnT t a b) a b (!t a b) = turnT t a (b + 1) := by
  funext i j
  unfold upd turnT
  by_cases h : i = a ∧ j = b
  · obtain ⟨rfl, rfl⟩ := h
    simp
  · rw [if_neg h]
    have : (i < a ∨ i = a ∧ j < b) ↔ (i < a ∨ i = a ∧ j < b + 1) := by omega
    simp only [this]
theorem turnT_row {n : Nat} (t : Nat → Nat → Bool) (a : Nat) : ∀ i j, i < n → j < n → turnT t a n i j = turnT t (a + 1) 0 i j := by
  intro i j hi hj
  unfold turnT
  have : (i < a ∨ i = a ∧ j < n) ↔ (i < a + 1 ∨ i = a + 1 ∧ j < 0) := by omega
  simp only [this]
theorem turnT_all {n : Nat} (t : Nat → Nat → Bool) : ∀ i j, i < n → j < n → turnT t n 0 i j = !t i j := by
  intro i j hi hj
  unfold turnT
  rw [if_pos (.inl hi)]
theorem turnT_at (t : Nat → Nat → Bool) (a b : Nat) : turnT t a b a b = t a b := by unfold turnT; rw [if_neg (by omega)]

end Go.Proofs.YthpapkfpcijpoaaDoor
/-
  THE PROGRAM's MEETINGS OF A PARTY (each pair of people, and whether they are friends), by its contract.
-/
namespace Go.Proofs.YthpapkfpcijpoaaDoor
open Go.RowKit

abbrev ML := List (Int × Int × Bool)
def mcells : ML → List Value
  | [] => []
  | m :: l => .int .i64 m.1 :: .int .i64 m.2.1 :: .bool m.2.2 :: mcells l
theorem mcells_length (l : ML) : (mcells l).length = l.length * 3 := by
  induction l with
  | nil => rfl
  | cons p l ih => simp only [mcells, List.length_cons, ih]; omega
theorem mcells_append (l m : ML) : mcells (l ++ m) = mcells l ++ mcells m := by
  induction l with
  | nil => rfl
  | cons p l ih => simp [mcells, ih]
theorem mcells_at {l : ML} {k : Nat} {x y : Int} {f : Bool} (h : l[k]? = some (x, y, f)) : (mcells l)[k * 3]? = some (.int .i64 x) ∧ (mcells l)[k * 3 + 1]? = some (.int .i64 y) ∧ (mcells l)[k * 3 + 2]? = some (.bool f) := by
  induction l generalizing k with
  | nil => simp at h
  | cons p l ih =>
    cases k with
    | zero => simp at h; subst h; exact ⟨rfl, rfl, rfl⟩
    | succ k =>
      have := ih (k := k) (by simpa using h)
      rw [show (k + 1) * 3 = k * 3 + 3 from by omega, show k * 3 + 3 + 1 = k * 3 + 1 + 3 from by omega, show k * 3 + 3 + 2 = k * 3 + 2 + 3 from by omega]
      simpa [mcells] using this
theorem CRead.meet {w : World} {B : Nat} {ad : Option Addr} {l : ML} (h : CRead w B ad (mcells l)) {k : Nat} {x y : Int} {f : Bool} (hk : l[k]? = some (x, y, f)) :
    ∃ b off, ad = some ⟨b, off, none⟩ ∧ b < B ∧ w.cell? ⟨b, off + k * 3, none⟩ = some (.int .i64 x) ∧ w.cell? ⟨b, off + k * 3 + 1, none⟩ = some (.int .i64 y) ∧ w.cell? ⟨b, off + k * 3 + 2, none⟩ = some (.bool f) := by
  obtain ⟨e0, e1, e2⟩ := mcells_at hk
  obtain ⟨b, off, rfl, hb, h0⟩ := h _ _ e0
  obtain ⟨b', off', e, _, h1⟩ := h _ _ e1
  simp only [Option.some.injEq, Addr.mk.injEq, and_true] at e
  obtain ⟨rfl, rfl⟩ := e
  obtain ⟨b', off', e, _, h2⟩ := h _ _ e2
  simp only [Option.some.injEq, Addr.mk.injEq, and_true] at e
  obtain ⟨rfl, rfl⟩ := e
  exact ⟨b, off, rfl, hb, h0, h1, h2⟩

/-- the meetings of pairs -/
def meets (l : PL) (qs : PL) : ML := qs.map fun q => (q.1, q.2, l.contains q)
theorem meets_snoc (l qs : PL) (a b : Int) : meets l (qs ++ [(a, b)]) = meets l qs ++ [(a, b, l.contains (a, b))] := by simp [meets]
theorem meets_length (l qs : PL) : (meets l qs).length = qs.length := by simp [meets]

theorem upTo_prefix {n a b : Nat} (ha : a < n) (hab : a < b) (hb : b ≤ n) : ∃ rest, allP n = upTo n a b ++ rest := by
  have e1 : List.range n = List.range (a + 1) ++ (List.range (n - (a + 1))).map (a + 1 + ·) := by
    rw [← List.range_add]; congr 1; omega
  have e2 : rowP a n = (List.range' (a + 1) (b - (a + 1))).map (fun b : Nat => ((a : Int), (b : Int))) ++ (List.range' b (n - b)).map (fun b : Nat => ((a : Int), (b : Int))) := by
    unfold rowP
    rw [← List.map_append]
    congr 1
    have := List.range'_append_1 (s := a + 1) (m := b - (a + 1)) (n := n - b)
    rw [show a + 1 + (b - (a + 1)) = b from by omega] at this
    rw [this]
    congr 1
    omega
  unfold allP
  rw [e1, List.flatMap_append, List.range_succ, List.flatMap_append]
  simp only [List.flatMap_cons, List.flatMap_nil, List.append_nil]
  rw [e2]
  unfold upTo
  exact ⟨_, by simp only [List.append_assoc]; rfl⟩
/-- how many of the pairs so far are friends -/
def toldTo (n : Nat) (l : PL) (a b : Nat) : Nat := ((upTo n a b).filter fun q => l.contains q).length
theorem toldTo_le {n : Nat} {l : PL} (h : isP n l = true) {a b : Nat} (ha : a < n) (hab : a < b) (hb : b ≤ n) : toldTo n l a b ≤ l.length := by
  obtain ⟨rest, hr⟩ := upTo_prefix ha hab hb
  have hl := isP_filter h
  rw [hr, List.filter_append] at hl
  unfold toldTo
  rw [← congrArg List.length hl, List.length_append]
  omega
theorem told_at {n : Nat} {l : PL} (h : isP n l = true) {a b : Nat} (hab : a < b) (hb : b < n) (hc : l.contains ((a : Int), (b : Int)) = true) : l[toldTo n l a b]? = some ((a : Int), (b : Int)) := by
  obtain ⟨rest, hr⟩ := upTo_prefix (n := n) (a := a) (b := b + 1) (by omega) (by omega) (by omega)
  have hl := isP_filter h
  rw [hr, upTo_next hab, List.append_assoc, List.filter_append] at hl
  simp only [List.singleton_append, List.filter_cons, hc, if_true] at hl
  unfold toldTo
  generalize (upTo n a b).filter (fun q => l.contains q) = F at hl ⊢
  rw [← hl]
  simp
theorem told_not {l : PL} {k : Nat} {x y : Int} (hx : l[k]? = some (x, y)) (a b : Int) (hc : l.contains (a, b) = false) : ¬ (x = a ∧ y = b) := by
  rintro ⟨rfl, rfl⟩
  rw [Bool.eq_false_iff] at hc
  exact hc (List.contains_iff_mem.2 (List.mem_of_getElem? hx))
theorem toldTo_yes {n : Nat} {l : PL} {a b : Nat} (hab : a < b) (hc : l.contains ((a : Int), (b : Int)) = true) : toldTo n l a (b + 1) = toldTo n l a b + 1 := by
  unfold toldTo; rw [upTo_next hab, List.filter_append]; simp only [List.filter_cons, hc, if_true, List.filter_nil, List.length_append, List.length_singleton]
theorem toldTo_no {n : Nat} {l : PL} {a b : Nat} (hab : a < b) (hc : l.contains ((a : Int), (b : Int)) = false) : toldTo n l a (b + 1) = toldTo n l a b := by
  unfold toldTo; rw [upTo_next hab, List.filter_append]; simp only [List.filter_cons, hc, Bool.false_eq_true, if_false, List.filter_nil, List.append_nil]
theorem toldTo_row (n : Nat) (l : PL) (a : Nat) : toldTo n l a n = toldTo n l (a + 1) (a + 1 + 1) := by unfold toldTo; rw [upTo_row]
theorem three_cells {w : World} {g : Nat} {u v x : Value} (h : w.cell? ⟨g, 0, none⟩ = some u) (h' : w.cell? ⟨g, 1, none⟩ = some v) (h'' : w.cell? ⟨g, 2, none⟩ = some x) : ∀ j y, [u, v, x][j]? = some y → w.cell? ((⟨g, 0, none⟩ : Addr).add j) = some y := by
  intro j y hy
  match j, hy with
  | 0, hy => simp at hy; subst hy; simpa [Addr.add] using h
  | 1, hy => simp at hy; subst hy; simpa [Addr.add] using h'
  | 2, hy => simp at hy; subst hy; simpa [Addr.add] using h''
theorem three_one {u v x : Value} (h : u.oneCell' = true) (h' : v.oneCell' = true) (h'' : x.oneCell' = true) : ∀ y ∈ [u, v, x], y.oneCell' = true := by
  intro y hy
  simp at hy
  rcases hy with rfl | rfl | rfl
  · exact h
  · exact h'
  · exact h''
theorem Tryd.infoMeet : (Tryd.prog.info? 107).map (fun i => (i.zero, i.size, i.bytes)) = some (some (.agg #[.int .i64 0, .int .i64 0, .bool false]), 3, 24) := by kernel_rfl
end Go.Proofs.YthpapkfpcijpoaaDoor
/-
  'impl.meetingsOf', by its contract.
-/
namespace Go.Proofs.YthpapkfpcijpoaaDoor
open Go.RowKit

theorem below_drewN {B : Nat} {a w : World} (h : Below B a w) (k : Nat) : Below B a (w.drewN k) := ⟨h.os, h.tape, h.output, h.size, h.block⟩

set_option maxHeartbeats 2000000 in
set_option maxRecDepth 100000 in
theorem meetingsOf_any (p : Int) (l : PL) (A : Option Addr) (c : Nat) (w : World) (hp : isP p l = true) (hA : CRead w w.heap.size A (pcells l)) :
    Calls Tryd.prog 81 #[.agg #[.int .i64 p, .slice A l.length c]] w fun e w' => ∃ A' c', e = .returned (.slice A' (meets l (allP p.toNat)).length c') ∧
      w'.ownsRow w.heap.size 107 3 (.slice A' (meets l (allP p.toNat)).length c') (meets l (allP p.toNat)).length (mcells (meets l (allP p.toNat))) ∧ Below w.heap.size w w' := by
  obtain ⟨i0, hi, hz0, hz1, hz2⟩ := info_parts Tryd.infoMeet
  obtain ⟨n, rfl⟩ : ∃ n : Nat, p = n := ⟨p.toNat, by have := isP_range hp; omega⟩
  have hn := isP_range hp
  have hn12 : n ≤ 12 := by omega
  have hlen : l.length ≤ 66 := by have h1 := isP_length hp; have h2 := people_sq hn.1 hn.2; omega
  simp only [Int.toNat_natCast]
  have Hp := Lib.hid hp
  clear hp
  go_enter Tryd.func81, Tryd.ntmps81
  go_wp2
  go_loopw [3, 4, 11] (fun v q i wr => ∃ a : Nat, a ≤ n ∧ i = .int .i64 a ∧ q = .int .i64 (toldTo n l a (a + 1)) ∧ wr.ownsRow (w.heap.size + 1) 107 3 v (meets l (upTo n a (a + 1))).length (mcells (meets l (upTo n a (a + 1)))) ∧ Below (w.heap.size + 1) (w.alloc (Obj.cells #[.int .i64 (n : Int), .slice A l.length c] 31)) wr) (fun _ _ i _ => n - (intOf i).toNat)
  case atStart => exact ⟨0, Nat.zero_le _, rfl, by simp [toldTo, upTo_start], World.ownsRow_nil _ _ _ _, Below.refl _ _⟩
  case round =>
    obtain ⟨a, ha, rfl, rfl, hown, hb⟩ := hrel
    have hs := hb.size
    simp only [World.size_alloc] at hs
    have v0 : wr.cell? ⟨w.heap.size, 0, none⟩ = some (.int .i64 n) := carry hb (by simp) (by omega)
    have v1 : wr.cell? ⟨w.heap.size, 1, none⟩ = some (.slice A l.length c) := carry hb (by simp) (by omega)
    by_cases hlt : a < n
    · have hai : (a : Int) < n := by omega
      have Hown := Lib.hid hown
      have Hb := Lib.hid hb
      clear hown hb
      go_wp2
      go_loopw [3, 4, 6] (fun v q i wx => ∃ b : Nat, a < b ∧ b ≤ n ∧ i = .int .i64 b ∧ q = .int .i64 (toldTo n l a b) ∧ wx.ownsRow (w.heap.size + 1) 107 3 v (meets l (upTo n a b)).length (mcells (meets l (upTo n a b))) ∧ Below (w.heap.size + 1) (w.alloc (Obj.cells #[.int .i64 (n : Int), .slice A l.length c] 31)) wx) (fun _ _ i _ => n - (intOf i).toNat)
      case atStart => exact ⟨a + 1, by omega, by omega, by go_num, rfl, Hown.out, Hb.out⟩
      case round =>
        clear Hown Hb v0 v1 hs
        obtain ⟨b, hab, hbn, rfl, rfl, hown, hb⟩ := hrel
        have hs := hb.size
        simp only [World.size_alloc] at hs
        have hbw : Below w.heap.size w wr := Below.trans (b := _) (by go_grown) (hb.mono (by omega))
        have v0 : wr.cell? ⟨w.heap.size, 0, none⟩ = some (.int .i64 n) := carry hb (by simp) (by omega)
        have v1 : wr.cell? ⟨w.heap.size, 1, none⟩ = some (.slice A l.length c) := carry hb (by simp) (by omega)
        by_cases hbt : b < n
        · have hbi : (b : Int) < n := by omega
          have htl := toldTo_le Hp.out hlt hab hbn
          have hml : (meets l (upTo n a b)).length ≤ 1000 := by rw [meets_length]; exact upTo_length (by omega) (by omega) hn12
          have e0 : (wr.alloc (Obj.cells #[.int .i64 (a : Int), .int .i64 (b : Int)] 85)).cell? ⟨w.heap.size, 1, none⟩ = some (.slice A l.length c) := (World.cell?_alloc_lt _ _ _ (show w.heap.size < wr.heap.size by omega)).trans v1
          have e1 : (wr.alloc (Obj.cells #[.int .i64 (a : Int), .int .i64 (b : Int)] 85)).cell? ⟨w.heap.size, 0, none⟩ = some (.int .i64 n) := (World.cell?_alloc_lt _ _ _ (show w.heap.size < wr.heap.size by omega)).trans v0
          cases hc : l.contains ((a : Int), (b : Int)) with
          | true =>
            have ht := told_at Hp.out hab hbt hc
            have htlt : toldTo n l a b < l.length := (List.getElem?_eq_some_iff.1 ht).1
            obtain ⟨bb, off, rfl, hbb, c0, c1⟩ := (hA.below hbw (Nat.le_refl _)).pair ht
            have Hc := Lib.hid hc
            have Hyes := Lib.hid (toldTo_yes (n := n) hab hc)
            clear hc ht
            generalize hq : toldTo n l a b = q at *
            have Hq := Lib.hid hq
            clear hq
            have hqi : (q : Int) < (l.length : Int) := by omega
            have hqd : decide ((q : Int) < (l.length : Int)) = true := by simp; omega
            have hqd' : decide (q < l.length) = true := by simp; omega
            have f0 : (wr.alloc (Obj.cells #[.int .i64 (a : Int), .int .i64 (b : Int)] 85)).cell? ⟨bb, off + q * 2, none⟩ = some (.int .i64 a) := (World.cell?_alloc_lt _ _ _ (show bb < wr.heap.size by omega)).trans c0
            have f1 : (wr.alloc (Obj.cells #[.int .i64 (a : Int), .int .i64 (b : Int)] 85)).cell? ⟨bb, off + q * 2 + 1, none⟩ = some (.int .i64 b) := (World.cell?_alloc_lt _ _ _ (show bb < wr.heap.size by omega)).trans c1
            go_wp2
            go_quiet (fail)
            generalize hW : (wr.alloc (Obj.cells #[.int .i64 (a : Int), .int .i64 (b : Int)] 85)).drewN nq = W
            have g0 : W.cell? ⟨wr.heap.size, 0, none⟩ = some (.int .i64 a) := by rw [← hW]; simp
            have g1 : W.cell? ⟨wr.heap.size, 1, none⟩ = some (.int .i64 b) := by rw [← hW]; simp
            have g2 : W.cell? ⟨w.heap.size, 1, none⟩ = some (.slice (some ⟨bb, off, none⟩) l.length c) := by rw [← hW]; exact e0
            have g3 : W.cell? ⟨w.heap.size, 0, none⟩ = some (.int .i64 n) := by rw [← hW]; exact e1
            have ownW : W.ownsRow (w.heap.size + 1) 107 3 u3 (meets l (upTo n a b)).length (mcells (meets l (upTo n a b))) := by rw [← hW]; exact hown.alloc _
            have bW : Below (w.heap.size + 1) (w.alloc (Obj.cells #[.int .i64 (n : Int), .slice (some ⟨bb, off, none⟩) l.length c] 31)) W := by rw [← hW]; exact below_drewN (hb.alloc (by omega) _) _
            have sW : wr.heap.size < W.heap.size := by rw [← hW]; simp
            have sW2 : w.heap.size + 1 ≤ W.heap.size := by omega
            clear hW e0 e1 v0 v1 hown hb hs c0 c1 f0 f1
            go_wp2_with (at_builtin; refine wpList_append_own _ rfl _ _ 104 rfl (w.heap.size + 1) 107 i0 _ 3 24 Tryd.underlying104 hi hz0 hz1 hz2 rfl (by decide) _ _ _ rfl (ownW.alloc _) ⟨W.heap.size, 0, none⟩ 1 1 [.int .i64 a, .int .i64 b, .bool true] rfl rfl (three_cells (by simp) (by simp) (by simp)) (three_one rfl rfl rfl) (by unfold maxLen; omega) (by omega) (by simp; omega) ?_; intro v1 w1 hown1 hg1 _; obtain ⟨A1, d1', rfl, _⟩ := own_shape hown1; have bW1 : Below (w.heap.size + 1) (w.alloc (Obj.cells #[.int .i64 (n : Int), .slice (some ⟨bb, off, none⟩) l.length c] 31)) w1 := (bW.alloc (by omega) _).grown hg1 (by simp; omega) (fun k hk => (ownW.lt k hk).1); have z0 : w1.cell? ⟨w.heap.size, 0, none⟩ = some (.int .i64 n) := carry bW1 (by simp) (by omega); have z1 : w1.cell? ⟨w.heap.size, 1, none⟩ = some (.slice (some ⟨bb, off, none⟩) l.length c) := carry bW1 (by simp) (by omega))
            go_roundw
            case rel =>
              refine ⟨b + 1, by omega, by omega, by go_num, ?_, ?_, bW1⟩
              · rw [Hyes.out]; go_num
              · rw [upTo_next hab, meets_snoc, Hc.out, mcells_append, List.length_append]
                exact hown1
            case measure => simp [intOf]; omega
          | false =>
            have Hc := Lib.hid hc
            have Hno := Lib.hid (toldTo_no (n := n) hab hc)
            clear hc
            generalize hq : toldTo n l a b = q at *
            have Hq := Lib.hid hq
            clear hq
            by_cases hqt : q < l.length
            · obtain ⟨⟨x, y⟩, hx⟩ := getSome l q hqt
              obtain ⟨bb, off, rfl, hbb, c0, c1⟩ := (hA.below hbw (Nat.le_refl _)).pair hx
              have hne := told_not hx a b Hc.out
              have Hx := Lib.hid hx
              clear hx
              have hqi : (q : Int) < (l.length : Int) := by omega
              have hqd : decide ((q : Int) < (l.length : Int)) = true := by simp; omega
              have hqd' : decide (q < l.length) = true := by simp; omega
              have f0 : (wr.alloc (Obj.cells #[.int .i64 (a : Int), .int .i64 (b : Int)] 85)).cell? ⟨bb, off + q * 2, none⟩ = some (.int .i64 x) := (World.cell?_alloc_lt _ _ _ (show bb < wr.heap.size by omega)).trans c0
              have f1 : (wr.alloc (Obj.cells #[.int .i64 (a : Int), .int .i64 (b : Int)] 85)).cell? ⟨bb, off + q * 2 + 1, none⟩ = some (.int .i64 y) := (World.cell?_alloc_lt _ _ _ (show bb < wr.heap.size by omega)).trans c1
              by_cases hxa : x = (a : Int)
              · have hyb : ¬ y = (b : Int) := fun h => hne ⟨hxa, h⟩
                clear hne
                subst hxa
                go_wp2
                go_quiet (fail)
                generalize hW : (wr.alloc (Obj.cells #[.int .i64 (a : Int), .int .i64 (b : Int)] 85)).drewN nq = W
                have g0 : W.cell? ⟨wr.heap.size, 0, none⟩ = some (.int .i64 a) := by rw [← hW]; simp
                have g1 : W.cell? ⟨wr.heap.size, 1, none⟩ = some (.int .i64 b) := by rw [← hW]; simp
                have g2 : W.cell? ⟨w.heap.size, 1, none⟩ = some (.slice (some ⟨bb, off, none⟩) l.length c) := by rw [← hW]; exact e0
                have g3 : W.cell? ⟨w.heap.size, 0, none⟩ = some (.int .i64 n) := by rw [← hW]; exact e1
                have ownW : W.ownsRow (w.heap.size + 1) 107 3 u3 (meets l (upTo n a b)).length (mcells (meets l (upTo n a b))) := by rw [← hW]; exact hown.alloc _
                have bW : Below (w.heap.size + 1) (w.alloc (Obj.cells #[.int .i64 (n : Int), .slice (some ⟨bb, off, none⟩) l.length c] 31)) W := by rw [← hW]; exact below_drewN (hb.alloc (by omega) _) _
                have sW : wr.heap.size < W.heap.size := by rw [← hW]; simp
                have sW2 : w.heap.size + 1 ≤ W.heap.size := by omega
                clear hW e0 e1 v0 v1 hown hb hs c0 c1 f0 f1
                go_wp2_with (at_builtin; refine wpList_append_own _ rfl _ _ 104 rfl (w.heap.size + 1) 107 i0 _ 3 24 Tryd.underlying104 hi hz0 hz1 hz2 rfl (by decide) _ _ _ rfl (ownW.alloc _) ⟨W.heap.size, 0, none⟩ 1 1 [.int .i64 a, .int .i64 b, .bool false] rfl rfl (three_cells (by simp) (by simp) (by simp)) (three_one rfl rfl rfl) (by unfold maxLen; omega) (by omega) (by simp; omega) ?_; intro v1 w1 hown1 hg1 _; obtain ⟨A1, d1', rfl, _⟩ := own_shape hown1; have bW1 : Below (w.heap.size + 1) (w.alloc (Obj.cells #[.int .i64 (n : Int), .slice (some ⟨bb, off, none⟩) l.length c] 31)) w1 := (bW.alloc (by omega) _).grown hg1 (by simp; omega) (fun k hk => (ownW.lt k hk).1); have z0 : w1.cell? ⟨w.heap.size, 0, none⟩ = some (.int .i64 n) := carry bW1 (by simp) (by omega); have z1 : w1.cell? ⟨w.heap.size, 1, none⟩ = some (.slice (some ⟨bb, off, none⟩) l.length c) := carry bW1 (by simp) (by omega))
                go_roundw
                case rel =>
                  refine ⟨b + 1, by omega, by omega, by go_num, ?_, ?_, bW1⟩
                  · rw [Hno.out]
                  · rw [upTo_next hab, meets_snoc, Hc.out, mcells_append, List.length_append]
                    exact hown1
                case measure => simp [intOf]; omega
              · clear hne
                go_wp2
                go_quiet (fail)
                generalize hW : (wr.alloc (Obj.cells #[.int .i64 (a : Int), .int .i64 (b : Int)] 85)).drewN nq = W
                have g0 : W.cell? ⟨wr.heap.size, 0, none⟩ = some (.int .i64 a) := by rw [← hW]; simp
                have g1 : W.cell? ⟨wr.heap.size, 1, none⟩ = some (.int .i64 b) := by rw [← hW]; simp
                have g2 : W.cell? ⟨w.heap.size, 1, none⟩ = some (.slice (some ⟨bb, off, none⟩) l.length c) := by rw [← hW]; exact e0
                have g3 : W.cell? ⟨w.heap.size, 0, none⟩ = some (.int .i64 n) := by rw [← hW]; exact e1
                have ownW : W.ownsRow (w.heap.size + 1) 107 3 u3 (meets l (upTo n a b)).length (mcells (meets l (upTo n a b))) := by rw [← hW]; exact hown.alloc _
                have bW : Below (w.heap.size + 1) (w.alloc (Obj.cells #[.int .i64 (n : Int), .slice (some ⟨bb, off, none⟩) l.length c] 31)) W := by rw [← hW]; exact below_drewN (hb.alloc (by omega) _) _
                have sW : wr.heap.size < W.heap.size := by rw [← hW]; simp
                have sW2 : w.heap.size + 1 ≤ W.heap.size := by omega
                clear hW e0 e1 v0 v1 hown hb hs c0 c1 f0 f1
                go_wp2_with (at_builtin; refine wpList_append_own _ rfl _ _ 104 rfl (w.heap.size + 1) 107 i0 _ 3 24 Tryd.underlying104 hi hz0 hz1 hz2 rfl (by decide) _ _ _ rfl (ownW.alloc _) ⟨W.heap.size, 0, none⟩ 1 1 [.int .i64 a, .int .i64 b, .bool false] rfl rfl (three_cells (by simp) (by simp) (by simp)) (three_one rfl rfl rfl) (by unfold maxLen; omega) (by omega) (by simp; omega) ?_; intro v1 w1 hown1 hg1 _; obtain ⟨A1, d1', rfl, _⟩ := own_shape hown1; have bW1 : Below (w.heap.size + 1) (w.alloc (Obj.cells #[.int .i64 (n : Int), .slice (some ⟨bb, off, none⟩) l.length c] 31)) w1 := (bW.alloc (by omega) _).grown hg1 (by simp; omega) (fun k hk => (ownW.lt k hk).1); have z0 : w1.cell? ⟨w.heap.size, 0, none⟩ = some (.int .i64 n) := carry bW1 (by simp) (by omega); have z1 : w1.cell? ⟨w.heap.size, 1, none⟩ = some (.slice (some ⟨bb, off, none⟩) l.length c) := carry bW1 (by simp) (by omega))
                go_roundw
                case rel =>
                  refine ⟨b + 1, by omega, by omega, by go_num, ?_, ?_, bW1⟩
                  · rw [Hno.out]
                  · rw [upTo_next hab, meets_snoc, Hc.out, mcells_append, List.length_append]
                    exact hown1
                case measure => simp [intOf]; omega
            · have hqd : decide ((q : Int) < (l.length : Int)) = false := by simp; omega
              have hqd' : decide (q < l.length) = false := by simp; omega
              go_wp2
              go_quiet (fail)
              generalize hW : (wr.alloc (Obj.cells #[.int .i64 (a : Int), .int .i64 (b : Int)] 85)).drewN nq = W
              have g0 : W.cell? ⟨wr.heap.size, 0, none⟩ = some (.int .i64 a) := by rw [← hW]; simp
              have g1 : W.cell? ⟨wr.heap.size, 1, none⟩ = some (.int .i64 b) := by rw [← hW]; simp
              have g2 : W.cell? ⟨w.heap.size, 1, none⟩ = some (.slice A l.length c) := by rw [← hW]; exact e0
              have g3 : W.cell? ⟨w.heap.size, 0, none⟩ = some (.int .i64 n) := by rw [← hW]; exact e1
              have ownW : W.ownsRow (w.heap.size + 1) 107 3 u3 (meets l (upTo n a b)).length (mcells (meets l (upTo n a b))) := by rw [← hW]; exact hown.alloc _
              have bW : Below (w.heap.size + 1) (w.alloc (Obj.cells #[.int .i64 (n : Int), .slice A l.length c] 31)) W := by rw [← hW]; exact below_drewN (hb.alloc (by omega) _) _
              have sW : wr.heap.size < W.heap.size := by rw [← hW]; simp
              have sW2 : w.heap.size + 1 ≤ W.heap.size := by omega
              clear hW e0 e1 v0 v1 hown hb hs
              go_wp2_with (at_builtin; refine wpList_append_own _ rfl _ _ 104 rfl (w.heap.size + 1) 107 i0 _ 3 24 Tryd.underlying104 hi hz0 hz1 hz2 rfl (by decide) _ _ _ rfl (ownW.alloc _) ⟨W.heap.size, 0, none⟩ 1 1 [.int .i64 a, .int .i64 b, .bool false] rfl rfl (three_cells (by simp) (by simp) (by simp)) (three_one rfl rfl rfl) (by unfold maxLen; omega) (by omega) (by simp; omega) ?_; intro v1 w1 hown1 hg1 _; obtain ⟨A1, d1', rfl, _⟩ := own_shape hown1; have bW1 : Below (w.heap.size + 1) (w.alloc (Obj.cells #[.int .i64 (n : Int), .slice A l.length c] 31)) w1 := (bW.alloc (by omega) _).grown hg1 (by simp; omega) (fun k hk => (ownW.lt k hk).1); have z0 : w1.cell? ⟨w.heap.size, 0, none⟩ = some (.int .i64 n) := carry bW1 (by simp) (by omega); have z1 : w1.cell? ⟨w.heap.size, 1, none⟩ = some (.slice A l.length c) := carry bW1 (by simp) (by omega))
              go_roundw
              case rel =>
                refine ⟨b + 1, by omega, by omega, by go_num, ?_, ?_, bW1⟩
                · rw [Hno.out]
                · rw [upTo_next hab, meets_snoc, Hc.out, mcells_append, List.length_append]
                  exact hown1
              case measure => simp [intOf]; omega
        · have hbn' : n = b := by omega
          subst hbn'
          have hge : ¬ ((n : Int) < n) := by omega
          go_wp2
          go_roundw
          case rel => exact ⟨a + 1, by omega, by go_num, by rw [← toldTo_row], by rw [← upTo_row]; exact hown, hb⟩
          case measure => simp [intOf]; omega
    · have hal : n = a := by omega
      subst hal
      have hge : ¬ ((n : Int) < n) := by omega
      rw [upTo_all] at hown
      obtain ⟨A', c', rfl, _⟩ := own_shape hown
      have hbw : Below w.heap.size w wr := Below.trans (b := _) (by go_grown) (hb.mono (by omega))
      have Hown := Lib.hid hown
      clear hown
      go_wp2
      go_ret
      exact ⟨A', c', rfl, own_lower Hown.out (Nat.le_succ _), hbw⟩
end Go.Proofs.YthpapkfpcijpoaaDoor
/-
  'impl.pairsOf': the pairs of the meetings that are taken, by its contracts: for friends and for strangers.
-/
namespace Go.Proofs.YthpapkfpcijpoaaDoor
open Go.RowKit

def taken (f : Bool → Bool) (l : ML) : PL := (l.filter fun m => f m.2.2).map fun m => (m.1, m.2.1)
theorem taken_le (f : Bool → Bool) (l : ML) : (taken f l).length ≤ l.length := by unfold taken; rw [List.length_map]; exact List.length_filter_le _ _
theorem taken_snoc (f : Bool → Bool) (l : ML) (x y : Int) (b : Bool) : taken f (l ++ [(x, y, b)]) = taken f l ++ if f b = true then [(x, y)] else [] := by
  unfold taken
  rw [List.filter_append, List.map_append]
  congr 1
  by_cases h : f b = true
  · rw [if_pos h, List.filter_cons_of_pos (by exact h)]; rfl
  · rw [if_neg h, List.filter_cons_of_neg (by exact h)]; rfl
theorem taken_meets (f : Bool → Bool) (l qs : PL) : taken f (meets l qs) = qs.filter fun q => f (l.contains q) := by
  unfold taken meets
  rw [List.filter_map, List.map_map]
  have e : ((fun m : Int × Int × Bool => (m.1, m.2.1)) ∘ fun q : Int × Int => (q.1, q.2, l.contains q)) = id := rfl
  rw [e, List.map_id]
  rfl

set_option maxHeartbeats 400000 in
theorem ofFriends_any (x y : Int) (f : Bool) (w : World) : Calls Tryd.prog 83 #[.agg #[.int .i64 x, .int .i64 y, .bool f]] w fun e w' => e = .returned (.bool (f)) ∧ Below w.heap.size w w' := by
  go_enter Tryd.func83, Tryd.ntmps83
  go_wp2
  go_ret
  exact ⟨by simp, by go_grown⟩

set_option maxHeartbeats 2000000 in
set_option maxRecDepth 100000 in
theorem pairsOf_ofFriends_any (l : ML) (A : Option Addr) (c : Nat) (w : World) (hl : l.length ≤ 1000) (hA : CRead w w.heap.size A (mcells l)) :
    Calls Tryd.prog 82 #[.slice A l.length c, .func (.func 83) #[] #[]] w fun e w' => ∃ A' c', e = .returned (.slice A' (taken (fun b => b) l).length c') ∧
      w'.ownsRow w.heap.size 85 2 (.slice A' (taken (fun b => b) l).length c') (taken (fun b => b) l).length (pcells (taken (fun b => b) l)) ∧ Below w.heap.size w w' := by
  obtain ⟨i0, hi, hz0, hz1, hz2⟩ := info_parts Tryd.infoPair
  go_enter Tryd.func82, Tryd.ntmps82
  go_wp2
  go_loopw [5, 10] (fun v i wr => ∃ k : Nat, k ≤ l.length ∧ i = .int .i64 k ∧ wr.ownsRow w.heap.size 85 2 v (taken (fun b => b) (l.take k)).length (pcells (taken (fun b => b) (l.take k))) ∧ Below w.heap.size w wr) (fun _ i _ => l.length - (intOf i).toNat)
  case atStart => exact ⟨0, Nat.zero_le _, rfl, World.ownsRow_nil _ _ _ _, Below.refl _ _⟩
  case round =>
    obtain ⟨k, hk, rfl, hown, hb⟩ := hrel
    have hs := hb.size
    by_cases hlt : k < l.length
    · obtain ⟨⟨x, y, f⟩, hx⟩ := getSome l k hlt
      obtain ⟨bb, off, rfl, hbb, c0, c1, c2⟩ := (hA.below hb (Nat.le_refl _)).meet hx
      have hki : (k : Int) < (l.length : Int) := by omega
      have htl := taken_le (fun b => b) (l.take k)
      have htl2 : (l.take k).length ≤ 1000 := Nat.le_trans (List.length_take_le' _ _) hl
      have hsn := taken_snoc (fun b => b) (l.take k) x y f
      have Hx := Lib.hid hx
      have Hsn := Lib.hid hsn
      clear hx hsn
      cases hf : f with
      | false =>
        have Hf := Lib.hid hf
        clear hf
        go_wp2_with fail
        refine (ofFriends_any x y f _).mono ?_
        rw [Hf.out]
        rintro e w2 ⟨rfl, hb2⟩
        simp only [World.size_alloc] at hb2
        have k2 : Below wr.heap.size wr w2 := Below.trans (b := _) (by go_grown) (hb2.mono (by omega))
        go_wp2
        go_roundw
        case rel =>
          refine ⟨k + 1, by omega, by go_num, ?_, hb.trans (k2.mono hs)⟩
          rw [List.take_add_one, Hx.out, Option.toList_some, Hsn.out, Hf.out]
          simp only [Bool.false_eq_true, if_false, List.append_nil]
          exact own_below hown k2 (Nat.le_refl _)
        case measure => simp [intOf]; omega
      | true =>
        have Hf := Lib.hid hf
        clear hf
        go_wp2_with fail
        refine (ofFriends_any x y f _).mono ?_
        rw [Hf.out]
        rintro e w2 ⟨rfl, hb2⟩
        simp only [World.size_alloc] at hb2
        have k2 : Below wr.heap.size wr w2 := Below.trans (b := _) (by go_grown) (hb2.mono (by omega))
        have d0 : w2.cell? ⟨wr.heap.size, 0, none⟩ = some (.int .i64 x) := carry hb2 (by simp) (by omega)
        have d1 : w2.cell? ⟨wr.heap.size, 1, none⟩ = some (.int .i64 y) := carry hb2 (by simp) (by omega)
        have own2 := own_below hown k2 (Nat.le_refl _)
        have s2 := k2.size
        clear hown c0 c1 c2
        go_wp2_with (at_builtin; refine wpList_append_own _ rfl _ _ 29 rfl w.heap.size 85 i0 _ 2 16 Tryd.underlying29 hi hz0 hz1 hz2 rfl (by decide) _ _ _ rfl (own2.alloc _) ⟨w2.heap.size, 0, none⟩ 1 1 [.int .i64 x, .int .i64 y] rfl rfl (two_cells (by simp) (by simp)) (two_one rfl rfl) (by unfold maxLen; omega) (by omega) (by simp; omega) ?_; intro v1 w3 hown3 hg3 _; obtain ⟨A1, d1', rfl, _⟩ := own_shape hown3)
        go_roundw
        case rel =>
          refine ⟨k + 1, by omega, by go_num, ?_, ?_⟩
          · rw [List.take_add_one, Hx.out, Option.toList_some, Hsn.out, Hf.out]
            simp only [if_true]
            rw [pcells_append, List.length_append]
            exact hown3
          · exact ((hb.trans (k2.mono hs)).alloc (by omega) _).grown hg3 (by simp; omega) (fun k hk => (own2.lt k hk).1)
        case measure => simp [intOf]; omega
    · have hkl : k = l.length := by omega
      subst hkl
      have hge : ¬ ((l.length : Int) < l.length) := by omega
      rw [List.take_length] at hown
      obtain ⟨A', c', rfl, _⟩ := own_shape hown
      have Hown := Lib.hid hown
      clear hown
      go_wp2
      go_ret
      exact ⟨A', c', rfl, Hown.out, hb⟩

set_option maxHeartbeats 400000 in
theorem ofStrangers_any (x y : Int) (f : Bool) (w : World) : Calls Tryd.prog 96 #[.agg #[.int .i64 x, .int .i64 y, .bool f]] w fun e w' => e = .returned (.bool (!f)) ∧ Below w.heap.size w w' := by
  go_enter Tryd.func96, Tryd.ntmps96
  go_wp2
  go_ret
  exact ⟨by simp, by go_grown⟩

set_option maxHeartbeats 2000000 in
set_option maxRecDepth 100000 in
theorem pairsOf_ofStrangers_any (l : ML) (A : Option Addr) (c : Nat) (w : World) (hl : l.length ≤ 1000) (hA : CRead w w.heap.size A (mcells l)) :
    Calls Tryd.prog 82 #[.slice A l.length c, .func (.func 96) #[] #[]] w fun e w' => ∃ A' c', e = .returned (.slice A' (taken (fun b => !b) l).length c') ∧
      w'.ownsRow w.heap.size 85 2 (.slice A' (taken (fun b => !b) l).length c') (taken (fun b => !b) l).length (pcells (taken (fun b => !b) l)) ∧ Below w.heap.size w w' := by
  obtain ⟨i0, hi, hz0, hz1, hz2⟩ := info_parts Tryd.infoPair
  go_enter Tryd.func82, Tryd.ntmps82
  go_wp2
  go_loopw [5, 10] (fun v i wr => ∃ k : Nat, k ≤ l.length ∧ i = .int .i64 k ∧ wr.ownsRow w.heap.size 85 2 v (taken (fun b => !b) (l.take k)).length (pcells (taken (fun b => !b) (l.take k))) ∧ Below w.heap.size w wr) (fun _ i _ => l.length - (intOf i).toNat)
  case atStart => exact ⟨0, Nat.zero_le _, rfl, World.ownsRow_nil _ _ _ _, Below.refl _ _⟩
  case round =>
    obtain ⟨k, hk, rfl, hown, hb⟩ := hrel
    have hs := hb.size
    by_cases hlt : k < l.length
    · obtain ⟨⟨x, y, f⟩, hx⟩ := getSome l k hlt
      obtain ⟨bb, off, rfl, hbb, c0, c1, c2⟩ := (hA.below hb (Nat.le_refl _)).meet hx
      have hki : (k : Int) < (l.length : Int) := by omega
      have htl := taken_le (fun b => !b) (l.take k)
      have htl2 : (l.take k).length ≤ 1000 := Nat.le_trans (List.length_take_le' _ _) hl
      have hsn := taken_snoc (fun b => !b) (l.take k) x y f
      have Hx := Lib.hid hx
      have Hsn := Lib.hid hsn
      clear hx hsn
      cases hf : !f with
      | false =>
        have Hf := Lib.hid hf
        clear hf
        go_wp2_with fail
        refine (ofStrangers_any x y f _).mono ?_
        rw [Hf.out]
        rintro e w2 ⟨rfl, hb2⟩
        simp only [World.size_alloc] at hb2
        have k2 : Below wr.heap.size wr w2 := Below.trans (b := _) (by go_grown) (hb2.mono (by omega))
        go_wp2
        go_roundw
        case rel =>
          refine ⟨k + 1, by omega, by go_num, ?_, hb.trans (k2.mono hs)⟩
          rw [List.take_add_one, Hx.out, Option.toList_some, Hsn.out, Hf.out]
          simp only [Bool.false_eq_true, if_false, List.append_nil]
          exact own_below hown k2 (Nat.le_refl _)
        case measure => simp [intOf]; omega
      | true =>
        have Hf := Lib.hid hf
        clear hf
        go_wp2_with fail
        refine (ofStrangers_any x y f _).mono ?_
        rw [Hf.out]
        rintro e w2 ⟨rfl, hb2⟩
        simp only [World.size_alloc] at hb2
        have k2 : Below wr.heap.size wr w2 := Below.trans (b := _) (by go_grown) (hb2.mono (by omega))
        have d0 : w2.cell? ⟨wr.heap.size, 0, none⟩ = some (.int .i64 x) := carry hb2 (by simp) (by omega)
        have d1 : w2.cell? ⟨wr.heap.size, 1, none⟩ = some (.int .i64 y) := carry hb2 (by simp) (by omega)
        have own2 := own_below hown k2 (Nat.le_refl _)
        have s2 := k2.size
        clear hown c0 c1 c2
        go_wp2_with (at_builtin; refine wpList_append_own _ rfl _ _ 29 rfl w.heap.size 85 i0 _ 2 16 Tryd.underlying29 hi hz0 hz1 hz2 rfl (by decide) _ _ _ rfl (own2.alloc _) ⟨w2.heap.size, 0, none⟩ 1 1 [.int .i64 x, .int .i64 y] rfl rfl (two_cells (by simp) (by simp)) (two_one rfl rfl) (by unfold maxLen; omega) (by omega) (by simp; omega) ?_; intro v1 w3 hown3 hg3 _; obtain ⟨A1, d1', rfl, _⟩ := own_shape hown3)
        go_roundw
        case rel =>
          refine ⟨k + 1, by omega, by go_num, ?_, ?_⟩
          · rw [List.take_add_one, Hx.out, Option.toList_some, Hsn.out, Hf.out]
            simp only [if_true]
            rw [pcells_append, List.length_append]
            exact hown3
          · exact ((hb.trans (k2.mono hs)).alloc (by omega) _).grown hg3 (by simp; omega) (fun k hk => (own2.lt k hk).1)
        case measure => simp [intOf]; omega
    · have hkl : k = l.length := by omega
      subst hkl
      have hge : ¬ ((l.length : Int) < l.length) := by omega
      rw [List.take_length] at hown
      obtain ⟨A', c', rfl, _⟩ := own_shape hown
      have Hown := Lib.hid hown
      clear hown
      go_wp2
      go_ret
      exact ⟨A', c', rfl, Hown.out, hb⟩
end Go.Proofs.YthpapkfpcijpoaaDoor
/-
  'OtherParty' and 'FullParty': the model's and the program's, by their contracts.
-/
namespace Go.Proofs.YthpapkfpcijpoaaDoor
open Go.RowKit

set_option maxHeartbeats 2000000 in
set_option maxRecDepth 100000 in
theorem other_any (p : Int) (l : PL) (A : Option Addr) (c : Nat) (w : World) (hp : isP p l = true) (hA : CRead w w.heap.size A (pcells l)) :
    Calls Tryd.prog 80 #[.agg #[.int .i64 p, .slice A l.length c]] w (GotParty w p (otherP p.toNat l)) := by
  have hn := isP_range hp
  have hml : (meets l (allP p.toNat)).length ≤ 1000 := by rw [meets_length]; have := allP_length_le (n := p.toNat) (by omega); omega
  have hrl : (otherP p.toNat l).length ≤ 66 := filter_length_le (by omega) _
  have htk : taken (fun b => !b) (meets l (allP p.toNat)) = otherP p.toNat l := taken_meets _ _ _
  have Htk := Lib.hid htk
  have Hp := Lib.hid hp
  clear hp htk
  go_enter Tryd.func80, Tryd.ntmps80
  go_wp2
  generalize hW : (w.alloc (Obj.cells #[.int .i64 p, .slice A l.length c] 31)).alloc (Obj.cells #[.int .i64 0, .slice none 0 0] 31) = W
  have a0 : W.cell? ⟨w.heap.size, 0, none⟩ = some (.int .i64 p) := by rw [← hW]; simp
  have a1 : W.cell? ⟨w.heap.size, 1, none⟩ = some (.slice A l.length c) := by rw [← hW]; simp
  have x0 : W.cell? ⟨w.heap.size + 1, 0, none⟩ = some (.int .i64 0) := by rw [← hW]; simp
  have x1 : W.cell? ⟨w.heap.size + 1, 1, none⟩ = some (.slice none 0 0) := by rw [← hW]; simp
  have z0 : W.frozen? ⟨w.heap.size + 1, 0, none⟩ = false := by rw [← hW]; simp
  have z1 : W.frozen? ⟨w.heap.size + 1, 1, none⟩ = false := by rw [← hW]; simp
  have kW : Below w.heap.size w W := by rw [← hW]; go_grown
  have sW : w.heap.size + 1 < W.heap.size := by rw [← hW]; simp
  clear hW
  go_region_held3 (fun w' => w'.cell? ⟨w.heap.size, 0, none⟩ = some (.int .i64 p) ∧ w'.cell? ⟨w.heap.size, 1, none⟩ = some (.slice A l.length c)) (first | exact ⟨a0, a1⟩ | exact ⟨b0, b1⟩ | exact ⟨d0, d1⟩ | exact ⟨(World.cell?_setCell_other _ _ _ _ (by simp)).trans ((World.cell?_setCell_other _ _ _ _ (by simp)).trans d0), (World.cell?_setCell_other _ _ _ _ (by simp)).trans ((World.cell?_setCell_other _ _ _ _ (by simp)).trans d1)⟩) ((first
    | (go_at_call 81; refine (meetingsOf_any p l A c _ Hp.out ((hA.below kW.drew (Nat.le_refl _)).more kW.size)).mono ?_; rintro e w1 ⟨A1, c1, rfl, own1, hb1⟩; have g1 : Below W.heap.size W w1 := (Below.refl _ _).drew.trans hb1; have b0 := carry g1 a0 (by omega); have b1 := carry g1 a1 (by omega); have y0 := carry g1 x0 (by omega); have y1 := carry g1 x1 (by omega); have y2 := (g1.frozen (p := ⟨w.heap.size + 1, 0, none⟩) (by simp; omega)).trans z0; have y3 := (g1.frozen (p := ⟨w.heap.size + 1, 1, none⟩) (by simp; omega)).trans z1; have s1 := g1.size)
    | (go_at_call 82; refine (pairsOf_ofStrangers_any (meets l (allP p.toNat)) A1 c1 _ hml (CRead.of_own own1)).mono ?_; rw [Htk.out]; rintro e w2 ⟨A2, c2, rfl, own2, hb2⟩; have d0 := carry hb2 b0 (by omega); have d1 := carry hb2 b1 (by omega); have v0 := carry hb2 y0 (by omega); have v1 := carry hb2 y1 (by omega); have v2 := (hb2.frozen (p := ⟨w.heap.size + 1, 0, none⟩) (by simp; omega)).trans y2; have v3 := (hb2.frozen (p := ⟨w.heap.size + 1, 1, none⟩) (by simp; omega)).trans y3; have s2 := hb2.size)
    | skip))
  go_wp2
  refine bodyPost_ret (v := .agg #[.int .i64 p, .slice A2 (otherP p.toNat l).length c2]) (by simp [results, Tryd.results80, go_sem, v0, v1]) rfl ?_
  exact ⟨A2, c2, rfl, own_lower (ownsRow_setCell_below (ownsRow_setCell_below own2 (a := ⟨w.heap.size + 1, 0, none⟩) (by simp; omega) _) (a := ⟨w.heap.size + 1, 1, none⟩) (by simp; omega) _) (by omega),
    ((kW.trans ((g1.trans (hb2.mono s1)).mono kW.size)).setCell (p := ⟨w.heap.size + 1, 0, none⟩) (by simp) _).setCell (p := ⟨w.heap.size + 1, 1, none⟩) (by simp) _⟩

def resOtherParty (p : Int) (l : PL) : Int × PL × Bool := if isP p l then (p, otherP p.toNat l, true) else (0, [], false)
theorem resOtherParty_len (p : Int) (l : PL) : (resOtherParty p l).2.1.length ≤ 1048576 := by
  unfold resOtherParty
  split
  · rename_i h
    have := isP_range h
    exact Nat.le_trans (filter_length_le (n := p.toNat) (by omega) _) (by omega)
  · simp

end Go.Proofs.YthpapkfpcijpoaaDoor
