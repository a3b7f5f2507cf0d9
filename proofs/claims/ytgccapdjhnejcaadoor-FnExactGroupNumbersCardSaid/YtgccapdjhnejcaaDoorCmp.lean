/-
  THE PROGRAM's OWN LOOK AT A PARTY: comparisons of numbers and of pairs, 'impl.IsParty', by their contracts.
-/
import Derived.Test.YtgccapdjhnejcaaDoorGood
namespace Go.Proofs.YtgccapdjhnejcaaDoor
open Go.RowKit

def cmpI (a b : Int) : Int := if a < b then -1 else if b < a then 1 else 0
set_option maxHeartbeats 400000 in
theorem isNaN_any (a : Int) (w : World) : Calls Tryd.prog 109 #[.int .i64 a] w fun e w' => e = .returned (.bool false) ∧ w = w' := by
  go_enter Tryd.func109, Tryd.ntmps109
  go_wp2
  go_ret
  exact ⟨by simp, rfl⟩
set_option maxHeartbeats 400000 in
theorem compare_any (a b : Int) (w : World) : Calls Tryd.prog 106 #[.int .i64 a, .int .i64 b] w fun e w' => e = .returned (.int .i64 (cmpI a b)) ∧ w = w' := by
  by_cases h1 : a < b
  · have e : cmpI a b = -1 := if_pos h1
    rw [e]
    clear e
    go_enter Tryd.func106, Tryd.ntmps106
    go_wp2_with (go_at_call 109; refine (isNaN_any _ _).mono ?_; rintro e w' ⟨rfl, rfl⟩)
    go_ret
    exact ⟨rfl, rfl⟩
  · by_cases h2 : b < a
    · have e : cmpI a b = 1 := by rw [cmpI, if_neg h1, if_pos h2]
      rw [e]
      clear e
      go_enter Tryd.func106, Tryd.ntmps106
      go_wp2_with (go_at_call 109; refine (isNaN_any _ _).mono ?_; rintro e w' ⟨rfl, rfl⟩)
      go_ret
      exact ⟨rfl, rfl⟩
    · have e : cmpI a b = 0 := by rw [cmpI, if_neg h1, if_neg h2]
      rw [e]
      clear e
      go_enter Tryd.func106, Tryd.ntmps106
      go_wp2_with (go_at_call 109; refine (isNaN_any _ _).mono ?_; rintro e w' ⟨rfl, rfl⟩)
      go_ret
      exact ⟨rfl, rfl⟩

set_option maxHeartbeats 400000 in
theorem or_any (x y : Int) (g : Nat) (w : World) (h0 : w.cell? ⟨g, 0, none⟩ = some (.int .i64 x)) (h1 : w.cell? ⟨g, 1, none⟩ = some (.int .i64 y)) :
    Calls Tryd.prog 105 #[.slice (some ⟨g, 0, none⟩) 2 2] w fun e w' => e = .returned (.int .i64 (if x = 0 then y else x)) ∧ w = w' := by
  by_cases hx : x = 0
  · subst hx
    rw [if_pos rfl]
    by_cases hy : y = 0
    · subst hy
      go_enter Tryd.func105, Tryd.ntmps105
      go_wp2
      refine wp_loop_rounds 3 ?_
      rw [rounds_succ]
      go_wp2
      rw [rounds_succ]
      go_wp2
      rw [rounds_succ]
      go_wp2
      go_ret
      exact ⟨rfl, rfl⟩
    · go_enter Tryd.func105, Tryd.ntmps105
      go_wp2
      refine wp_loop_rounds 3 ?_
      rw [rounds_succ]
      go_wp2
      rw [rounds_succ]
      go_wp2
      go_ret
      exact ⟨rfl, rfl⟩
  · rw [if_neg hx]
    go_enter Tryd.func105, Tryd.ntmps105
    go_wp2
    refine wp_loop_rounds 3 ?_
    rw [rounds_succ]
    go_wp2
    go_ret
    exact ⟨rfl, rfl⟩

def cmpP (a b c d : Int) : Int := if cmpI a c = 0 then cmpI b d else cmpI a c
theorem cmpP_less (a b c d : Int) : cmpP a b c d < 0 ↔ (a < c ∨ a = c ∧ b < d) := by
  unfold cmpP cmpI
  repeat' split
  all_goals omega
set_option maxHeartbeats 1000000 in
set_option maxRecDepth 100000 in
theorem comparePairs_any (a b c d : Int) (w : World) :
    Calls Tryd.prog 97 #[.agg #[.int .i64 a, .int .i64 b], .agg #[.int .i64 c, .int .i64 d]] w fun e w' => e = .returned (.int .i64 (cmpP a b c d)) ∧ Below w.heap.size w w' := by
  go_enter Tryd.func97, Tryd.ntmps97
  go_wp2
  generalize hW : (w.alloc (Obj.cells #[.int .i64 a, .int .i64 b] 99)).alloc (Obj.cells #[.int .i64 c, .int .i64 d] 99) = W
  have c0 : W.cell? ⟨w.heap.size, 0, none⟩ = some (.int .i64 a) := by rw [← hW]; simp
  have c1 : W.cell? ⟨w.heap.size, 1, none⟩ = some (.int .i64 b) := by rw [← hW]; simp
  have c2 : W.cell? ⟨w.heap.size + 1, 0, none⟩ = some (.int .i64 c) := by rw [← hW]; simp
  have c3 : W.cell? ⟨w.heap.size + 1, 1, none⟩ = some (.int .i64 d) := by rw [← hW]; simp
  have hb : Below w.heap.size w W := by rw [← hW]; go_grown
  clear hW
  refine wp_region_still_tail 10 (by kernel_rfl) (by kernel_rfl) ?_
  simp only [List.take_succ_cons, List.take_zero, List.drop_succ_cons, List.drop_zero]
  still_step
  still_step
  still_step
  still_step
  still_call ((compare_any a c _).mono fun _ _ h => ⟨h.1, h.2.symm⟩)
  still_step
  still_step
  still_step
  still_step
  still_call ((compare_any b d _).mono fun _ _ h => ⟨h.1, h.2.symm⟩)
  refine wpStill_nil ?_
  change wpList _ _ _ _ _ (World.drew _)
  go_wp2_with (go_at_call 105; refine (or_any (cmpI a c) (cmpI b d) _ _ (by simp) (by simp)).mono ?_; rintro e w2 ⟨rfl, rfl⟩)
  · have h : cmpI a c = 0 := by assumption
    go_ret
    exact ⟨by simp [cmpP, h], (hb.alloc hb.size _).drew⟩
  · have h : ¬ cmpI a c = 0 := by assumption
    go_ret
    exact ⟨by simp [cmpP, h], (hb.alloc hb.size _).drew⟩
theorem comparePairs_less (a b c d : Int) (h : a < c ∨ a = c ∧ b < d) (w : World) :
    Calls Tryd.prog 97 #[.agg #[.int .i64 a, .int .i64 b], .agg #[.int .i64 c, .int .i64 d]] w fun e w' => e = .returned (.int .i64 (-1)) ∧ Below w.heap.size w w' :=
  (comparePairs_any a b c d w).mono fun _ _ hh => by
    have h1 := (cmpP_less a b c d).2 h
    have h2 : cmpP a b c d = -1 := by unfold cmpP cmpI at h1 ⊢; repeat' split at h1; all_goals (repeat' split); all_goals omega
    rwa [h2] at hh
theorem cmpP_more {a b c d : Int} (h : ¬ (a < c ∨ a = c ∧ b < d)) : 0 ≤ cmpP a b c d := by
  have h1 : ¬ cmpP a b c d < 0 := fun h2 => h ((cmpP_less a b c d).1 h2)
  omega

set_option maxHeartbeats 1000000 in
theorem isParty_any (p : Int) (l : PL) (A : Option Addr) (c : Nat) (w : World) (hl : l.length ≤ 1048576) (hA : CRead w w.heap.size A (pcells l)) :
    Calls Tryd.prog 65 #[.agg #[.int .i64 p, .slice A l.length c]] w fun e w' => e = .returned (.bool (isP p l)) ∧ Below w.heap.size w w' := by
  by_cases hp : p < 0 ∨ 12 < p
  · rw [isP_out p l hp]
    rcases hp with hp | hp
    · go_enter Tryd.func65, Tryd.ntmps65
      go_wp2
      go_ret
      exact ⟨rfl, by go_grown⟩
    · have hp' : ¬ p < 0 := by omega
      go_enter Tryd.func65, Tryd.ntmps65
      go_wp2
      go_ret
      exact ⟨rfl, by go_grown⟩
  · have hp0 : 0 ≤ p := by omega
    have hp1 : p ≤ 12 := by omega
    generalize hn : l.length = n at *
    have Hn := Lib.hid hn
    clear hn hp
    go_enter Tryd.func65, Tryd.ntmps65
    go_wp2
    have hbw : Below (w.heap.size + 1) (w.alloc (Obj.cells #[.int .i64 p, .slice A n c] 31)) (w.alloc (Obj.cells #[.int .i64 p, .slice A n c] 31)) := Below.refl _ _
    go_loopw [16] (fun i wr => ∃ k : Nat, k ≤ n ∧ i = .int .i64 k ∧ (∀ j, j < k → goodAt p l j = true) ∧ Below (w.heap.size + 1) (w.alloc (Obj.cells #[.int .i64 p, .slice A n c] 31)) wr) (fun i _ => n - (intOf i).toNat)
    case atStart => exact ⟨0, Nat.zero_le _, rfl, fun j hj => by omega, hbw⟩
    case round =>
      obtain ⟨k, hk, rfl, hgood, hb⟩ := hrel
      have Hgood := Lib.hid hgood
      clear hgood hbw
      have hs := hb.size
      simp only [World.size_alloc] at hs
      have hbw : Below w.heap.size w wr := Below.trans (b := _) (by go_grown) (hb.mono (by omega))
      have u0 : wr.cell? ⟨w.heap.size, 0, none⟩ = some (.int .i64 p) := (hb.cell (p := ⟨w.heap.size, 0, none⟩) (by simp)).trans (by simp)
      have u1 : wr.cell? ⟨w.heap.size, 1, none⟩ = some (.slice A n c) := (hb.cell (p := ⟨w.heap.size, 1, none⟩) (by simp)).trans (by simp)
      by_cases hlt : k < n
      · obtain ⟨⟨x, y⟩, hx⟩ := getSome l k (by rw [Hn.out]; exact hlt)
        obtain ⟨b, off, rfl, hbb, c0, c1⟩ := (hA.below hbw (Nat.le_refl _)).pair hx
        have hki : (k : Int) < (n : Int) := by omega
        have Hx := Lib.hid hx
        clear hx
        have u2 : (wr.alloc (.cells #[.int .i64 x, .int .i64 y] 99)).cell? ⟨w.heap.size, 0, none⟩ = some (.int .i64 p) := (World.cell?_alloc_lt wr _ _ (by simp; omega)).trans u0
        have u3 : (wr.alloc (.cells #[.int .i64 x, .int .i64 y] 99)).cell? ⟨w.heap.size, 1, none⟩ = some (.slice (some ⟨b, off, none⟩) n c) := (World.cell?_alloc_lt wr _ _ (by simp; omega)).trans u1
        by_cases hxy : 0 ≤ x ∧ x < y ∧ y < p
        · have x0 : 0 ≤ x := by omega
          have x1 : ¬ (y ≤ x) := by omega
          have x2 : ¬ (p ≤ y) := by omega
          have e0 : ∀ z : Ext (wr.heap.size + 1) (wr.alloc (.cells #[.int .i64 x, .int .i64 y] 99)), z.val.cell? ⟨wr.heap.size, 0, none⟩ = some (.int .i64 x) := fun z => z.cell (by simp) (by omega)
          have e1 : ∀ z : Ext (wr.heap.size + 1) (wr.alloc (.cells #[.int .i64 x, .int .i64 y] 99)), z.val.cell? ⟨wr.heap.size, 1, none⟩ = some (.int .i64 y) := fun z => z.cell (by simp) (by omega)
          have z0 : ∀ z : Ext (wr.heap.size + 1) (wr.alloc (.cells #[.int .i64 x, .int .i64 y] 99)), z.val.cell? ⟨w.heap.size, 0, none⟩ = some (.int .i64 p) := fun z => z.cell ((World.cell?_alloc_lt wr _ _ (by simp; omega)).trans u0) (by omega)
          have z1 : ∀ z : Ext (wr.heap.size + 1) (wr.alloc (.cells #[.int .i64 x, .int .i64 y] 99)), z.val.cell? ⟨w.heap.size, 1, none⟩ = some (.slice (some ⟨b, off, none⟩) n c) := fun z => z.cell ((World.cell?_alloc_lt wr _ _ (by simp; omega)).trans u1) (by omega)
          have Hxy := Lib.hid hxy
          clear hxy
          by_cases hkz : k = 0
          · have hk0 : decide ((0 : Int) < (k : Int)) = false := by simp [hkz]
            have hk1 : decide (0 < k) = false := by simp [hkz]
            have Hkz := Lib.hid hkz
            clear hkz
            go_wp2
            refine wp_region_ext (wr.heap.size + 1) (by kernel_rfl) (by kernel_rfl) ?_
            repeat (go_big_quiet_step (fail))
            refine wpQuiet_nil ?_
            rintro w1 ⟨⟨_, hb1⟩, rfl⟩
            have hb2 : Below (wr.heap.size) wr w1 := Below.trans (b := _) ((Below.refl _ _).alloc (by omega) _) (hb1.mono (by omega))
            go_wp2
            go_roundw
            case rel =>
              refine ⟨k + 1, by omega, by go_num, ?_, hb.trans (hb2.mono (by omega))⟩
              intro j hj
              rcases Nat.lt_succ_iff_lt_or_eq.1 hj with h | rfl
              · exact Hgood.out j h
              · exact goodAt_zero Hkz.out Hx.out Hxy.out
            case measure => simp [intOf]; omega
          · obtain ⟨⟨x', y'⟩, hx'⟩ := getSome l (k - 1) (by rw [Hn.out]; omega)
            obtain ⟨b', off', e', _, c0', c1'⟩ := (hA.below hbw (Nat.le_refl _)).pair hx'
            simp only [Option.some.injEq, Addr.mk.injEq, and_true] at e'
            obtain ⟨rfl, rfl⟩ := e'
            have Hx' := Lib.hid hx'
            clear hx'
            have e2 : ∀ z : Ext (wr.heap.size + 1) (wr.alloc (.cells #[.int .i64 x, .int .i64 y] 99)), z.val.cell? ⟨b, off + (k - 1) * 2, none⟩ = some (.int .i64 x') := fun z => z.cell ((World.cell?_alloc_lt wr _ _ (by simp; omega)).trans c0') (by omega)
            have e3 : ∀ z : Ext (wr.heap.size + 1) (wr.alloc (.cells #[.int .i64 x, .int .i64 y] 99)), z.val.cell? ⟨b, off + (k - 1) * 2 + 1, none⟩ = some (.int .i64 y') := fun z => z.cell ((World.cell?_alloc_lt wr _ _ (by simp; omega)).trans c1') (by omega)
            have hk0 : (0 : Int) < (k : Int) := by omega
            have hk1 : decide ((0 : Int) < (k : Int)) = true := by simp; omega
            have hk2 : 0 < k := by omega
            have hk3 : (0 : Int) ≤ (k : Int) - 1 := by omega
            have hk4 : (k : Int) - 1 < (n : Int) := by omega
            clear hkz
            by_cases hA3 : x' < x ∨ x' = x ∧ y' < y
            · go_wp2
              refine wp_region_ext (wr.heap.size + 1) (by kernel_rfl) (by kernel_rfl) ?_
              repeat (go_big_quiet_step ((go_at_call 97; exact Calls.ext_of ((comparePairs_less _ _ _ _ hA3 _).mono fun _ _ h => ⟨h.1, h.2.mono (Ext.size' (by simp) _)⟩))))
              refine wpQuiet_nil ?_
              rintro w1 ⟨⟨_, hb1⟩, rfl⟩
              have hb2 : Below (wr.heap.size) wr w1 := Below.trans (b := _) ((Below.refl _ _).alloc (by omega) _) (hb1.mono (by omega))
              go_wp2
              go_roundw
              case rel =>
                refine ⟨k + 1, by omega, by go_num, ?_, hb.trans (hb2.mono (by omega))⟩
                intro j hj
                rcases Nat.lt_succ_iff_lt_or_eq.1 hj with h | rfl
                · exact Hgood.out j h
                · exact goodAt_later hk2 Hx'.out Hx.out Hxy.out hA3
              case measure => simp [intOf]; omega
            · have hmore := cmpP_more hA3
              go_wp2
              refine wp_region_ext (wr.heap.size + 1) (by kernel_rfl) (by kernel_rfl) ?_
              repeat (go_big_quiet_step ((go_at_call 97; exact Calls.ext_of ((comparePairs_any _ _ _ _ _).mono fun _ _ h => ⟨h.1, h.2.mono (Ext.size' (by simp) _)⟩))))
              refine wpQuiet_nil ?_
              rintro w1 ⟨⟨_, hb1⟩, rfl⟩
              have hb2 : Below (wr.heap.size) wr w1 := Below.trans (b := _) ((Below.refl _ _).alloc (by omega) _) (hb1.mono (by omega))
              go_wp2
              go_ret
              refine ⟨?_, hbw.trans (hb2.mono (by omega))⟩
              rw [isP_no p l (i := k) (by rw [Hn.out]; exact hlt) (goodAt_stale' hk2 Hx'.out Hx.out hA3)]
              rfl
        · have hres : isP p l = false := isP_no p l (i := k) (by rw [Hn.out]; exact hlt) (goodAt_bad Hx.out hxy)
          have Hres := Lib.hid hres
          clear hres
          by_cases h1 : x < 0
          · go_wp2
            go_ret
            exact ⟨by rw [Hres.out]; rfl, hbw.alloc (by omega) _⟩
          · by_cases h2 : y ≤ x
            · go_wp2
              go_ret
              exact ⟨by rw [Hres.out]; rfl, hbw.alloc (by omega) _⟩
            · have h3 : p ≤ y := by omega
              go_wp2
              go_ret
              exact ⟨by rw [Hres.out]; rfl, hbw.alloc (by omega) _⟩
      · have hkl : k = n := by omega
        subst hkl
        have hge : ¬ ((k : Int) < k) := by omega
        go_wp2
        go_ret
        refine ⟨?_, hbw⟩
        rw [isP_of p l hp0 hp1 (fun i hi => Hgood.out i (by rw [Hn.out] at hi; exact hi))]
        rfl

end Go.Proofs.YtgccapdjhnejcaaDoor
