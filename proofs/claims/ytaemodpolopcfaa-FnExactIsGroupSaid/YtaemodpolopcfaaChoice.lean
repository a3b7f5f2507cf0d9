/-
  'impl.isChoice' and the search in a list of people, by their contracts.
-/
import Derived.Test.YtaemodpolopcfaaFriends
import Derived.Test.YtaemodpolopcfaaChooseP
namespace Go.Proofs.Ytaemodpolopcfaa
open Go.RowKit

set_option maxHeartbeats 1000000 in
set_option maxRecDepth 100000 in
theorem isChoice_any (p : Int) (q : List Int) (A B : Option Addr) (n c d : Nat) (w : World) (hq : q.length ≤ 1048576) (hB : CRead w w.heap.size B (icells q)) :
    Calls Try.prog 101 #[.agg #[.int .i64 p, .slice A n c], .slice B q.length d] w fun e w' => e = .returned (.bool (isChoiceI p q)) ∧ Below w.heap.size w w' := by
  go_enter Try.func101, Try.ntmps101
  go_wp2
  go_loopw [9] (fun i wr => ∃ k : Nat, k ≤ q.length ∧ i = .int .i64 k ∧ (∀ j, j < k → choiceAt p q j = true) ∧ Below (w.heap.size + 1) (w.alloc (Obj.cells #[.int .i64 p, .slice A n c] 29)) wr) (fun i _ => q.length - (intOf i).toNat)
  case atStart => exact ⟨0, Nat.zero_le _, rfl, fun j hj => by omega, Below.refl _ _⟩
  case round =>
    obtain ⟨k, hk, rfl, hg, hb⟩ := hrel
    have Hg := Lib.hid hg
    have hs := hb.size
    simp only [World.size_alloc] at hs
    have hbw : Below w.heap.size w wr := Below.trans (b := _) (by go_grown) (hb.mono (by omega))
    have u0 : wr.cell? ⟨w.heap.size, 0, none⟩ = some (.int .i64 p) := carry hb (by simp) (by omega)
    have u1 : wr.cell? ⟨w.heap.size, 1, none⟩ = some (.slice A n c) := carry hb (by simp) (by omega)
    clear hg
    by_cases hlt : k < q.length
    · obtain ⟨x, hx⟩ := getSome q k hlt
      obtain ⟨b, off, rfl, hbb, c0⟩ := (hB.below hbw (Nat.le_refl _)).int hx
      have hki : (k : Int) < (q.length : Int) := by omega
      have Hx := Lib.hid hx
      clear hx
      by_cases hman : 0 ≤ x ∧ x < p
      · have Hm := Lib.hid (isMan_yes hman)
        have Hman := Lib.hid hman
        clear hman
        by_cases hk0 : k = 0
        · have Hk0 := Lib.hid hk0
          have hk1 : ¬ ((0 : Int) < (k : Int)) := by omega
          have hk2 : ¬ (0 < k) := by omega
          clear hk0
          go_wp2_with fail
          refine (isPerson_any p x A n c _).mono ?_
          rw [Hm.out]
          rintro e w2 ⟨rfl, hb2⟩
          go_wp2
          go_roundw
          case rel =>
            refine ⟨k + 1, by omega, by go_num, fun j hj => ?_, hb.trans (hb2.mono (by omega))⟩
            rcases Nat.lt_succ_iff_lt_or_eq.1 hj with h | rfl
            · exact Hg.out j h
            · exact choiceAt_zero Hk0.out Hx.out Hman.out
          case measure => simp [intOf]; omega
        · obtain ⟨y, hy⟩ := getSome q (k - 1) (by omega)
          obtain ⟨b', off', e', _, c1⟩ := (hB.below hbw (Nat.le_refl _)).int hy
          simp only [Option.some.injEq, Addr.mk.injEq, and_true] at e'
          obtain ⟨rfl, rfl⟩ := e'
          have Hy := Lib.hid hy
          have hk1 : (0 : Int) < (k : Int) := by omega
          have hk2 : 0 < k := by omega
          have hk3 : (0 : Int) ≤ (k : Int) - 1 := by omega
          have hk4 : (k : Int) - 1 < (q.length : Int) := by omega
          clear hy hk0
          by_cases hyx : y < x
          · have hyx2 : ¬ (x ≤ y) := by omega
            go_wp2_with fail
            refine (isPerson_any p x _ n c _).mono ?_
            rw [Hm.out]
            rintro e w2 ⟨rfl, hb2⟩
            have c2 := carry hb2 c1 (by omega)
            go_wp2
            go_roundw
            case rel =>
              refine ⟨k + 1, by omega, by go_num, fun j hj => ?_, hb.trans (hb2.mono (by omega))⟩
              rcases Nat.lt_succ_iff_lt_or_eq.1 hj with h | rfl
              · exact Hg.out j h
              · exact choiceAt_later hk2 Hy.out Hx.out Hman.out hyx
            case measure => simp [intOf]; omega
          · have hyx2 : x ≤ y := by omega
            have He := Lib.hid (isChoiceI_no hlt (choiceAt_stale (p := p) hk2 Hy.out Hx.out hyx))
            go_wp2_with fail
            refine (isPerson_any p x _ n c _).mono ?_
            rw [Hm.out]
            rintro e w2 ⟨rfl, hb2⟩
            have c2 := carry hb2 c1 (by omega)
            go_wp2
            go_ret
            exact ⟨by rw [He.out]; rfl, hbw.trans (hb2.mono (by omega))⟩
      · have Hm := Lib.hid (isMan_no hman)
        have He := Lib.hid (isChoiceI_no hlt (choiceAt_bad Hx.out hman))
        clear hman
        go_wp2_with fail
        refine (isPerson_any p x A n c _).mono ?_
        rw [Hm.out]
        rintro e w2 ⟨rfl, hb2⟩
        go_wp2
        go_ret
        exact ⟨by rw [He.out]; rfl, hbw.trans (hb2.mono (by omega))⟩
    · have hkl : k = q.length := by omega
      have He := Lib.hid (isChoiceI_of fun j hj => Hg.out j (by omega))
      have hge : ¬ ((k : Int) < (q.length : Int)) := by omega
      go_wp2
      go_ret
      exact ⟨by rw [He.out]; rfl, hbw⟩
end Go.Proofs.Ytaemodpolopcfaa
