/-
  'IsGroup' of the program, by its contract.
-/
import Derived.Test.YtaemodpolopcfaaGroupP
import Derived.Test.YtaemodpolopcfaaChooseI
import Derived.BigQuiet
namespace Go.Proofs.Ytaemodpolopcfaa
open Go.RowKit

set_option maxHeartbeats 4000000 in
set_option maxRecDepth 100000 in
theorem implIsGroup_any (p : Int) (l : PL) (A : Option Addr) (c : Nat) (q : List Int) (B : Option Addr) (d : Nat) (w : World) (hl : l.length ≤ 1048576) (hA : CRead w w.heap.size A (pcells l)) (hq : q.length ≤ 1048576) (hB : CRead w w.heap.size B (icells q)) :
    Calls Try.prog 41 #[.agg #[.int .i64 p, .slice A l.length c], .slice B q.length d] w fun e w' => e = .returned (.tuple #[.bool (resIsGroup p l q).1, .bool (resIsGroup p l q).2]) ∧ Below w.heap.size w w' := by
  have RA : CRead (w.alloc (Obj.cells #[.int .i64 p, .slice A l.length c] 29)) (w.alloc (Obj.cells #[.int .i64 p, .slice A l.length c] 29)).heap.size A (pcells l) := (hA.below (B' := w.heap.size) (by go_grown) (Nat.le_refl _)).more (by go_size)
  cases hp : isP p l with
  | false =>
    have e : resIsGroup p l q = (false, false) := by simp [resIsGroup, hp]
    rw [e]
    have Hp := Lib.hid hp
    clear hp e
    go_enter Try.func41, Try.ntmps41
    go_wp2_with fail
    refine (isParty_any _ _ _ _ _ hl RA).mono ?_
    rw [Hp.out]
    rintro e w2 ⟨rfl, hb2⟩
    simp only [World.size_alloc] at hb2
    go_wp2
    go_ret2
    exact ⟨rfl, Below.trans (b := _) (by go_grown) (hb2.mono (by omega))⟩
  | true =>
    have hn := isP_range hp
    cases hc : isChoiceI p q with
    | false =>
      have e : resIsGroup p l q = (false, true) := by simp [resIsGroup, hp, groups_not hc]
      have e2 : resChooseParty p l q = (0, [], false) := by simp [resChooseParty, hc]
      rw [e]
      have Hp := Lib.hid hp
      have E2 := Lib.hid e2
      clear hp e hc e2
      go_enter Try.func41, Try.ntmps41
      go_wp2_with fail
      refine (isParty_any _ _ _ _ _ hl RA).mono ?_
      rw [Hp.out]
      rintro e w2 ⟨rfl, hb2⟩
      simp only [World.size_alloc] at hb2
      have a0 : w2.cell? ⟨w.heap.size, 0, none⟩ = some (.int .i64 p) := carry hb2 (by simp) (by omega)
      have a1 : w2.cell? ⟨w.heap.size, 1, none⟩ = some (.slice A l.length c) := carry hb2 (by simp) (by omega)
      have k2 : Below w.heap.size w w2 := Below.trans (b := _) (by go_grown) (hb2.mono (by omega))
      go_wp2_with fail
      refine (implChooseParty_any p l A c q B d _ hl ((hA.below k2 (Nat.le_refl _)).more k2.size) hq ((hB.below k2 (Nat.le_refl _)).more k2.size)).mono ?_
      rw [E2.out]
      rintro e w3 ⟨A3, c3, rfl, own3, hb3⟩
      have k3 := k2.trans (hb3.mono k2.size)
      clear a0 a1 hb2
      go_wp2
      generalize hX : w3.alloc (Obj.cells #[.int .i64 0, .slice A3 0 c3] 29) = X
      have x1 : X.cell? ⟨w3.heap.size, 1, none⟩ = some (.slice A3 0 c3) := by rw [← hX]; simp
      have kX : Below w.heap.size w X := by rw [← hX]; exact k3.alloc k3.size _
      clear hX own3
      go_quiet (fail)
      go_wp2
      go_ret2
      exact ⟨rfl, kX.trans ⟨rfl, rfl, rfl, Nat.le_refl _, fun _ _ => rfl⟩⟩
    | true =>
      obtain ⟨r, hr⟩ : ∃ r, isGroupI p l q = r := ⟨_, rfl⟩
      have e : resIsGroup p l q = (r, true) := by simp [resIsGroup, hp, hr]
      have e2 : resChooseParty p l q = ((q.length : Int), chooseP l q, true) := by simp [resChooseParty, hp, hc]
      have hg := groups_all hp hc
      rw [hr] at hg
      have hq12 : q.length ≤ 12 := by rcases isChoiceI_long hc with h | h; (· omega); (· simp [h])
      rw [e]
      have Hp := Lib.hid hp
      have E2 := Lib.hid e2
      have Hg := Lib.hid hg
      clear hp e hc e2 hr hg
      go_enter Try.func41, Try.ntmps41
      go_wp2_with fail
      refine (isParty_any _ _ _ _ _ hl RA).mono ?_
      rw [Hp.out]
      rintro e w2 ⟨rfl, hb2⟩
      simp only [World.size_alloc] at hb2
      have a0 : w2.cell? ⟨w.heap.size, 0, none⟩ = some (.int .i64 p) := carry hb2 (by simp) (by omega)
      have a1 : w2.cell? ⟨w.heap.size, 1, none⟩ = some (.slice A l.length c) := carry hb2 (by simp) (by omega)
      have k2 : Below w.heap.size w w2 := Below.trans (b := _) (by go_grown) (hb2.mono (by omega))
      go_wp2_with fail
      refine (implChooseParty_any p l A c q B d _ hl ((hA.below k2 (Nat.le_refl _)).more k2.size) hq ((hB.below k2 (Nat.le_refl _)).more k2.size)).mono ?_
      rw [E2.out]
      rintro e w3 ⟨A3, c3, rfl, own3, hb3⟩
      have k3 := k2.trans (hb3.mono k2.size)
      clear a0 a1 hb2
      go_wp2
      generalize hX : w3.alloc (Obj.cells #[.int .i64 (q.length : Int), .slice A3 (chooseP l q).length c3] 29) = X
      have x1 : X.cell? ⟨w3.heap.size, 1, none⟩ = some (.slice A3 (chooseP l q).length c3) := by rw [← hX]; simp
      have kX : Below w.heap.size w X := by rw [← hX]; exact k3.alloc k3.size _
      clear hX own3
      have hiw : InWays (q.length : Int) 2 := .inl (by omega)
      by_cases hgr : ((chooseP l q).length : Int) = waysI q.length 2
      · have hgd : r = true := by rw [Hg.out]; exact decide_eq_true hgr
        subst hgd
        go_quiet (first | (go_at_call 78; refine Calls.quiet_of_same ((waysToChoose_any (q.length : Int) 2 _ hiw).mono fun _ _ ⟨he, hw⟩ => ⟨he, hw.symm⟩)))
        go_wp2
        go_ret2
        exact ⟨rfl, kX.trans ⟨rfl, rfl, rfl, Nat.le_refl _, fun _ _ => rfl⟩⟩
      · have hgd : r = false := by rw [Hg.out]; exact decide_eq_false hgr
        subst hgd
        have Hb := Lib.hid (show (((chooseP l q).length : Int) == waysI (q.length : Int) 2) = false from by simp [hgr])
        go_quiet (first | (go_at_call 78; refine Calls.quiet_of_same ((waysToChoose_any (q.length : Int) 2 _ hiw).mono fun _ _ ⟨he, hw⟩ => ⟨he, hw.symm⟩)))
        go_wp2
        go_ret2
        exact ⟨by rw [Hb.out]; rfl, kX.trans ⟨rfl, rfl, rfl, Nat.le_refl _, fun _ _ => rfl⟩⟩
end Go.Proofs.Ytaemodpolopcfaa
