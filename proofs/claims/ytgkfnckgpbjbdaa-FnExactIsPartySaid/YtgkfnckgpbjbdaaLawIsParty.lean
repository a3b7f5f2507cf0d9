/-
  'laws.FnExactIsParty' returns true, whatever the party.
-/
import Derived.Test.YtgkfnckgpbjbdaaCmp
import Derived.Deep.RegionHeld3
namespace Go.Proofs.Ytgkfnckgpbjbdaa
open Go.RowKit

set_option maxHeartbeats 1000000 in
theorem lawIsParty_any (p : Int) (l : PL) (A : Option Addr) (c : Nat) (W : World) (hl : l.length ≤ maxLen) (hA : CRead W W.heap.size A (pcells l)) :
    Calls Try.prog 3 #[.agg #[.int .i64 p, .slice A l.length c]] W fun e w' => e = .returned (.bool true) ∧ Below W.heap.size W w' := by
  generalize hn : l.length = n at *
  have Hn := Lib.hid hn
  clear hn
  by_cases hsz : szI 1048576 n < 0
  · go_enter Try.func3, Try.ntmps3
    go_wp2_with (go_at_call 20; refine (szParty_any _ _ _ _ _ hl (by omega) (by omega) _).mono ?_; rintro e w1 ⟨rfl, hb1⟩)
    go_ret
    simp only [World.size_alloc] at hb1
    exact ⟨rfl, Below.trans (b := _) (by go_grown) (hb1.mono (by omega))⟩
  · have hlen : n ≤ 1048576 := by have := szI_len _ _ hsz; omega
    go_enter Try.func3, Try.ntmps3
    go_wp2_with fail
    refine (szParty_any _ _ _ _ _ hl (by omega) (by omega) _).mono ?_
    rintro e w1 ⟨rfl, hb1⟩
    simp only [World.size_alloc] at hb1
    have k1 : Below W.heap.size W w1 := Below.trans (b := _) (by go_grown) (hb1.mono (by omega))
    have a1 : w1.cell? ⟨W.heap.size, 0, none⟩ = some (.int .i64 p) := carry hb1 (by simp) (by omega)
    have b1 : w1.cell? ⟨W.heap.size, 1, none⟩ = some (.slice A n c) := carry hb1 (by simp) (by omega)
    have s1 := hb1.size
    simp only [World.size_alloc] at s1
    clear hb1
    go_wp2_with fail
    rw [← Hn.out]
    refine (toParty_any p l A c _ (by rw [Hn.out]; exact hlen) ((hA.below k1 (Nat.le_refl _)).more (by omega))).mono ?_
    rintro e w2 ⟨A2, c2, rfl, hown2, hb2⟩
    rw [Hn.out] at hown2 ⊢
    have k2 := k1.trans (hb2.mono k1.size)
    have a2 := carry hb2 a1 (by omega)
    have b2 := carry hb2 b1 (by omega)
    have s2 := hb2.size
    clear a1 b1
    go_wp2_with fail
    rw [← Hn.out]
    refine (specIsParty_any p l _ _ _ (by rw [Hn.out]; exact hlen) (by rw [← Hn.out] at hown2; exact CRead.of_own hown2)).mono ?_
    rintro e w3 ⟨rfl, hb3⟩
    rw [Hn.out]
    have k3 := k2.trans (hb3.mono k2.size)
    have a3 := carry hb3 a2 (by omega)
    have b3 := carry hb3 b2 (by omega)
    have s3 := hb3.size
    clear a2 b2 hown2
    go_wp2_with fail
    rw [← Hn.out]
    refine (toParty_any p l A c _ (by rw [Hn.out]; exact hlen) ((hA.below k3 (Nat.le_refl _)).more (by omega))).mono ?_
    rintro e w4 ⟨A4, c4, rfl, hown4, hb4⟩
    rw [Hn.out] at hown4 ⊢
    have k4 := k3.trans (hb4.mono k3.size)
    have a4 := carry hb4 a3 (by omega)
    have b4 := carry hb4 b3 (by omega)
    have s4 := hb4.size
    clear a3 b3
    go_wp2_with fail
    rw [← Hn.out]
    refine (isParty_any p l _ _ _ (by rw [Hn.out]; exact hlen) (by rw [← Hn.out] at hown4; exact ((CRead.of_own hown4).below (Below.alloc (Below.refl _ _) (Nat.le_refl _) _) (Nat.le_refl _)).more (by simp))).mono ?_
    rintro e w5 ⟨rfl, hb5⟩
    simp only [Hn.out] at hb5 ⊢
    simp only [World.size_alloc] at hb5
    have h5 : Below w4.heap.size w4 w5 := Below.trans (b := _) (by go_grown) (hb5.mono (by omega))
    have k5 := k4.trans (h5.mono k4.size)
    have a5 := carry h5 a4 (by omega)
    have b5 := carry h5 b4 (by omega)
    have x5 : w5.cell? ⟨w4.heap.size, 0, none⟩ = some (.int .i64 p) := carry hb5 (by simp) (by omega)
    have y5 : w5.cell? ⟨w4.heap.size, 1, none⟩ = some (.slice A4 n c4) := carry hb5 (by simp) (by omega)
    have s5 := hb5.size
    have hown5 := own_below hown4 h5 (Nat.le_refl _)
    simp only [World.size_alloc] at s5
    clear a4 b4
    go_wp2
    go_region_held3 (fun w' => w'.cell? ⟨W.heap.size, 0, none⟩ = some (.int .i64 p) ∧ w'.cell? ⟨W.heap.size, 1, none⟩ = some (.slice A n c) ∧ w'.cell? ⟨w4.heap.size, 0, none⟩ = some (.int .i64 p) ∧ w'.cell? ⟨w4.heap.size, 1, none⟩ = some (.slice A4 n c4)) (first | exact ⟨a5, b5, x5, y5⟩ | exact ⟨a6, b6, x6, y6⟩ | exact ⟨a7, b7, x7, y7⟩) ((first
      | (go_at_call 22; rw [← Hn.out]; refine (toParty_any p l A c _ (by rw [Hn.out]; exact hlen) ((hA.below k5.drew (Nat.le_refl _)).more k5.size)).mono ?_; rintro e w6 ⟨A6, c6, rfl, hown6, hb6⟩; rw [Hn.out] at hown6 ⊢; have k6 := k5.drew.trans (hb6.mono k5.size); have a6 := carry hb6 a5 (by show _ < w5.heap.size; omega); have b6 := carry hb6 b5 (by show _ < w5.heap.size; omega); have x6 := carry hb6 x5 (by show _ < w5.heap.size; omega); have y6 := carry hb6 y5 (by show _ < w5.heap.size; omega); have o6 := own_below hown5 ((Below.refl _ _).drew.trans hb6) (Nat.le_refl _))
      | (go_at_call 24; rw [← Hn.out]; refine (eqParty_any p p l l _ _ _ _ _ (by rw [Hn.out]; exact hl) (by rw [Hn.out]; exact hl) (by rw [← Hn.out] at o6; exact CRead.of_own o6) (by rw [← Hn.out] at hown6; exact CRead.of_own hown6)).mono ?_; rw [decide_eq_true ⟨rfl, rfl⟩]; rintro e w7 ⟨rfl, hb7⟩; rw [Hn.out]; have k7 := k6.trans (hb7.mono k6.size); have a7 := carry hb7 a6 (by have := hb6.size; simp at this; omega); have b7 := carry hb7 b6 (by have := hb6.size; simp at this; omega); have x7 := carry hb7 x6 (by have := hb6.size; simp at this; omega); have y7 := carry hb7 y6 (by have := hb6.size; simp at this; omega))))
    go_wp2
    go_ret
    exact ⟨rfl, k7⟩
end Go.Proofs.Ytgkfnckgpbjbdaa
