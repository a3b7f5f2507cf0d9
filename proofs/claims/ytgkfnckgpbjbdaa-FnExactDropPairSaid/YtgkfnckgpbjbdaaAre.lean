/-
  'AreFriends': the model's and the program's, by their contracts.
-/
import Derived.Test.YtgkfnckgpbjbdaaFriends
namespace Go.Proofs.Ytgkfnckgpbjbdaa
open Go.RowKit

def areF (l : PL) (a b : Int) : Bool := l.contains (min a b, max a b)
def resAreFriends (p : Int) (l : PL) (a b : Int) : Bool × Bool := if isTwo p l a b then (areF l a b, true) else (false, false)
theorem adj_areF {n : Nat} {l : PL} (h : isP n l = true) {i j : Nat} (hij : i ≠ j) : adj l i j = areF l i j := by
  unfold areF
  rcases Nat.lt_or_gt_of_ne hij with h1 | h1
  · rw [adj_pair h h1, Int.min_eq_left (by omega), Int.max_eq_right (by omega)]
  · rw [adj_comm, adj_pair h h1, Int.min_eq_right (by omega), Int.max_eq_left (by omega)]

set_option maxHeartbeats 1000000 in
theorem specAreFriends_any (p : Int) (l : PL) (A : Option Addr) (c : Nat) (a b : Int) (w : World) (hl : l.length ≤ 1048576) (hA : CRead w w.heap.size A (pcells l)) :
    Calls Try.prog 31 #[.agg #[.int .i64 p, .slice A l.length c], .int .i64 a, .int .i64 b] w fun e w' => e = .returned (.tuple #[.bool (resAreFriends p l a b).1, .bool (resAreFriends p l a b).2]) ∧ Below w.heap.size w w' := by
  have hr : CRead (w.alloc (Obj.cells #[.int .i64 p, .slice A l.length c] 29)) (w.alloc (Obj.cells #[.int .i64 p, .slice A l.length c] 29)).heap.size A (pcells l) := (hA.below (B' := w.heap.size) (by go_grown) (Nat.le_refl _)).more (by go_size)
  cases h2 : isTwo p l a b with
  | false =>
    have e : resAreFriends p l a b = (false, false) := by simp [resAreFriends, h2]
    rw [e]
    have H2 := Lib.hid h2
    clear h2 e
    go_enter Try.func31, Try.ntmps31
    go_wp2_with fail
    refine (paTwo_any _ _ _ _ _ _ _ hl hr).mono ?_
    rw [H2.out]
    rintro e w2 ⟨rfl, hb2⟩
    simp only [World.size_alloc] at hb2
    go_wp2
    go_ret2
    exact ⟨rfl, Below.trans (b := _) (by go_grown) (hb2.mono (by omega))⟩
  | true =>
    have e : resAreFriends p l a b = (areF l a b, true) := by simp [resAreFriends, h2]
    rw [e]
    obtain ⟨hp, ⟨ha0, ha1⟩, ⟨hb0, hb1⟩, hab⟩ := isTwo_parts h2
    have hn := isP_range hp
    obtain ⟨n, rfl⟩ : ∃ n : Nat, p = n := ⟨p.toNat, by omega⟩
    obtain ⟨i, rfl⟩ : ∃ i : Nat, a = i := ⟨a.toNat, by omega⟩
    obtain ⟨j, rfl⟩ : ∃ j : Nat, b = j := ⟨b.toNat, by omega⟩
    have hin : i < n := by omega
    have hjn : j < n := by omega
    have hadj := adj_areF hp (i := i) (j := j) (by omega)
    have H2 := Lib.hid h2
    have Hp := Lib.hid hp
    have Hadj := Lib.hid hadj
    clear h2 e hp hadj hab
    go_enter Try.func31, Try.ntmps31
    go_wp2_with fail
    refine (paTwo_any _ _ _ _ _ _ _ hl hr).mono ?_
    rw [H2.out]
    rintro e w2 ⟨rfl, hb2⟩
    simp only [World.size_alloc] at hb2
    have x0 : w2.cell? ⟨w.heap.size, 0, none⟩ = some (.int .i64 n) := carry hb2 (by simp) (by omega)
    have x1 : w2.cell? ⟨w.heap.size, 1, none⟩ = some (.slice A l.length c) := carry hb2 (by simp) (by omega)
    have k2 : Below w.heap.size w w2 := Below.trans (b := _) (by go_grown) (hb2.mono (by omega))
    go_wp2_with fail
    refine (paTable_any _ _ _ _ _ Hp.out ((hA.below k2 (Nat.le_refl _)).more k2.size)).mono ?_
    simp only [Int.toNat_natCast]
    rintro e w3 ⟨A3, c3, G, rfl, tab, hb3⟩
    obtain ⟨g, rfl⟩ := own_form tab.own (by omega)
    have d0 := tab.outer hin
    have d1 := tab.cell hin hjn
    rw [Hadj.out] at d1
    have k3 := k2.trans (hb3.mono k2.size)
    clear x0 x1 tab hb3 hb2
    go_wp2
    go_ret2
    exact ⟨rfl, k3⟩

set_option maxHeartbeats 1000000 in
theorem implAreFriends_any (p : Int) (l : PL) (A : Option Addr) (c : Nat) (a b : Int) (w : World) (hl : l.length ≤ 1048576) (hA : CRead w w.heap.size A (pcells l)) :
    Calls Try.prog 32 #[.agg #[.int .i64 p, .slice A l.length c], .int .i64 a, .int .i64 b] w fun e w' => e = .returned (.tuple #[.bool (resAreFriends p l a b).1, .bool (resAreFriends p l a b).2]) ∧ Below w.heap.size w w' := by
  have hr : CRead (w.alloc (Obj.cells #[.int .i64 p, .slice A l.length c] 29)) (w.alloc (Obj.cells #[.int .i64 p, .slice A l.length c] 29)).heap.size A (pcells l) := (hA.below (B' := w.heap.size) (by go_grown) (Nat.le_refl _)).more (by go_size)
  cases hp : isP p l with
  | false =>
    have e : resAreFriends p l a b = (false, false) := by simp [resAreFriends, isTwo, hp]
    rw [e]
    have Hp := Lib.hid hp
    clear hp e
    go_enter Try.func32, Try.ntmps32
    go_wp2_with fail
    refine (isParty_any _ _ _ _ _ hl hr).mono ?_
    rw [Hp.out]
    rintro e w2 ⟨rfl, hb2⟩
    simp only [World.size_alloc] at hb2
    go_wp2
    go_ret2
    exact ⟨rfl, Below.trans (b := _) (by go_grown) (hb2.mono (by omega))⟩
  | true =>
    cases ha : isMan p a with
    | false =>
      have e : resAreFriends p l a b = (false, false) := by simp [resAreFriends, isTwo, ha]
      rw [e]
      have Hp := Lib.hid hp
      have Ha := Lib.hid ha
      clear hp ha e
      go_enter Try.func32, Try.ntmps32
      go_wp2_with fail
      refine (isParty_any _ _ _ _ _ hl hr).mono ?_
      rw [Hp.out]
      rintro e w2 ⟨rfl, hb2⟩
      simp only [World.size_alloc] at hb2
      have a0 : w2.cell? ⟨w.heap.size, 0, none⟩ = some (.int .i64 p) := carry hb2 (by simp) (by omega)
      have a1 : w2.cell? ⟨w.heap.size, 1, none⟩ = some (.slice A l.length c) := carry hb2 (by simp) (by omega)
      have k2 : Below w.heap.size w w2 := Below.trans (b := _) (by go_grown) (hb2.mono (by omega))
      go_wp2_with fail
      refine (isPerson_any p a A l.length c _).mono ?_
      rw [Ha.out]
      rintro e w3 ⟨rfl, hb3⟩
      go_wp2
      go_ret2
      exact ⟨rfl, k2.trans (hb3.mono k2.size)⟩
    | true =>
      cases hb : isMan p b with
      | false =>
        have e : resAreFriends p l a b = (false, false) := by simp [resAreFriends, isTwo, hb]
        rw [e]
        have Hp := Lib.hid hp
        have Ha := Lib.hid ha
        have Hb := Lib.hid hb
        clear hp ha hb e
        go_enter Try.func32, Try.ntmps32
        go_wp2_with fail
        refine (isParty_any _ _ _ _ _ hl hr).mono ?_
        rw [Hp.out]
        rintro e w2 ⟨rfl, hb2⟩
        simp only [World.size_alloc] at hb2
        have a0 : w2.cell? ⟨w.heap.size, 0, none⟩ = some (.int .i64 p) := carry hb2 (by simp) (by omega)
        have a1 : w2.cell? ⟨w.heap.size, 1, none⟩ = some (.slice A l.length c) := carry hb2 (by simp) (by omega)
        have k2 : Below w.heap.size w w2 := Below.trans (b := _) (by go_grown) (hb2.mono (by omega))
        have s2 := hb2.size
        simp only [World.size_alloc] at s2
        go_wp2_with fail
        refine (isPerson_any p a A l.length c _).mono ?_
        rw [Ha.out]
        rintro e w3 ⟨rfl, hb3⟩
        have b0 := carry hb3 a0 (by omega)
        have b1 := carry hb3 a1 (by omega)
        clear a0 a1
        go_wp2_with fail
        refine (isPerson_any p b A l.length c _).mono ?_
        rw [Hb.out]
        rintro e w4 ⟨rfl, hb4⟩
        go_wp2
        go_ret2
        exact ⟨rfl, (k2.trans (hb3.mono k2.size)).trans (hb4.mono (Nat.le_trans k2.size hb3.size))⟩
      | true =>
        have Hp := Lib.hid hp
        have Ha := Lib.hid ha
        have Hb := Lib.hid hb
        obtain ⟨rv, hrv⟩ : ∃ r, resAreFriends p l a b = r := ⟨_, rfl⟩
        rw [hrv]
        have hab : rv = if a = b then (false, false) else (areF l a b, true) := by
          rw [← hrv]
          by_cases h : a = b <;> simp [resAreFriends, isTwo, hp, ha, hb, h]
        have Hab := Lib.hid hab
        clear hp ha hb hrv hab
        go_enter Try.func32, Try.ntmps32
        go_wp2_with fail
        refine (isParty_any _ _ _ _ _ hl hr).mono ?_
        rw [Hp.out]
        rintro e w2 ⟨rfl, hb2⟩
        simp only [World.size_alloc] at hb2
        have a0 : w2.cell? ⟨w.heap.size, 0, none⟩ = some (.int .i64 p) := carry hb2 (by simp) (by omega)
        have a1 : w2.cell? ⟨w.heap.size, 1, none⟩ = some (.slice A l.length c) := carry hb2 (by simp) (by omega)
        have k2 : Below w.heap.size w w2 := Below.trans (b := _) (by go_grown) (hb2.mono (by omega))
        have s2 := hb2.size
        simp only [World.size_alloc] at s2
        go_wp2_with fail
        refine (isPerson_any p a A l.length c _).mono ?_
        rw [Ha.out]
        rintro e w3 ⟨rfl, hb3⟩
        have b0 := carry hb3 a0 (by omega)
        have b1 := carry hb3 a1 (by omega)
        have s3 := hb3.size
        clear a0 a1
        go_wp2_with fail
        refine (isPerson_any p b A l.length c _).mono ?_
        rw [Hb.out]
        rintro e w4 ⟨rfl, hb4⟩
        have d0 := carry hb4 b0 (by omega)
        have d1 := carry hb4 b1 (by omega)
        have s4 := hb4.size
        have k4 : Below w.heap.size w w4 := (k2.trans (hb3.mono k2.size)).trans (hb4.mono (Nat.le_trans k2.size hb3.size))
        clear b0 b1
        by_cases h : a = b
        · have Hr := Lib.hid (show rv = (false, false) by rw [Hab.out, if_pos h])
          subst h
          go_wp2
          go_ret2
          exact ⟨by rw [Hr.out]; rfl, k4⟩
        · have Hr := Lib.hid (show rv = (areF l a b, true) by rw [Hab.out, if_neg h])
          have q0 : ∀ z : Ext w4.heap.size w4, z.val.cell? ⟨w.heap.size, 0, none⟩ = some (.int .i64 p) := fun z => z.cell d0 (by omega)
          have q1 : ∀ z : Ext w4.heap.size w4, z.val.cell? ⟨w.heap.size, 1, none⟩ = some (.slice A l.length c) := fun z => z.cell d1 (by omega)
          go_wp2
          refine wp_region_ext w4.heap.size (by kernel_rfl) (by kernel_rfl) ?_
          repeat (go_big_quiet_step ((first
            | (go_at_call 79; exact Calls.ext_of ((pairOf_any _ _ _).mono fun _ _ h => ⟨h.1, h.2.mono (Ext.size _)⟩))
            | (go_at_call 78; exact Calls.ext_of ((contains_any l _ _ A c _ hl ((hA.below (k4.trans ((Ext.below _).mono k4.size)) (Nat.le_refl _)).more (Nat.le_trans k4.size (Ext.size _)))).mono fun _ _ h => ⟨h.1, h.2.mono (Ext.size _)⟩)))))
          refine wpQuiet_nil ?_
          rintro w5 ⟨⟨_, hb5⟩, rfl⟩
          go_wp2
          go_ret2
          exact ⟨by rw [Hr.out]; rfl, k4.trans (hb5.mono k4.size)⟩
end Go.Proofs.Ytgkfnckgpbjbdaa
