/-
  'FullParty': the model's and the program's, by their contracts.
-/
import Derived.Test.YtgkfnckgpbjbdaaOtherP
namespace Go.Proofs.Ytgkfnckgpbjbdaa
open Go.RowKit

def resFullParty (n : Int) : Int × PL × Bool := resOtherParty n []
theorem resFullParty_len (n : Int) : (resFullParty n).2.1.length ≤ 1048576 := resOtherParty_len n []
theorem isP_nil (n : Int) : isP n [] = decide (0 ≤ n ∧ n ≤ 12) := by simp [isP]
theorem resFullParty_yes {n : Int} (h0 : 0 ≤ n) (h1 : n ≤ 12) : resFullParty n = (n, otherP n.toNat [], true) := by
  unfold resFullParty resOtherParty
  rw [if_pos (by rw [isP_nil]; simp; omega)]
theorem resFullParty_no {n : Int} (h : n < 0 ∨ 12 < n) : resFullParty n = (0, [], false) := by
  unfold resFullParty resOtherParty
  rw [if_neg (by rw [isP_nil]; simp; omega)]

set_option maxHeartbeats 1000000 in
set_option maxRecDepth 100000 in
theorem specFullParty_any (n : Int) (w : World) : Calls Try.prog 29 #[.int .i64 n] w (GotPartyOk w (resFullParty n).1 (resFullParty n).2.1 (resFullParty n).2.2) := by
  by_cases h : n < 0 ∨ 12 < n
  · rw [resFullParty_no h]
    go_enter Try.func29, Try.ntmps29
    go_wp2_with (go_at_call 71; refine (paPeople_no _ h _).mono ?_; rintro e w' ⟨rfl, rfl⟩)
    exact bodyPost_ret (v := .tuple #[.agg #[.int .i64 0, .slice none 0 0], .bool false]) (by simp [results, Try.results29, go_sem]) rfl ⟨none, 0, rfl, World.ownsRow_nil _ _ _ _, by go_grown⟩
  · have h0 : 0 ≤ n := by omega
    have h1 : n ≤ 12 := by omega
    have hp : isP n [] = true := by rw [isP_nil]; simp; omega
    rw [resFullParty_yes h0 h1]
    have Hp := Lib.hid hp
    clear hp
    go_enter Try.func29, Try.ntmps29
    go_wp2_with (go_at_call 71; refine (paPeople_yes _ h0 h1 _).mono ?_; rintro e w' ⟨rfl, rfl⟩)
    go_wp2_with fail
    refine (paOther_any n [] none 0 _ Hp.out CRead.nil).mono ?_
    rintro e w3 ⟨A3, c3, rfl, own3, hb3⟩
    simp only [World.size_alloc] at own3 hb3
    have y0 : w3.cell? ⟨w.heap.size, 0, none⟩ = some (.int .i64 0) := carry hb3 (by simp) (by omega)
    have y1 : w3.cell? ⟨w.heap.size, 1, none⟩ = some (.slice none 0 0) := carry hb3 (by simp) (by omega)
    have y2 : w3.frozen? ⟨w.heap.size, 0, none⟩ = false := (hb3.frozen (p := ⟨w.heap.size, 0, none⟩) (by simp)).trans (by simp)
    have y3 : w3.frozen? ⟨w.heap.size, 1, none⟩ = false := (hb3.frozen (p := ⟨w.heap.size, 1, none⟩) (by simp)).trans (by simp)
    have k3 : Below w.heap.size w w3 := Below.trans (b := _) (by go_grown) (hb3.mono (by omega))
    go_wp2
    refine bodyPost_ret (v := .tuple #[.agg #[.int .i64 n, .slice A3 (otherP n.toNat []).length c3], .bool true]) (by simp [results, Try.results29, go_sem, y0, y1]) rfl ?_
    exact ⟨A3, c3, rfl, own_lower (ownsRow_setCell_below (ownsRow_setCell_below own3 (a := ⟨w.heap.size, 0, none⟩) (by simp) _) (a := ⟨w.heap.size, 1, none⟩) (by simp) _) (by omega),
      (k3.setCell (p := ⟨w.heap.size, 0, none⟩) (by simp) _).setCell (p := ⟨w.heap.size, 1, none⟩) (by simp) _⟩

set_option maxHeartbeats 1000000 in
set_option maxRecDepth 100000 in
theorem implFullParty_any (n : Int) (w : World) : Calls Try.prog 30 #[.int .i64 n] w (GotPartyOk w (resFullParty n).1 (resFullParty n).2.1 (resFullParty n).2.2) := by
  obtain ⟨⟨rq, rm, rok⟩, hres⟩ : ∃ r, resOtherParty n [] = r := ⟨_, rfl⟩
  have e : resFullParty n = (rq, rm, rok) := hres
  rw [e]
  have Hres := Lib.hid hres
  clear hres e
  go_enter Try.func30, Try.ntmps30
  go_wp2_with fail
  refine (implOtherParty_any n [] none 0 _ (Nat.zero_le _) CRead.nil).mono ?_
  rw [Hres.out]
  rintro e w3 ⟨A3, c3, rfl, own3, hb3⟩
  simp only [World.size_alloc] at own3 hb3
  have y0 : w3.cell? ⟨w.heap.size, 0, none⟩ = some (.int .i64 0) := carry hb3 (by simp) (by omega)
  have y1 : w3.cell? ⟨w.heap.size, 1, none⟩ = some (.slice none 0 0) := carry hb3 (by simp) (by omega)
  have y2 : w3.frozen? ⟨w.heap.size, 0, none⟩ = false := (hb3.frozen (p := ⟨w.heap.size, 0, none⟩) (by simp)).trans (by simp)
  have y3 : w3.frozen? ⟨w.heap.size, 1, none⟩ = false := (hb3.frozen (p := ⟨w.heap.size, 1, none⟩) (by simp)).trans (by simp)
  have k3 : Below w.heap.size w w3 := Below.trans (b := _) (by go_grown) (hb3.mono (by omega))
  go_wp2
  refine bodyPost_ret (v := .tuple #[.agg #[.int .i64 rq, .slice A3 rm.length c3], .bool rok]) (by simp [results, Try.results30, go_sem, y0, y1]) rfl ?_
  exact ⟨A3, c3, rfl, own_lower (ownsRow_setCell_below (ownsRow_setCell_below own3 (a := ⟨w.heap.size, 0, none⟩) (by simp) _) (a := ⟨w.heap.size, 1, none⟩) (by simp) _) (by omega),
    (k3.setCell (p := ⟨w.heap.size, 0, none⟩) (by simp) _).setCell (p := ⟨w.heap.size, 1, none⟩) (by simp) _⟩
end Go.Proofs.Ytgkfnckgpbjbdaa
