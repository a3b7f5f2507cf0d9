/-
  Parties that a call comes back with; 'EmptyParty', by its contracts.
-/
import Derived.Test.YtgkfnckgpbjbdaaCmp
namespace Go.Proofs.Ytgkfnckgpbjbdaa
open Go.RowKit

/-- A call came back with a party and a bool; the party's pairs lie in memory of its own. -/
def GotPartyOk (w : World) (p : Int) (l : PL) (ok : Bool) (e : Ending) (w' : World) : Prop :=
  ∃ A c, e = .returned (.tuple #[.agg #[.int .i64 p, .slice A l.length c], .bool ok]) ∧ w'.ownsRow w.heap.size 65 2 (.slice A l.length c) l.length (pcells l) ∧ Below w.heap.size w w'
/-- A call came back with a list of numbers and a bool. -/
def GotIntsOk (w : World) (l : List Int) (ok : Bool) (e : Ending) (w' : World) : Prop :=
  ∃ A c, e = .returned (.tuple #[.slice A l.length c, .bool ok]) ∧ w'.ownsRow w.heap.size 3 1 (.slice A l.length c) l.length (icells l) ∧ Below w.heap.size w w'

def resEmptyParty (n : Int) : Int × PL × Bool := if 0 ≤ n ∧ n ≤ 12 then (n, [], true) else (0, [], false)
theorem resEmptyParty_len (n : Int) : (resEmptyParty n).2.1.length ≤ 1048576 := by unfold resEmptyParty; split <;> simp

set_option maxHeartbeats 400000 in
theorem specEmptyParty_any (n : Int) (w : World) : Calls Try.prog 25 #[.int .i64 n] w (GotPartyOk w (resEmptyParty n).1 (resEmptyParty n).2.1 (resEmptyParty n).2.2) := by
  by_cases h : 0 ≤ n ∧ n ≤ 12
  · have e : resEmptyParty n = (n, [], true) := if_pos h
    rw [e]
    go_enter Try.func25, Try.ntmps25
    go_wp2_with (go_at_call 71; refine (paPeople_yes _ h.1 h.2 _).mono ?_; rintro e w' ⟨rfl, rfl⟩)
    exact bodyPost_ret (v := .tuple #[.agg #[.int .i64 n, .slice none 0 0], .bool true]) (by simp [results, Try.results25, go_sem]) rfl ⟨none, 0, rfl, World.ownsRow_nil _ _ _ _, by go_grown⟩
  · have e : resEmptyParty n = (0, [], false) := if_neg h
    rw [e]
    go_enter Try.func25, Try.ntmps25
    go_wp2_with (go_at_call 71; refine (paPeople_no _ (by omega) _).mono ?_; rintro e w' ⟨rfl, rfl⟩)
    exact bodyPost_ret (v := .tuple #[.agg #[.int .i64 0, .slice none 0 0], .bool false]) (by simp [results, Try.results25, go_sem]) rfl ⟨none, 0, rfl, World.ownsRow_nil _ _ _ _, by go_grown⟩

set_option maxHeartbeats 400000 in
theorem implEmptyParty_any (n : Int) (w : World) : Calls Try.prog 26 #[.int .i64 n] w (GotPartyOk w (resEmptyParty n).1 (resEmptyParty n).2.1 (resEmptyParty n).2.2) := by
  by_cases h : 0 ≤ n ∧ n ≤ 12
  · have e : resEmptyParty n = (n, [], true) := if_pos h
    rw [e]
    have h0 : ¬ n < 0 := by omega
    have h1 : ¬ 12 < n := by omega
    go_enter Try.func26, Try.ntmps26
    go_wp2
    exact bodyPost_ret (v := .tuple #[.agg #[.int .i64 n, .slice none 0 0], .bool true]) (by simp [results, Try.results26, go_sem]) rfl ⟨none, 0, rfl, World.ownsRow_nil _ _ _ _, by go_grown⟩
  · have e : resEmptyParty n = (0, [], false) := if_neg h
    rw [e]
    by_cases h0 : n < 0
    · go_enter Try.func26, Try.ntmps26
      go_wp2
      exact bodyPost_ret (v := .tuple #[.agg #[.int .i64 0, .slice none 0 0], .bool false]) (by simp [results, Try.results26, go_sem]) rfl ⟨none, 0, rfl, World.ownsRow_nil _ _ _ _, by go_grown⟩
    · have h1 : 12 < n := by omega
      go_enter Try.func26, Try.ntmps26
      go_wp2
      exact bodyPost_ret (v := .tuple #[.agg #[.int .i64 0, .slice none 0 0], .bool false]) (by simp [results, Try.results26, go_sem]) rfl ⟨none, 0, rfl, World.ownsRow_nil _ _ _ _, by go_grown⟩
end Go.Proofs.Ytgkfnckgpbjbdaa
