/-
  'IsGroup' of the model, by its contract.
-/
import Derived.Test.YtgccapdjhnejcaaDoorGroupP
import Derived.Test.YtgccapdjhnejcaaDoorTable
import Derived.Test.YtgccapdjhnejcaaDoorFriends
import Derived.Test.YtgccapdjhnejcaaDoorHas
namespace Go.Proofs.YtgccapdjhnejcaaDoor
open Go.RowKit

theorem getD_is {q : List Int} {k : Nat} {x : Int} (h : q[k]? = some x) : q.getD k 0 = x := by rw [List.getD_eq_getElem?_getD, h]; rfl

set_option maxHeartbeats 1000000 in
set_option maxRecDepth 100000 in
theorem trKnows_any (n a : Nat) (t : Nat → Nat → Bool) (A : Option Addr) (c : Nat) (G : Nat → Nat) (B : Nat) (q : List Int) (Bq : Option Addr) (d : Nat) (w : World) (hn : n ≤ 12) (ha : a < n) (tab : TabG w B (.slice A n c) n n G t)
    (hq : ∀ x ∈ q, 0 ≤ x ∧ x < n) (hlq : q.length ≤ 1048576) (hB : CRead w w.heap.size Bq (icells q)) :
    Calls Tryd.prog 99 #[.slice A n c, .slice Bq q.length d, .int .i64 a] w fun e w' => e = .returned (.bool (q.all fun y => t a y.toNat)) ∧ w = w' := by
  obtain ⟨g, rfl⟩ := own_form tab.own (by omega)
  have d0 := tab.outer ha
  have hai : (a : Int) < n := by omega
  go_enter Tryd.func99, Tryd.ntmps99
  go_wp2
  go_loop [11] (fun i => ∃ k : Nat, k ≤ q.length ∧ i = .int .i64 k ∧ ∀ (j : Nat) (x : Int), j < k → q[j]? = some x → t a x.toNat = true) (fun i => q.length - (intOf i).toNat)
  case atStart => exact ⟨0, Nat.zero_le _, rfl, fun j x hj => by omega⟩
  case round =>
    obtain ⟨k, hk, rfl, hg⟩ := hrel
    have Hg := Lib.hid hg
    clear hg
    by_cases hlt : k < q.length
    · obtain ⟨x, hx⟩ := getSome q k hlt
      obtain ⟨b, off, rfl, hbb, c0⟩ := hB.int hx
      have hx0 := hq x (List.mem_of_getElem? hx)
      obtain ⟨y, rfl⟩ : ∃ y : Nat, x = y := ⟨x.toNat, by omega⟩
      have hki : (k : Int) < (q.length : Int) := by omega
      have hyi : (y : Int) < n := by omega
      have d1 := tab.cell ha (show y < n by omega)
      have Hx := Lib.hid hx
      clear hx
      cases ht : t a y with
      | false =>
        have e : (q.all fun y => t a y.toNat) = false := by
          rw [List.all_eq_false]
          exact ⟨_, List.mem_of_getElem? Hx.out, by simp [ht]⟩
        have He := Lib.hid e
        rw [ht] at d1
        clear e ht
        go_wp2
        go_ret
        exact ⟨by rw [He.out]; rfl, rfl⟩
      | true =>
        rw [ht] at d1
        have Ht := Lib.hid ht
        clear ht
        go_wp2
        go_round
        case rel =>
          refine ⟨k + 1, by omega, by go_num, fun j z hj hz => ?_⟩
          by_cases hjk : j = k
          · subst hjk
            rw [Hx.out] at hz
            simp only [Option.some.injEq] at hz
            subst hz
            exact Ht.out
          · exact Hg.out j z (by omega) hz
        case measure => simp [intOf]; omega
    · have hkl : k = q.length := by omega
      have hge : ¬ ((k : Int) < (q.length : Int)) := by omega
      have e : (q.all fun y => t a y.toNat) = true := by
        rw [List.all_eq_true]
        intro x hx
        obtain ⟨j, hj, e⟩ := List.getElem_of_mem hx
        exact Hg.out j x (by omega) (by rw [List.getElem?_eq_getElem hj, e])
      have He := Lib.hid e
      clear e
      go_wp2
      go_ret
      exact ⟨by rw [He.out]; rfl, rfl⟩

end Go.Proofs.YtgccapdjhnejcaaDoor
