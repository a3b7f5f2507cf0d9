/-
  'impl.friendOfOne', by its contract.
-/
import Derived.Test.YtaemodpolopcfaaTreeL
import Derived.Test.YtaemodpolopcfaaTreeX
import Derived.WalkMore
namespace Go.Proofs.Ytaemodpolopcfaa
open Go.RowKit

/-- the first one with more than 1 left lies at u, or there is none and u is 12 -/
structure KindF (f : Nat → Int) (a b u : Nat) : Prop where
  le : u ≤ 12
  ne : a ≠ b
  lt : b < 12
  one : ∀ j, j < u → ¬ 1 < f j
  hit : u < 12 → u = b ∧ 1 < f b
  none : u = 12 → f b = 1 ∧ ∀ j, j < 12 → j ≠ a → f j = 1 → j = b
theorem kindF {l : List Int} {a b u : Nat} (h : KindB l a b u) (hl : l.length ≤ 12) : ∃ u', KindF (leftF l) a b u' := by
  by_cases hu : u < l.length
  · obtain ⟨e, hp⟩ := h.hit hu
    obtain ⟨y, hy⟩ := getSome l b h.lt
    refine ⟨u, by omega, h.ne, by have := h.lt; omega, fun j hj => ?_, fun _ => ⟨e, by rw [leftF_at hy]; exact hp y hy⟩, fun e' => by omega⟩
    obtain ⟨z, hz⟩ := getSome l j (by omega)
    rw [leftF_at hz]
    exact h.one j z hj hz
  · have hu2 : u = l.length := by have := h.le; omega
    obtain ⟨n1, n2⟩ := h.none hu2
    refine ⟨12, Nat.le_refl _, h.ne, by have := h.lt; omega, fun j hj => ?_, fun e => by omega, fun _ => ⟨leftF_at n1, fun j hj hja hj1 => ?_⟩⟩
    · by_cases hjl : j < l.length
      · obtain ⟨z, hz⟩ := getSome l j hjl
        rw [leftF_at hz]
        exact h.one j z (by omega) hz
      · rw [leftF_out (by omega)]
        omega
    · by_cases hjl : j < l.length
      · obtain ⟨z, hz⟩ := getSome l j hjl
        rw [leftF_at hz] at hj1
        exact n2 j hja (by rw [hz, hj1])
      · rw [leftF_out (by omega)] at hj1
        omega

theorem agg12_at (f : Nat → Int) {m : Nat} (hm : m < 12) : (#[.int .i64 (f 0), .int .i64 (f 1), .int .i64 (f 2), .int .i64 (f 3), .int .i64 (f 4), .int .i64 (f 5), .int .i64 (f 6), .int .i64 (f 7), .int .i64 (f 8), .int .i64 (f 9), .int .i64 (f 10), .int .i64 (f 11)] : Array Value)[m]? = some (.int .i64 (f m)) := by
  match m, hm with
  | 0, _ | 1, _ | 2, _ | 3, _ | 4, _ | 5, _ | 6, _ | 7, _ | 8, _ | 9, _ | 10, _ | 11, _ => rfl

set_option maxHeartbeats 4000000 in
set_option maxRecDepth 100000 in
theorem friendOfOne_any (f : Nat → Int) (a b u : Nat) (w : World) (h : KindF f a b u) :
    Calls Try.prog 100 #[.agg #[.int .i64 (f 0), .int .i64 (f 1), .int .i64 (f 2), .int .i64 (f 3), .int .i64 (f 4), .int .i64 (f 5), .int .i64 (f 6), .int .i64 (f 7), .int .i64 (f 8), .int .i64 (f 9), .int .i64 (f 10), .int .i64 (f 11)], .int .i64 a] w fun e w' => e = .returned (.int .i64 b) ∧ Below w.heap.size w w' := by
  have hu := h.le
  have hb := h.lt
  have hab := h.ne
  have H := Lib.hid h
  clear h
  go_enter Try.func100, Try.ntmps100
  go_wp2
  go_step3
  go_wp2
  go_step3
  go_wp2
  go_loop [5, 10] (fun fr i => ∃ (m : Nat) (z : Int), m ≤ 12 ∧ i = .int .i64 m ∧ fr = .int .i64 z ∧ m ≤ u ∧ (u = 12 → (m ≤ b → z = a) ∧ (b < m → z = b))) (fun _ i => 12 - (intOf i).toNat)
  case atStart => exact ⟨0, a, by omega, rfl, rfl, Nat.zero_le _, fun _ => ⟨fun _ => rfl, fun h => by omega⟩⟩
  case round =>
    obtain ⟨m, z, hm, rfl, rfl, hmu, hz⟩ := hrel
    have Hz := Lib.hid hz
    clear hz
    by_cases hmt : m < 12
    · have hmi : (m : Int) < 12 := by omega
      obtain ⟨y, hy⟩ : ∃ y, f m = y := ⟨_, rfl⟩
      have hidx : ∀ v : World, (Instr.index 100 (.agg #[.int .i64 (f 0), .int .i64 (f 1), .int .i64 (f 2), .int .i64 (f 3), .int .i64 (f 4), .int .i64 (f 5), .int .i64 (f 6), .int .i64 (f 7), .int .i64 (f 8), .int .i64 (f 9), .int .i64 (f 10), .int .i64 (f 11)]) (.int .i64 m)).run Try.prog v = .ok (.int .i64 y) v := fun v => index_left _ m y v hmt (by rw [agg12_at f hmt, hy])
      by_cases hu1 : u = m
      · have z1 : 1 < y := by have h2 := H.out.hit (by omega); rw [← hy]; have := h2.2; rw [← h2.1, hu1] at this; exact this
        have zb : b = m := by have h2 := H.out.hit (by omega); omega
        have Zb := Lib.hid zb
        clear hu1 zb hmu hu hb hab hy
        go_wp2
        go_ret
        exact ⟨by rw [Zb.out]; rfl, by go_grown⟩
      · have z1 : ¬ 1 < y := by have := H.out.one m (by omega); rw [hy] at this; exact this
        have z1b : decide (1 < y) = false := decide_eq_false z1
        have hmu2 : m + 1 ≤ u := by omega
        by_cases hy1 : y = 1
        · have yb : (y == 1) = true := beq_iff_eq.2 hy1
          by_cases hma : m = a
          · have ab : ((m : Int) != (a : Int)) = false := by rw [hma]; simp
            have HH := Lib.hid (show u = 12 → (m + 1 ≤ b → z = a) ∧ (b < m + 1 → z = b) from fun h => by have h2 := Hz.out h; exact ⟨fun h3 => h2.1 (by omega), fun h3 => h2.2 (by omega)⟩)
            clear hma hmu hy hu1
            go_wp2
            go_round
            case rel => exact ⟨m + 1, z, by omega, by go_num, rfl, hmu2, HH.out⟩
            case measure => simp [intOf]; omega
          · have ab : ((m : Int) != (a : Int)) = true := bne_iff_ne.2 (by omega)
            have HH := Lib.hid (show u = 12 → (m + 1 ≤ b → (m : Int) = a) ∧ (b < m + 1 → (m : Int) = b) from fun h => by have h2 := (H.out.none h).2 m (by omega) hma (by rw [hy]; exact hy1); exact ⟨fun h3 => by omega, fun h3 => by omega⟩)
            clear hma hmu hy hu1
            go_wp2
            go_round
            case rel => exact ⟨m + 1, m, by omega, by go_num, rfl, hmu2, HH.out⟩
            case measure => simp [intOf]; omega
        · have yb : (y == 1) = false := beq_eq_false_iff_ne.2 hy1
          have HH := Lib.hid (show u = 12 → (m + 1 ≤ b → z = a) ∧ (b < m + 1 → z = b) from fun h => by
            have h2 := Hz.out h
            have h3 := (H.out.none h).1
            have h4 : b ≠ m := fun e => by rw [e, hy] at h3; exact hy1 h3
            exact ⟨fun h3 => h2.1 (by omega), fun h3 => h2.2 (by omega)⟩)
          clear hmu hy hu1
          go_wp2
          go_round
          case rel => exact ⟨m + 1, z, by omega, by go_num, rfl, hmu2, HH.out⟩
          case measure => simp [intOf]; omega
    · have hm12 : m = 12 := by omega
      have hge : ¬ ((m : Int) < 12) := by omega
      have hzb : z = b := (Hz.out (by omega)).2 (by omega)
      have Hzb := Lib.hid hzb
      clear hzb hm12
      go_wp2
      go_ret
      exact ⟨by rw [Hzb.out]; rfl, by go_grown⟩
end Go.Proofs.Ytaemodpolopcfaa
