/-
  'CountForks' and 'CountByNumbers': the model's and the program's, by their contracts.
-/
import Derived.Test.YtaemodpolopcfaaWays
import Derived.Test.YtaemodpolopcfaaNumbers
import Derived.Test.YtaemodpolopcfaaNums
namespace Go.Proofs.Ytaemodpolopcfaa
open Go.RowKit

theorem tdiv_two {u m : Int} (h : -m ≤ u ∧ u ≤ m) : -m ≤ u.tdiv 2 ∧ u.tdiv 2 ≤ m := by
  rcases Int.le_total 0 u with h0 | h0
  · rw [Int.tdiv_eq_ediv_of_nonneg h0]
    omega
  · obtain ⟨v, rfl⟩ : ∃ v, u = -v := ⟨-u, by omega⟩
    rw [Int.neg_tdiv, Int.tdiv_eq_ediv_of_nonneg (by omega)]
    omega
theorem small_more {acc : List Int} {m m' : Nat} (h : Small acc m) (hm : m ≤ m') : Small acc m' := fun i x hx => by have := h i x hx; omega
theorem small_bump {acc : List Int} {m : Nat} (h : Small acc m) (a : Int) : Small (bump acc a) (m + 1) := by
  by_cases ha : a.toNat < acc.length
  · obtain ⟨u, hu⟩ := getSome acc a.toNat ha
    have e : bump acc a = acc.set a.toNat (u + 1) := by simp [bump, List.getD, hu]
    rw [e]
    exact small_set h hu
  · have e : bump acc a = acc := by unfold bump; rw [List.set_eq_of_length_le (by omega)]
    rw [e]
    exact small_more h (by omega)
theorem numsOf_small (n : Nat) (l : PL) : Small (numsOf n l) (2 * l.length) := by
  unfold numsOf
  suffices h : ∀ (l : PL) (acc : List Int) (m : Nat), Small acc m → Small (l.foldl (fun acc q => bump (bump acc q.1) q.2) acc) (m + 2 * l.length) from small_more (h l _ 0 (small_zero n 0)) (by omega)
  intro l
  induction l with
  | nil => intro acc m h; exact h
  | cons q l ih => intro acc m h; exact small_more (ih _ (m + 2) (small_bump (small_bump h _) _)) (by simp only [List.length_cons]; omega)
def sumW (f : Int → Int) (q : List Int) : Int := sumI (q.map f)
theorem sumW_next {f : Int → Int} {q : List Int} {k : Nat} {x : Int} (hx : q[k]? = some x) : sumW f (q.take (k + 1)) = sumW f (q.take k) + f x := by
  unfold sumW
  rw [List.take_add_one, hx, Option.toList_some, List.map_append, List.map_cons, List.map_nil, sumI_snoc]
theorem sumW_bound {f : Int → Int} {q : List Int} {m : Int} (h : ∀ (k : Nat) (x : Int), q[k]? = some x → -m ≤ f x ∧ f x ≤ m) : ∀ k, k ≤ q.length → -((k : Int) * m) ≤ sumW f (q.take k) ∧ sumW f (q.take k) ≤ (k : Int) * m := by
  intro k
  induction k with
  | zero => intro _; simp [sumW, sumI]
  | succ k ih =>
    intro hk
    obtain ⟨x, hx⟩ := getSome q k (by omega)
    rw [sumW_next hx]
    have h1 := h k x hx
    have h2 := ih (by omega)
    have h3 : ((k + 1 : Nat) : Int) * m = (k : Int) * m + m := by rw [Int.natCast_add, Int.add_mul]; simp
    omega
def forkF (d : Int) : Int := waysI d 2
def unevenF (p d : Int) : Int := d * (p - 1 - d)
def resCountForks (p : Int) (l : PL) : Int × Bool := if isP p l then (sumW forkF (numsOf p.toNat l), true) else (0, false)
def resCountByNumbers (p : Int) (l : PL) : Int × Bool := if isP p l then (waysI p 3 - (sumW (unevenF p) (numsOf p.toNat l)).tdiv 2, true) else (0, false)

set_option maxHeartbeats 1000000 in
set_option maxRecDepth 100000 in
theorem specCountForks_any (p : Int) (l : PL) (A : Option Addr) (c : Nat) (w : World) (hl : l.length ≤ 1048576) (hA : CRead w w.heap.size A (pcells l)) :
    Calls Try.prog 36 #[.agg #[.int .i64 p, .slice A l.length c]] w fun e w' => e = .returned (.tuple #[.int .i64 (resCountForks p l).1, .bool (resCountForks p l).2]) ∧ Below w.heap.size w w' := by
  have hr : CRead (w.alloc (Obj.cells #[.int .i64 p, .slice A l.length c] 29)) (w.alloc (Obj.cells #[.int .i64 p, .slice A l.length c] 29)).heap.size A (pcells l) := (hA.below (B' := w.heap.size) (by go_grown) (Nat.le_refl _)).more (by go_size)
  cases hp : isP p l with
  | false =>
    have e : resCountForks p l = (0, false) := by simp [resCountForks, hp]
    rw [e]
    have Hp := Lib.hid hp
    clear hp e
    go_enter Try.func36, Try.ntmps36
    go_wp2_with fail
    refine (paGood_any _ _ _ _ _ hl hr).mono ?_
    rw [Hp.out]
    rintro e w2 ⟨rfl, hb2⟩
    simp only [World.size_alloc] at hb2
    go_wp2
    go_ret2
    exact ⟨rfl, Below.trans (b := _) (by go_grown) (hb2.mono (by omega))⟩
  | true =>
    obtain ⟨rv, hrv⟩ : ∃ rv, sumW forkF (numsOf p.toNat l) = rv := ⟨_, rfl⟩
    have e : resCountForks p l = (rv, true) := by simp [resCountForks, hp, hrv]
    have Hrv := Lib.hid hrv
    clear hrv
    rw [e]
    have hn := isP_range hp
    have hlen : l.length ≤ 66 := by have h1 := isP_length hp; have h2 := people_sq hn.1 hn.2; omega
    have Hp := Lib.hid hp
    clear hp e
    go_enter Try.func36, Try.ntmps36
    go_wp2_with fail
    refine (paGood_any _ _ _ _ _ hl hr).mono ?_
    rw [Hp.out]
    rintro e w2 ⟨rfl, hb2⟩
    simp only [World.size_alloc] at hb2
    have a0 : w2.cell? ⟨w.heap.size, 0, none⟩ = some (.int .i64 p) := carry hb2 (by simp) (by omega)
    have a1 : w2.cell? ⟨w.heap.size, 1, none⟩ = some (.slice A l.length c) := carry hb2 (by simp) (by omega)
    have k2 : Below w.heap.size w w2 := Below.trans (b := _) (by go_grown) (hb2.mono (by omega))
    go_wp2_with fail
    refine (paNumbers_any _ _ _ _ _ Hp.out ((hA.below k2 (Nat.le_refl _)).more k2.size)).mono ?_
    rintro e w3 ⟨g, rfl, own3, hb3⟩
    have k3 := k2.trans (hb3.mono k2.size)
    clear a0 a1 hb2
    have hs := numsOf_length p.toNat l
    have hsm := small_more (numsOf_small p.toNat l) (m' := 132) (by omega)
    generalize numsOf p.toNat l = s at *
    generalize hnn : p.toNat = n at *
    have hn12 : n ≤ 12 := by omega
    have hb := sumW_bound (f := forkF) (q := s) (m := 10000) (fun k x hx => by have h := hsm k x hx; have := waysI_bound (n := x) (k := 2) (.inr (by omega)); unfold forkF; omega)
    have Hb := Lib.hid hb
    have Hsm := Lib.hid hsm
    clear hb hsm
    go_wp2
    go_loop [4, 13] (fun v i => ∃ (k : Nat) (u : Int), k ≤ n ∧ i = .int .i64 k ∧ v = .int .i64 u ∧ u = sumW forkF (s.take k)) (fun _ i => n - (intOf i).toNat)
    case atStart => exact ⟨0, 0, Nat.zero_le _, rfl, rfl, rfl⟩
    case round =>
      obtain ⟨k, u, hk, rfl, rfl, hu⟩ := hrel
      have hub := Hb.out k (by omega)
      rw [← hu] at hub
      have Hu := Lib.hid hu
      clear hu
      by_cases hlt : k < n
      · obtain ⟨x, hx⟩ := getSome s k (by omega)
        have hx0 := Hsm.out k x hx
        have hw := waysI_bound (n := x) (k := 2) (.inr (by omega))
        have d0 := own_intAt own3 hx
        have hki : (k : Int) < (n : Int) := by omega
        have Hx := Lib.hid hx
        clear hx
        go_wp2_with fail
        refine (trChoose_any x 2 _ (.inr (by omega))).mono ?_
        rintro e w4 ⟨rfl, rfl⟩
        go_wp2
        go_round
        case rel =>
          refine ⟨k + 1, u + waysI x 2, by omega, by go_num, by go_num, ?_⟩
          rw [sumW_next Hx.out, ← Hu.out]
          rfl
        case measure => simp [intOf]; omega
      · have hkl : k = n := by omega
        have hge : ¬ ((k : Int) < (n : Int)) := by omega
        have hz : s.take k = s := List.take_of_length_le (by omega)
        have Hz := Lib.hid hz
        clear hz
        go_wp2
        go_ret2
        exact ⟨by rw [← Hrv.out, Hu.out, Hz.out]; rfl, k3⟩

set_option maxHeartbeats 1000000 in
set_option maxRecDepth 100000 in
theorem implCountForks_any (p : Int) (l : PL) (A : Option Addr) (c : Nat) (w : World) (hl : l.length ≤ 1048576) (hA : CRead w w.heap.size A (pcells l)) :
    Calls Try.prog 37 #[.agg #[.int .i64 p, .slice A l.length c]] w fun e w' => e = .returned (.tuple #[.int .i64 (resCountForks p l).1, .bool (resCountForks p l).2]) ∧ Below w.heap.size w w' := by
  have hr : CRead (w.alloc (Obj.cells #[.int .i64 p, .slice A l.length c] 29)) (w.alloc (Obj.cells #[.int .i64 p, .slice A l.length c] 29)).heap.size A (pcells l) := (hA.below (B' := w.heap.size) (by go_grown) (Nat.le_refl _)).more (by go_size)
  cases hp : isP p l with
  | false =>
    have e : resCountForks p l = (0, false) := by simp [resCountForks, hp]
    have e2 : resNumbersOfFriends p l = ([], false) := by simp [resNumbersOfFriends, hp]
    rw [e]
    have E2 := Lib.hid e2
    clear hp e e2
    go_enter Try.func37, Try.ntmps37
    go_wp2_with fail
    refine (implNumbersOfFriends_any _ _ _ _ _ hl hr).mono ?_
    rw [E2.out]
    rintro e w2 ⟨A2, c2, rfl, own2, hb2⟩
    simp only [World.size_alloc] at hb2
    go_wp2
    go_ret2
    exact ⟨rfl, Below.trans (b := _) (by go_grown) (hb2.mono (by omega))⟩
  | true =>
    obtain ⟨rv, hrv⟩ : ∃ rv, sumW forkF (numsOf p.toNat l) = rv := ⟨_, rfl⟩
    have e : resCountForks p l = (rv, true) := by simp [resCountForks, hp, hrv]
    have Hrv := Lib.hid hrv
    clear hrv
    have e2 : resNumbersOfFriends p l = (numsOf p.toNat l, true) := by simp [resNumbersOfFriends, hp]
    rw [e]
    have hn := isP_range hp
    have hlen : l.length ≤ 66 := by have h1 := isP_length hp; have h2 := people_sq hn.1 hn.2; omega
    have E2 := Lib.hid e2
    have hs := numsOf_length p.toNat l
    have hsm := small_more (numsOf_small p.toNat l) (m' := 132) (by omega)
    clear hp e e2
    go_enter Try.func37, Try.ntmps37
    go_wp2_with fail
    refine (implNumbersOfFriends_any _ _ _ _ _ hl hr).mono ?_
    rw [E2.out]
    clear E2
    generalize numsOf p.toNat l = s at *
    have hn12 : s.length ≤ 12 := by omega
    clear hs
    rintro e w2 ⟨A2, c2, rfl, own2, hb2⟩
    simp only [World.size_alloc] at hb2 own2
    have k2 : Below w.heap.size w w2 := Below.trans (b := _) (by go_grown) (hb2.mono (by omega))
    have hb := sumW_bound (f := forkF) (q := s) (m := 10000) (fun k x hx => by have h := hsm k x hx; have := waysI_bound (n := x) (k := 2) (.inr (by omega)); unfold forkF; omega)
    have Hb := Lib.hid hb
    have Hsm := Lib.hid hsm
    clear hb hsm
    go_wp2
    go_loop [6, 18] (fun v i => ∃ (k : Nat) (u : Int), k ≤ s.length ∧ i = .int .i64 k ∧ v = .int .i64 u ∧ u = sumW forkF (s.take k)) (fun _ i => s.length - (intOf i).toNat)
    case atStart => exact ⟨0, 0, Nat.zero_le _, rfl, rfl, rfl⟩
    case round =>
      obtain ⟨k, u, hk, rfl, rfl, hu⟩ := hrel
      have hub := Hb.out k (by omega)
      rw [← hu] at hub
      have Hu := Lib.hid hu
      clear hu
      by_cases hlt : k < s.length
      · obtain ⟨g, rfl⟩ := own_form own2 (by omega)
        obtain ⟨x, hx⟩ := getSome s k (by omega)
        have hx0 := Hsm.out k x hx
        have hw := waysI_bound (n := x) (k := 2) (.inr (by omega))
        have d0 := own_intAt own2 hx
        have hki : (k : Int) < (s.length : Int) := by omega
        have Hx := Lib.hid hx
        clear hx
        go_wp2_with fail
        refine (waysToChoose_any x 2 _ (.inr (by omega))).mono ?_
        rintro e w4 ⟨rfl, rfl⟩
        go_wp2
        go_round
        case rel =>
          refine ⟨k + 1, u + waysI x 2, by omega, by go_num, by go_num, ?_⟩
          rw [sumW_next Hx.out, ← Hu.out]
          rfl
        case measure => simp [intOf]; omega
      · have hkl : k = s.length := by omega
        have hge : ¬ ((k : Int) < (s.length : Int)) := by omega
        have hz : s.take k = s := List.take_of_length_le (by omega)
        have Hz := Lib.hid hz
        clear hz
        go_wp2
        go_ret2
        exact ⟨by rw [← Hrv.out, Hu.out, Hz.out]; rfl, k2⟩

set_option maxHeartbeats 1000000 in
set_option maxRecDepth 100000 in
theorem specCountByNumbers_any (p : Int) (l : PL) (A : Option Addr) (c : Nat) (w : World) (hl : l.length ≤ 1048576) (hA : CRead w w.heap.size A (pcells l)) :
    Calls Try.prog 32 #[.agg #[.int .i64 p, .slice A l.length c]] w fun e w' => e = .returned (.tuple #[.int .i64 (resCountByNumbers p l).1, .bool (resCountByNumbers p l).2]) ∧ Below w.heap.size w w' := by
  have hr : CRead (w.alloc (Obj.cells #[.int .i64 p, .slice A l.length c] 29)) (w.alloc (Obj.cells #[.int .i64 p, .slice A l.length c] 29)).heap.size A (pcells l) := (hA.below (B' := w.heap.size) (by go_grown) (Nat.le_refl _)).more (by go_size)
  cases hp : isP p l with
  | false =>
    have e : resCountByNumbers p l = (0, false) := by simp [resCountByNumbers, hp]
    rw [e]
    have Hp := Lib.hid hp
    clear hp e
    go_enter Try.func32, Try.ntmps32
    go_wp2_with fail
    refine (paGood_any _ _ _ _ _ hl hr).mono ?_
    rw [Hp.out]
    rintro e w2 ⟨rfl, hb2⟩
    simp only [World.size_alloc] at hb2
    go_wp2
    go_ret2
    exact ⟨rfl, Below.trans (b := _) (by go_grown) (hb2.mono (by omega))⟩
  | true =>
    obtain ⟨rv, hrv⟩ : ∃ rv, waysI p 3 - (sumW (unevenF p) (numsOf p.toNat l)).tdiv 2 = rv := ⟨_, rfl⟩
    have e : resCountByNumbers p l = (rv, true) := by simp [resCountByNumbers, hp, hrv]
    have Hrv := Lib.hid hrv
    clear hrv
    rw [e]
    have hn := isP_range hp
    have hlen : l.length ≤ 66 := by have h1 := isP_length hp; have h2 := people_sq hn.1 hn.2; omega
    have Hp := Lib.hid hp
    clear hp e
    go_enter Try.func32, Try.ntmps32
    go_wp2_with fail
    refine (paGood_any _ _ _ _ _ hl hr).mono ?_
    rw [Hp.out]
    rintro e w2 ⟨rfl, hb2⟩
    simp only [World.size_alloc] at hb2
    have a0 : w2.cell? ⟨w.heap.size, 0, none⟩ = some (.int .i64 p) := carry hb2 (by simp) (by omega)
    have a1 : w2.cell? ⟨w.heap.size, 1, none⟩ = some (.slice A l.length c) := carry hb2 (by simp) (by omega)
    have k2 : Below w.heap.size w w2 := Below.trans (b := _) (by go_grown) (hb2.mono (by omega))
    go_wp2_with fail
    refine (paNumbers_any _ _ _ _ _ Hp.out ((hA.below k2 (Nat.le_refl _)).more k2.size)).mono ?_
    rintro e w3 ⟨g, rfl, own3, hb3⟩
    have k3 := k2.trans (hb3.mono k2.size)
    have b0 := carry hb3 a0 (by have := hb2.size; simp only [World.size_alloc] at this; omega)
    have hw3 := waysI_bound (n := p) (k := 3) (.inl (by omega))
    clear a0 a1 hb2
    have hs := numsOf_length p.toNat l
    have hsm := small_more (numsOf_small p.toNat l) (m' := 132) (by omega)
    generalize numsOf p.toNat l = s at *
    generalize hnn : p.toNat = n at *
    have hn12 : n ≤ 12 := by omega
    have hb := sumW_bound (f := unevenF p) (q := s) (m := 2000000) (fun k x hx => by have h := hsm k x hx; exact mul_within (a := x) (b := p - 1 - x) (by omega) (by omega))
    have Hb := Lib.hid hb
    have Hsm := Lib.hid hsm
    clear hb hsm
    go_wp2
    go_loop [4, 13] (fun v i => ∃ (k : Nat) (u : Int), k ≤ n ∧ i = .int .i64 k ∧ v = .int .i64 u ∧ u = sumW (unevenF p) (s.take k)) (fun _ i => n - (intOf i).toNat)
    case atStart => exact ⟨0, 0, Nat.zero_le _, rfl, rfl, rfl⟩
    case round =>
      obtain ⟨k, u, hk, rfl, rfl, hu⟩ := hrel
      have hub := Hb.out k (by omega)
      rw [← hu] at hub
      have Hu := Lib.hid hu
      clear hu
      by_cases hlt : k < n
      · obtain ⟨x, hx⟩ := getSome s k (by omega)
        have hx0 := Hsm.out k x hx
        obtain ⟨hm0, hm1⟩ := mul_within (a := x) (b := p - 1 - x) (by omega) (by omega)
        have hwm : IntKind.i64.wrap (x * (p - 1 - x)) = x * (p - 1 - x) := wrap_small (by omega)
        have d0 := own_intAt own3 hx
        have hki : (k : Int) < (n : Int) := by omega
        have Hx := Lib.hid hx
        clear hx
        go_wp2
        go_round
        case rel =>
          refine ⟨k + 1, u + x * (p - 1 - x), by omega, by go_num, by go_num, ?_⟩
          rw [sumW_next Hx.out, ← Hu.out]
          rfl
        case measure => simp [intOf]; omega
      · have hkl : k = n := by omega
        have hge : ¬ ((k : Int) < (n : Int)) := by omega
        have hz : s.take k = s := List.take_of_length_le (by omega)
        have Hz := Lib.hid hz
        clear hz
        have hkm : (k : Int) * 2000000 ≤ 24000000 := by omega
        have hdv := tdiv_two (u := u) (m := 24000000) (by omega)
        have Hrv2 := Lib.hid (show waysI p 3 - u.tdiv 2 = rv by rw [Hu.out, Hz.out]; exact Hrv.out)
        go_wp2_with fail
        refine (trChoose_any p 3 _ (.inl (by omega))).mono ?_
        rintro e w4 ⟨rfl, rfl⟩
        go_wp2
        go_ret2
        exact ⟨by rw [Hrv2.out]; rfl, k3⟩

set_option maxHeartbeats 1000000 in
set_option maxRecDepth 100000 in
theorem implCountByNumbers_any (p : Int) (l : PL) (A : Option Addr) (c : Nat) (w : World) (hl : l.length ≤ 1048576) (hA : CRead w w.heap.size A (pcells l)) :
    Calls Try.prog 33 #[.agg #[.int .i64 p, .slice A l.length c]] w fun e w' => e = .returned (.tuple #[.int .i64 (resCountByNumbers p l).1, .bool (resCountByNumbers p l).2]) ∧ Below w.heap.size w w' := by
  have hr : CRead (w.alloc (Obj.cells #[.int .i64 p, .slice A l.length c] 29)) (w.alloc (Obj.cells #[.int .i64 p, .slice A l.length c] 29)).heap.size A (pcells l) := (hA.below (B' := w.heap.size) (by go_grown) (Nat.le_refl _)).more (by go_size)
  cases hp : isP p l with
  | false =>
    have e : resCountByNumbers p l = (0, false) := by simp [resCountByNumbers, hp]
    have e2 : resNumbersOfFriends p l = ([], false) := by simp [resNumbersOfFriends, hp]
    rw [e]
    have E2 := Lib.hid e2
    clear hp e e2
    go_enter Try.func33, Try.ntmps33
    go_wp2_with fail
    refine (implNumbersOfFriends_any _ _ _ _ _ hl hr).mono ?_
    rw [E2.out]
    rintro e w2 ⟨A2, c2, rfl, own2, hb2⟩
    simp only [World.size_alloc] at hb2
    go_wp2
    go_ret2
    exact ⟨rfl, Below.trans (b := _) (by go_grown) (hb2.mono (by omega))⟩
  | true =>
    obtain ⟨rv, hrv⟩ : ∃ rv, waysI p 3 - (sumW (unevenF p) (numsOf p.toNat l)).tdiv 2 = rv := ⟨_, rfl⟩
    have e : resCountByNumbers p l = (rv, true) := by simp [resCountByNumbers, hp, hrv]
    have Hrv := Lib.hid hrv
    clear hrv
    have e2 : resNumbersOfFriends p l = (numsOf p.toNat l, true) := by simp [resNumbersOfFriends, hp]
    rw [e]
    have hn := isP_range hp
    have hlen : l.length ≤ 66 := by have h1 := isP_length hp; have h2 := people_sq hn.1 hn.2; omega
    have E2 := Lib.hid e2
    have hs := numsOf_length p.toNat l
    have hsm := small_more (numsOf_small p.toNat l) (m' := 132) (by omega)
    clear hp e e2
    go_enter Try.func33, Try.ntmps33
    go_wp2_with fail
    refine (implNumbersOfFriends_any _ _ _ _ _ hl hr).mono ?_
    rw [E2.out]
    clear E2
    generalize numsOf p.toNat l = s at *
    have hn12 : s.length ≤ 12 := by omega
    clear hs
    rintro e w2 ⟨A2, c2, rfl, own2, hb2⟩
    simp only [World.size_alloc] at hb2 own2
    have k2 : Below w.heap.size w w2 := Below.trans (b := _) (by go_grown) (hb2.mono (by omega))
    have b0 : w2.cell? ⟨w.heap.size, 0, none⟩ = some (.int .i64 p) := carry hb2 (by simp) (by omega)
    have hw3 := waysI_bound (n := p) (k := 3) (.inl (by omega))
    have hb := sumW_bound (f := unevenF p) (q := s) (m := 2000000) (fun k x hx => by have h := hsm k x hx; exact mul_within (a := x) (b := p - 1 - x) (by omega) (by omega))
    have Hb := Lib.hid hb
    have Hsm := Lib.hid hsm
    clear hb hsm
    go_wp2
    go_loop [6, 18] (fun v i => ∃ (k : Nat) (u : Int), k ≤ s.length ∧ i = .int .i64 k ∧ v = .int .i64 u ∧ u = sumW (unevenF p) (s.take k)) (fun _ i => s.length - (intOf i).toNat)
    case atStart => exact ⟨0, 0, Nat.zero_le _, rfl, rfl, rfl⟩
    case round =>
      obtain ⟨k, u, hk, rfl, rfl, hu⟩ := hrel
      have hub := Hb.out k (by omega)
      rw [← hu] at hub
      have Hu := Lib.hid hu
      clear hu
      by_cases hlt : k < s.length
      · obtain ⟨g, rfl⟩ := own_form own2 (by omega)
        obtain ⟨x, hx⟩ := getSome s k (by omega)
        have hx0 := Hsm.out k x hx
        obtain ⟨hm0, hm1⟩ := mul_within (a := x) (b := p - 1 - x) (by omega) (by omega)
        have hwm : IntKind.i64.wrap (x * (p - 1 - x)) = x * (p - 1 - x) := wrap_small (by omega)
        have d0 := own_intAt own2 hx
        have hki : (k : Int) < (s.length : Int) := by omega
        have Hx := Lib.hid hx
        clear hx
        go_wp2
        go_round
        case rel =>
          refine ⟨k + 1, u + x * (p - 1 - x), by omega, by go_num, by go_num, ?_⟩
          rw [sumW_next Hx.out, ← Hu.out]
          rfl
        case measure => simp [intOf]; omega
      · have hkl : k = s.length := by omega
        have hge : ¬ ((k : Int) < (s.length : Int)) := by omega
        have hz : s.take k = s := List.take_of_length_le (by omega)
        have Hz := Lib.hid hz
        clear hz
        have hkm : (k : Int) * 2000000 ≤ 24000000 := by omega
        have hdv := tdiv_two (u := u) (m := 24000000) (by omega)
        have Hrv2 := Lib.hid (show waysI p 3 - u.tdiv 2 = rv by rw [Hu.out, Hz.out]; exact Hrv.out)
        go_wp2_with fail
        refine (waysToChoose_any p 3 _ (.inl (by omega))).mono ?_
        rintro e w4 ⟨rfl, rfl⟩
        go_wp2
        go_ret2
        exact ⟨by rw [Hrv2.out]; rfl, k2⟩
end Go.Proofs.Ytaemodpolopcfaa
