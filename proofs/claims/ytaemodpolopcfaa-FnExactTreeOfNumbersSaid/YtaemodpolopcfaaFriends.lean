/-
  'AreFriends': the model's and the program's, by their contracts.
-/
import Derived.Test.YtaemodpolopcfaaOtherP
import Derived.Deep.RegionWith
namespace Go.Proofs.Ytaemodpolopcfaa
open Go.RowKit

/-! ## People -/
def isMan (p a : Int) : Bool := decide (0 ≤ a ∧ a < p)
theorem isMan_yes {p a : Int} (h : 0 ≤ a ∧ a < p) : isMan p a = true := decide_eq_true h
theorem isMan_no {p a : Int} (h : ¬ (0 ≤ a ∧ a < p)) : isMan p a = false := decide_eq_false h
set_option maxHeartbeats 400000 in
theorem paHas_any (p a : Int) (A : Option Addr) (n c : Nat) (w : World) (hp : 0 ≤ p ∧ p ≤ 12) :
    Calls Try.prog 82 #[.agg #[.int .i64 p, .slice A n c], .int .i64 a] w fun e w' => e = .returned (.bool (isMan p a)) ∧ Below w.heap.size w w' := by
  obtain ⟨h0, h1⟩ := hp
  have e : l1InB a 0 (p - 1) = isMan p a := by
    unfold l1InB isMan
    rw [Bool.eq_iff_iff]
    simp
    omega
  have He := Lib.hid e
  clear e
  go_enter Try.func82, Try.ntmps82
  go_wp2_with fail
  refine (l1In_any _ _ _ _).mono ?_
  rw [He.out]
  rintro e w' ⟨rfl, rfl⟩
  go_wp2
  go_ret
  exact ⟨rfl, by go_grown⟩
set_option maxHeartbeats 400000 in
theorem isPerson_any (p a : Int) (A : Option Addr) (n c : Nat) (w : World) :
    Calls Try.prog 88 #[.agg #[.int .i64 p, .slice A n c], .int .i64 a] w fun e w' => e = .returned (.bool (isMan p a)) ∧ Below w.heap.size w w' := by
  by_cases h0 : 0 ≤ a
  · by_cases h1 : a < p
    · rw [isMan_yes ⟨h0, h1⟩]
      go_enter Try.func88, Try.ntmps88
      go_wp2
      go_ret
      exact ⟨rfl, by go_grown⟩
    · rw [isMan_no (by omega)]
      go_enter Try.func88, Try.ntmps88
      go_wp2
      go_ret
      exact ⟨rfl, by go_grown⟩
  · rw [isMan_no (by omega)]
    go_enter Try.func88, Try.ntmps88
    go_wp2
    go_ret
    exact ⟨rfl, by go_grown⟩

/-- a party and two different people -/
def isTwo (p : Int) (l : PL) (a b : Int) : Bool := isP p l && isMan p a && isMan p b && decide (a ≠ b)
set_option maxHeartbeats 1000000 in
theorem paTwo_any (p : Int) (l : PL) (a b : Int) (A : Option Addr) (c : Nat) (w : World) (hl : l.length ≤ 1048576) (hA : CRead w w.heap.size A (pcells l)) :
    Calls Try.prog 59 #[.agg #[.int .i64 p, .slice A l.length c], .int .i64 a, .int .i64 b] w fun e w' => e = .returned (.bool (isTwo p l a b)) ∧ Below w.heap.size w w' := by
  have hr : CRead (w.alloc (Obj.cells #[.int .i64 p, .slice A l.length c] 29)) (w.alloc (Obj.cells #[.int .i64 p, .slice A l.length c] 29)).heap.size A (pcells l) := (hA.below (B' := w.heap.size) (by go_grown) (Nat.le_refl _)).more (by go_size)
  cases hp : isP p l with
  | false =>
    have e : isTwo p l a b = false := by simp [isTwo, hp]
    rw [e]
    have Hp := Lib.hid hp
    clear hp e
    go_enter Try.func59, Try.ntmps59
    go_wp2_with fail
    refine (paGood_any _ _ _ _ _ hl hr).mono ?_
    rw [Hp.out]
    rintro e w2 ⟨rfl, hb2⟩
    simp only [World.size_alloc] at hb2
    go_wp2
    go_ret
    exact ⟨rfl, Below.trans (b := _) (by go_grown) (hb2.mono (by omega))⟩
  | true =>
    have hn := isP_range hp
    cases ha : isMan p a with
    | false =>
      have e : isTwo p l a b = false := by simp [isTwo, ha]
      rw [e]
      have Hp := Lib.hid hp
      have Ha := Lib.hid ha
      clear hp ha e
      go_enter Try.func59, Try.ntmps59
      go_wp2_with fail
      refine (paGood_any _ _ _ _ _ hl hr).mono ?_
      rw [Hp.out]
      rintro e w2 ⟨rfl, hb2⟩
      simp only [World.size_alloc] at hb2
      have a0 : w2.cell? ⟨w.heap.size, 0, none⟩ = some (.int .i64 p) := carry hb2 (by simp) (by omega)
      have a1 : w2.cell? ⟨w.heap.size, 1, none⟩ = some (.slice A l.length c) := carry hb2 (by simp) (by omega)
      have k2 : Below w.heap.size w w2 := Below.trans (b := _) (by go_grown) (hb2.mono (by omega))
      go_wp2_with fail
      refine (paHas_any p a A l.length c _ hn).mono ?_
      rw [Ha.out]
      rintro e w3 ⟨rfl, hb3⟩
      go_wp2
      go_ret
      exact ⟨rfl, k2.trans (hb3.mono k2.size)⟩
    | true =>
      cases hb : isMan p b with
      | false =>
        have e : isTwo p l a b = false := by simp [isTwo, hb]
        rw [e]
        have Hp := Lib.hid hp
        have Ha := Lib.hid ha
        have Hb := Lib.hid hb
        clear hp ha hb e
        go_enter Try.func59, Try.ntmps59
        go_wp2_with fail
        refine (paGood_any _ _ _ _ _ hl hr).mono ?_
        rw [Hp.out]
        rintro e w2 ⟨rfl, hb2⟩
        simp only [World.size_alloc] at hb2
        have a0 : w2.cell? ⟨w.heap.size, 0, none⟩ = some (.int .i64 p) := carry hb2 (by simp) (by omega)
        have a1 : w2.cell? ⟨w.heap.size, 1, none⟩ = some (.slice A l.length c) := carry hb2 (by simp) (by omega)
        have k2 : Below w.heap.size w w2 := Below.trans (b := _) (by go_grown) (hb2.mono (by omega))
        have s2 := hb2.size
        simp only [World.size_alloc] at s2
        go_wp2_with fail
        refine (paHas_any p a A l.length c _ hn).mono ?_
        rw [Ha.out]
        rintro e w3 ⟨rfl, hb3⟩
        have b0 := carry hb3 a0 (by omega)
        have b1 := carry hb3 a1 (by omega)
        clear a0 a1
        go_wp2_with fail
        refine (paHas_any p b A l.length c _ hn).mono ?_
        rw [Hb.out]
        rintro e w4 ⟨rfl, hb4⟩
        go_wp2
        go_ret
        exact ⟨rfl, (k2.trans (hb3.mono k2.size)).trans (hb4.mono (Nat.le_trans k2.size hb3.size))⟩
      | true =>
        have hd : ∃ d, decide (a ≠ b) = d := ⟨_, rfl⟩
        obtain ⟨d, hd⟩ := hd
        have e : isTwo p l a b = d := by simp only [isTwo, hp, ha, hb, Bool.true_and]; exact hd
        rw [e]
        have Hp := Lib.hid hp
        have Ha := Lib.hid ha
        have Hb := Lib.hid hb
        have Hd := Lib.hid hd
        clear hp ha hb hd e
        go_enter Try.func59, Try.ntmps59
        go_wp2_with fail
        refine (paGood_any _ _ _ _ _ hl hr).mono ?_
        rw [Hp.out]
        rintro e w2 ⟨rfl, hb2⟩
        simp only [World.size_alloc] at hb2
        have a0 : w2.cell? ⟨w.heap.size, 0, none⟩ = some (.int .i64 p) := carry hb2 (by simp) (by omega)
        have a1 : w2.cell? ⟨w.heap.size, 1, none⟩ = some (.slice A l.length c) := carry hb2 (by simp) (by omega)
        have k2 : Below w.heap.size w w2 := Below.trans (b := _) (by go_grown) (hb2.mono (by omega))
        have s2 := hb2.size
        simp only [World.size_alloc] at s2
        go_wp2_with fail
        refine (paHas_any p a A l.length c _ hn).mono ?_
        rw [Ha.out]
        rintro e w3 ⟨rfl, hb3⟩
        have b0 := carry hb3 a0 (by omega)
        have b1 := carry hb3 a1 (by omega)
        clear a0 a1
        go_wp2_with fail
        refine (paHas_any p b A l.length c _ hn).mono ?_
        rw [Hb.out]
        rintro e w4 ⟨rfl, hb4⟩
        go_wp2
        go_ret
        refine ⟨?_, (k2.trans (hb3.mono k2.size)).trans (hb4.mono (Nat.le_trans k2.size hb3.size))⟩
        rw [← Hd.out]
        by_cases hab : a = b <;> simp [hab]

theorem isTwo_parts {p : Int} {l : PL} {a b : Int} (h : isTwo p l a b = true) : isP p l = true ∧ (0 ≤ a ∧ a < p) ∧ (0 ≤ b ∧ b < p) ∧ a ≠ b := by
  simp only [isTwo, isMan, Bool.and_eq_true, decide_eq_true_eq] at h
  exact ⟨h.1.1.1, h.1.1.2, h.1.2, h.2⟩

/-! ## The pair of two people; whether it is among pairs -/
set_option maxHeartbeats 400000 in
theorem pairOf_any (a b : Int) (w : World) : Calls Try.prog 62 #[.int .i64 a, .int .i64 b] w fun e w' => e = .returned (.agg #[.int .i64 (min a b), .int .i64 (max a b)]) ∧ Below w.heap.size w w' := by
  rcases Int.lt_trichotomy a b with h | h | h
  · rw [Int.min_eq_left (by omega), Int.max_eq_right (by omega)]
    go_enter Try.func62, Try.ntmps62
    go_wp2
    go_returns
    exact ⟨rfl, by go_grown⟩
  · subst h
    rw [Int.min_self, Int.max_self]
    go_enter Try.func62, Try.ntmps62
    go_wp2
    go_returns
    exact ⟨rfl, by go_grown⟩
  · rw [Int.min_eq_right (by omega), Int.max_eq_left (by omega)]
    go_enter Try.func62, Try.ntmps62
    go_wp2
    go_returns
    exact ⟨rfl, by go_grown⟩

def indexP (x y : Int) (l : PL) : Int := if l.contains (x, y) then (l.idxOf (x, y) : Int) else -1
set_option maxHeartbeats 1000000 in
set_option maxRecDepth 100000 in
theorem index_any (l : PL) (x y : Int) (A : Option Addr) (c : Nat) (w : World) (hl : l.length ≤ 1048576) (hA : CRead w w.heap.size A (pcells l)) :
    Calls Try.prog 93 #[.slice A l.length c, .agg #[.int .i64 x, .int .i64 y]] w fun e w' => e = .returned (.int .i64 (indexP x y l)) ∧ Below w.heap.size w w' := by
  go_enter Try.func93, Try.ntmps93
  go_wp2
  go_loopw [8] (fun i wr => ∃ k : Nat, k ≤ l.length ∧ i = .int .i64 k ∧ (∀ j, j < k → l[j]? ≠ some (x, y)) ∧ Below (w.heap.size + 1) (w.alloc (Obj.cells #[.int .i64 x, .int .i64 y] 72)) wr) (fun i _ => l.length - (intOf i).toNat)
  case atStart => exact ⟨0, Nat.zero_le _, rfl, fun j hj => by omega, Below.refl _ _⟩
  case round =>
    obtain ⟨k, hk, rfl, hno, hb⟩ := hrel
    have hs := hb.size
    simp only [World.size_alloc] at hs
    have hbw : Below w.heap.size w wr := Below.trans (b := _) (by go_grown) (hb.mono (by omega))
    have x0 : wr.cell? ⟨w.heap.size, 0, none⟩ = some (.int .i64 x) := carry hb (by simp) (by omega)
    have x1 : wr.cell? ⟨w.heap.size, 1, none⟩ = some (.int .i64 y) := carry hb (by simp) (by omega)
    have Hno := Lib.hid hno
    clear hno
    by_cases hlt : k < l.length
    · obtain ⟨⟨u, v⟩, hx⟩ := getSome l k hlt
      obtain ⟨bb, off, rfl, hbb, c0, c1⟩ := (hA.below hbw (Nat.le_refl _)).pair hx
      have hki : (k : Int) < (l.length : Int) := by omega
      have Hx := Lib.hid hx
      clear hx
      by_cases h1 : x = u
      · by_cases h2 : y = v
        · have hc : indexP x y l = k := by
            have hxy : l[k]? = some (x, y) := by rw [Hx.out, h1, h2]
            have hm : l.contains (x, y) = true := List.contains_iff_mem.2 (List.mem_of_getElem? hxy)
            unfold indexP
            rw [if_pos hm]
            have : l.idxOf (x, y) = k := by
              have hlt' := List.idxOf_lt_length_iff.2 (List.contains_iff_mem.1 hm)
              have hg : l[l.idxOf (x, y)]? = some (x, y) := by rw [List.getElem?_eq_getElem hlt']; simp
              rcases Nat.lt_trichotomy (l.idxOf (x, y)) k with h | h | h
              · exact absurd hg (Hno.out _ h)
              · exact h
              · exact absurd (List.not_of_lt_findIdx (p := (· == (x, y))) (xs := l) (i := k) h) (by
                  have e : l[k] = (x, y) := by have := hxy; rw [List.getElem?_eq_getElem hlt] at this; simpa using this
                  simp [e])
            rw [this]
          subst h1 h2
          have Hc := Lib.hid hc
          clear hc
          go_wp2
          go_quiet (fail)
          go_wp2
          go_ret
          exact ⟨by rw [Hc.out]; rfl, ⟨hbw.os, hbw.tape, hbw.output, hbw.size, hbw.block⟩⟩
        · subst h1
          go_wp2
          go_quiet (fail)
          go_wp2
          go_roundw
          case rel =>
            refine ⟨k + 1, by omega, by go_num, ?_, ⟨hb.os, hb.tape, hb.output, hb.size, hb.block⟩⟩
            intro j hj
            rcases Nat.lt_succ_iff_lt_or_eq.1 hj with h | rfl
            · exact Hno.out j h
            · rw [Hx.out]; simp; exact fun h => h2 h.symm
          case measure => simp [intOf]; omega
      · go_wp2
        go_quiet (fail)
        go_wp2
        go_roundw
        case rel =>
          refine ⟨k + 1, by omega, by go_num, ?_, ⟨hb.os, hb.tape, hb.output, hb.size, hb.block⟩⟩
          intro j hj
          rcases Nat.lt_succ_iff_lt_or_eq.1 hj with h | rfl
          · exact Hno.out j h
          · rw [Hx.out]; simp; exact fun h _ => h1 h.symm
        case measure => simp [intOf]; omega
    · have hkl : k = l.length := by omega
      subst hkl
      have hge : ¬ ((l.length : Int) < l.length) := by omega
      have hc : indexP x y l = -1 := by
        unfold indexP
        rw [if_neg]
        intro hm
        obtain ⟨j, hj, hg⟩ := List.getElem_of_mem (List.contains_iff_mem.1 hm)
        exact Hno.out j hj (by rw [List.getElem?_eq_getElem hj, hg])
      have Hc := Lib.hid hc
      clear hc
      go_wp2
      go_ret
      exact ⟨by rw [Hc.out]; rfl, hbw⟩
set_option maxHeartbeats 1000000 in
theorem contains_any (l : PL) (x y : Int) (A : Option Addr) (c : Nat) (w : World) (hl : l.length ≤ 1048576) (hA : CRead w w.heap.size A (pcells l)) :
    Calls Try.prog 63 #[.slice A l.length c, .agg #[.int .i64 x, .int .i64 y]] w fun e w' => e = .returned (.bool (l.contains (x, y))) ∧ Below w.heap.size w w' := by
  have hi : decide (0 ≤ indexP x y l) = l.contains (x, y) := by
    unfold indexP
    cases h : l.contains (x, y) with
    | true => rw [if_pos rfl]; simp
    | false => rw [if_neg (by simp)]; rfl
  have Hi := Lib.hid hi
  clear hi
  go_enter Try.func63, Try.ntmps63
  go_wp2_with fail
  refine (index_any l x y A c _ hl ((hA.below (B' := w.heap.size) (by go_grown) (Nat.le_refl _)).more (by go_size))).mono ?_
  rintro e w2 ⟨rfl, hb2⟩
  simp only [World.size_alloc] at hb2
  go_wp2
  go_ret
  exact ⟨by rw [← Hi.out]; rfl, Below.trans (b := _) (by go_grown) (hb2.mono (by omega))⟩
end Go.Proofs.Ytaemodpolopcfaa
