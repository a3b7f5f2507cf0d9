/-
  THE LAWS' OWN SMALL FUNCTIONS THAT MARK A RESULT'S MEMORY AND LOOK WHETHER THE MARKS STAND; copies of parties and of lists of numbers; their comparison.
-/
import Derived.Test.YtgccapdjhnejcaaDoorHelp
namespace Go.Proofs.YtgccapdjhnejcaaDoor
open Go.RowKit

set_option maxHeartbeats 1000000 in
theorem markPairS_any (l : PL) (A : Option Addr) (n c : Nat) (k0 : Int) (base : Nat) (w : World) (hn : l.length = n) (hl : n ≤ 1048576) (hk0 : 0 ≤ k0 ∧ k0 ≤ 16777216) (hown0 : w.ownsRow base 99 2 (.slice A n c) n (pcells l)) :
    Calls Tryd.prog 61 #[.slice A n c, .int .i64 k0] w fun e w' =>
      e = .returned (.int .i64 (k0 + 2 * n)) ∧ w'.ownsRow base 99 2 (.slice A n c) n (pcells (marks k0 n)) ∧ w.grownBy w' (Value.ownBlock (.slice A n c)) := by
  have Hn := Lib.hid hn
  obtain ⟨hk00, hk01⟩ := hk0
  clear hn
  go_enter Tryd.func61, Tryd.ntmps61
  go_wp2
  go_loopw [1, 5] (fun q i wr => ∃ k : Nat, k ≤ n ∧ i = .int .i64 k ∧ q = .int .i64 (k0 + 2 * k) ∧ wr.ownsRow base 99 2 (.slice A n c) n (pcells ((marks k0 n).take k ++ l.drop k)) ∧ w.grownBy wr (Value.ownBlock (.slice A n c))) (fun _ i _ => n - (intOf i).toNat)
  case atStart => exact ⟨0, Nat.zero_le _, rfl, by simp, by simpa using hown0, World.grownBy.refl _ _⟩
  case round =>
    obtain ⟨k, hk, rfl, rfl, hown, hb⟩ := hrel
    by_cases hlt : k < n
    · obtain ⟨g, rfl⟩ := own_form hown (by omega)
      obtain ⟨⟨x, y⟩, hz, hx⟩ := take_drop_at (marks k0 n) l n k (marks_length _ _) Hn.out hlt
      have hlt' : (k : Int) < n := by omega
      obtain ⟨d0, d1⟩ := own_pairAt hown hz
      have f0 := hown.frozenAt (k * 2)
      have f1 := hown.frozenAt (k * 2 + 1)
      have Hz := Lib.hid hz
      clear hz hx
      go_wp2
      go_roundw
      case rel =>
        refine ⟨k + 1, by omega, by go_num, by go_num, ?_, ?_⟩
        · have h2 := own_setPair hown k (k0 + 2 * k) (k0 + 2 * k + 1)
          rwa [take_set_drop (marks k0 n) l n k _ (marks_length _ _) Hn.out (marks_at hlt)] at h2
        · exact gb_trans (gb_trans hb (hown.stored (k * 2) _).2) ((hown.stored (k * 2) _).1.stored (k * 2 + 1) _).2
      case measure => simp [intOf]; omega
    · have hkl : k = n := by omega
      subst hkl
      have hge : ¬ ((k : Int) < k) := by omega
      go_wp2
      go_ret
      refine ⟨rfl, ?_, hb⟩
      rwa [List.take_of_length_le (by rw [marks_length]; exact Nat.le_refl _), List.drop_of_length_le (by rw [Hn.out]; exact Nat.le_refl _), List.append_nil] at hown

/-! ## Parties -/
/-- A call came back with a party whose pairs lie in memory of its own. -/
def GotParty (w : World) (p : Int) (l : PL) (e : Ending) (w' : World) : Prop :=
  ∃ A c, e = .returned (.agg #[.int .i64 p, .slice A l.length c]) ∧ w'.ownsRow w.heap.size 99 2 (.slice A l.length c) l.length (pcells l) ∧ Below w.heap.size w w'

set_option maxHeartbeats 1000000 in
theorem toParty_any (p : Int) (l : PL) (A : Option Addr) (c : Nat) (w : World) (hl : l.length ≤ 1048576) (hA : CRead w w.heap.size A (pcells l)) :
    Calls Tryd.prog 16 #[.agg #[.int .i64 p, .slice A l.length c]] w (GotParty w p l) := by
  generalize hn : l.length = n at *
  have Hn := Lib.hid hn
  go_enter Tryd.func16, Tryd.ntmps16
  go_wp2_with (go_at_call 54; rw [← Hn.out]; refine (toPairS_any l _ _ _ (by rw [Hn.out]; exact hl) (hA.below (B' := w.heap.size) (by go_grown) (Nat.le_refl _) |>.more (by go_size))).mono ?_; rw [Hn.out]; rintro e w2 ⟨rfl, hown2, hb2⟩; have ⟨hc, hf⟩ := old_cells hb2; have hz := hb2.size; simp only [World.size_alloc] at hc hf hz)
  refine bodyPost_ret (v := .agg #[.int .i64 p, .slice (some ⟨w.heap.size + 1 + 1 + 1, 0, none⟩) n n]) (by simp [results, Tryd.results16, go_sem, hc]) rfl ?_
  simp only [World.size_alloc] at hown2 hb2
  have hb3 : Below w.heap.size w w2 := Below.trans (b := _) (by go_grown) (hb2.mono (by omega))
  refine ⟨some ⟨w.heap.size + 1 + 1 + 1, 0, none⟩, n, by rw [hn], ?_, ?_⟩
  · rw [hn]
    exact own_far (own_far (own_far (own_lower hown2 (by omega)) (p := ⟨w.heap.size + 1 + 1, 1, none⟩) (by simp) _) (p := ⟨w.heap.size + 1, 0, none⟩) (by simp) _) (p := ⟨w.heap.size + 1, 1, none⟩) (by simp) _
  · exact ((hb3.setCell (p := ⟨w.heap.size + 1 + 1, 1, none⟩) (by simp; omega) _).setCell (p := ⟨w.heap.size + 1, 0, none⟩) (by simp) _).setCell (p := ⟨w.heap.size + 1, 1, none⟩) (by simp) _

set_option maxHeartbeats 1000000 in
theorem eqParty_any (p q : Int) (l m : PL) (A B : Option Addr) (c d : Nat) (w : World) (hl : l.length ≤ maxLen) (hm : m.length ≤ maxLen)
    (hA : CRead w w.heap.size A (pcells l)) (hB : CRead w w.heap.size B (pcells m)) :
    Calls Tryd.prog 20 #[.agg #[.int .i64 p, .slice A l.length c], .agg #[.int .i64 q, .slice B m.length d]] w fun e w' =>
      e = .returned (.bool (decide (p = q ∧ l = m))) ∧ Below w.heap.size w w' := by
  by_cases hpq : p = q
  · subst hpq
    by_cases hlm : l = m
    · have e : decide (p = p ∧ l = m) = true := by simp [hlm]
      rw [e]
      clear e
      have Hlm := Lib.hid hlm
      clear hlm
      go_enter Tryd.func20, Tryd.ntmps20
      go_wp2_with (go_at_call 60; refine (eqPairS_any l m _ _ _ _ _ hl hm ((hA.below (B' := w.heap.size) (by go_grown) (Nat.le_refl _)).more (by go_size)) ((hB.below (B' := w.heap.size) (by go_grown) (Nat.le_refl _)).more (by go_size))).mono ?_; rw [decide_eq_true Hlm.out]; rintro e w2 ⟨rfl, hb2⟩; simp only [World.size_alloc] at hb2)
      go_ret
      exact ⟨rfl, Below.trans (b := _) (by go_grown) (hb2.mono (by omega))⟩
    · have e : decide (p = p ∧ l = m) = false := by simp [hlm]
      rw [e]
      clear e
      have Hlm := Lib.hid hlm
      clear hlm
      go_enter Tryd.func20, Tryd.ntmps20
      go_wp2_with (go_at_call 60; refine (eqPairS_any l m _ _ _ _ _ hl hm ((hA.below (B' := w.heap.size) (by go_grown) (Nat.le_refl _)).more (by go_size)) ((hB.below (B' := w.heap.size) (by go_grown) (Nat.le_refl _)).more (by go_size))).mono ?_; rw [decide_eq_false Hlm.out]; rintro e w2 ⟨rfl, hb2⟩; simp only [World.size_alloc] at hb2)
      go_ret
      exact ⟨rfl, Below.trans (b := _) (by go_grown) (hb2.mono (by omega))⟩
  · have e : decide (p = q ∧ l = m) = false := by simp [hpq]
    rw [e]
    clear e
    go_enter Tryd.func20, Tryd.ntmps20
    go_wp2
    go_ret
    exact ⟨rfl, by go_grown⟩

set_option maxHeartbeats 1000000 in
theorem markParty_any (p : Int) (l : PL) (A : Option Addr) (n c : Nat) (k0 : Int) (base : Nat) (w : World) (hn : l.length = n) (hl : n ≤ 1048576) (hk0 : 0 ≤ k0 ∧ k0 ≤ 16777216) (hown0 : w.ownsRow base 99 2 (.slice A n c) n (pcells l)) :
    Calls Tryd.prog 21 #[.agg #[.int .i64 p, .slice A n c], .int .i64 k0] w fun e w' =>
      e = .returned (.int .i64 (k0 + 2 * n)) ∧ w'.ownsRow base 99 2 (.slice A n c) n (pcells (marks k0 n)) ∧ w.grownBy w' (Value.ownBlock (.slice A n c)) := by
  have Hn := Lib.hid hn
  clear hn
  have hk1 : 0 ≤ k0 + 2 * (n : Int) := by omega
  go_enter Tryd.func21, Tryd.ntmps21
  go_wp2_with (go_at_call 61; refine (markPairS_any l _ _ _ _ _ _ Hn.out hl hk0 (hown0.alloc _)).mono ?_; rintro e w2 ⟨rfl, hown2, hb2⟩)
  go_ret
  exact ⟨rfl, hown2, below_gb (B := w.heap.size) (by go_grown) hb2 (Nat.le_refl _)⟩

/-! ## Lists of numbers -/
set_option maxHeartbeats 1000000 in
theorem eqIntS_any (l m : List Int) (A B : Option Addr) (c d : Nat) (w : World) (hl : l.length ≤ maxLen) (hm : m.length ≤ maxLen)
    (hA : CRead w w.heap.size A (icells l)) (hB : CRead w w.heap.size B (icells m)) :
    Calls Tryd.prog 19 #[.slice A l.length c, .slice B m.length d] w fun e w' =>
      e = .returned (.bool (decide (l = m))) ∧ Below w.heap.size w w' := by
  unfold maxLen at hl hm
  by_cases hlen : l.length = m.length
  · generalize hn : l.length = n at *
    have Hn := Lib.hid hn
    have Hm := Lib.hid hlen
    clear hn
    rw [← hlen]
    clear hlen
    go_enter Tryd.func19, Tryd.ntmps19
    go_wp2
    go_loopw [5] (fun i wr => ∃ k : Nat, k ≤ n ∧ i = .int .i64 k ∧ l.take k = m.take k ∧ Below w.heap.size w wr) (fun i _ => n - (intOf i).toNat)
    case atStart => exact ⟨0, Nat.zero_le _, rfl, rfl, Below.refl _ _⟩
    case round =>
      obtain ⟨k, hk, rfl, htk, hb⟩ := hrel
      have Htk := Lib.hid htk
      clear htk
      have hs := hb.size
      by_cases hlt : k < n
      · obtain ⟨x, hx⟩ := getSome l k (by rw [Hn.out]; exact hlt)
        obtain ⟨x', hx'⟩ := getSome m k (by rw [← Hm.out]; exact hlt)
        obtain ⟨b, off, rfl, hbb, c0⟩ := (hA.below hb (Nat.le_refl _)).int hx
        obtain ⟨b', off', rfl, hbb', c0'⟩ := (hB.below hb (Nat.le_refl _)).int hx'
        have hki : (k : Int) < (n : Int) := by omega
        have Hx := Lib.hid hx
        have Hx' := Lib.hid hx'
        clear hx hx'
        go_wp2
        go_quiet (fail)
        by_cases hq : x = x'
        · subst hq
          go_wp2
          go_roundw
          case rel =>
            refine ⟨k + 1, by omega, by go_num, ?_, hb.trans ⟨rfl, rfl, rfl, Nat.le_refl _, fun _ _ => rfl⟩⟩
            rw [List.take_add_one, List.take_add_one, Htk.out, Hx.out, Hx'.out]
          case measure => simp [intOf]; omega
        · go_wp2
          go_ret
          refine ⟨?_, hb.trans ⟨rfl, rfl, rfl, Nat.le_refl _, fun _ _ => rfl⟩⟩
          have : l ≠ m := by rintro rfl; have h := Hx.out; rw [Hx'.out] at h; exact hq (by simpa using h.symm)
          simp [this]
      · have hkl : k = n := by omega
        go_wp2
        go_ret
        refine ⟨?_, hb⟩
        have e := Htk.out
        rw [hkl, List.take_of_length_le (by rw [Hn.out]; exact Nat.le_refl _), List.take_of_length_le (by rw [← Hm.out]; exact Nat.le_refl _)] at e
        simp [e]
  · have hne : l ≠ m := by rintro rfl; exact hlen rfl
    have e : decide (l = m) = false := by simp [hne]
    rw [e]
    clear e
    go_enter Tryd.func19, Tryd.ntmps19
    go_wp2
    go_ret
    exact ⟨rfl, Below.refl _ _⟩

set_option maxHeartbeats 1000000 in
theorem markIntS_any (l : List Int) (A : Option Addr) (n c : Nat) (k0 : Int) (base : Nat) (w : World) (hn : l.length = n) (hl : n ≤ 1048576) (hk0 : 0 ≤ k0 ∧ k0 ≤ 16777216) (hown0 : w.ownsRow base 3 1 (.slice A n c) n (icells l)) :
    Calls Tryd.prog 22 #[.slice A n c, .int .i64 k0] w fun e w' =>
      e = .returned (.int .i64 (k0 + n)) ∧ w'.ownsRow base 3 1 (.slice A n c) n (icells (imarks k0 n)) ∧ w.grownBy w' (Value.ownBlock (.slice A n c)) := by
  have Hn := Lib.hid hn
  obtain ⟨hk00, hk01⟩ := hk0
  clear hn
  go_enter Tryd.func22, Tryd.ntmps22
  go_wp2
  go_loopw [1, 5] (fun q i wr => ∃ k : Nat, k ≤ n ∧ i = .int .i64 k ∧ q = .int .i64 (k0 + k) ∧ wr.ownsRow base 3 1 (.slice A n c) n (icells ((imarks k0 n).take k ++ l.drop k)) ∧ w.grownBy wr (Value.ownBlock (.slice A n c))) (fun _ i _ => n - (intOf i).toNat)
  case atStart => exact ⟨0, Nat.zero_le _, rfl, by simp, by simpa using hown0, World.grownBy.refl _ _⟩
  case round =>
    obtain ⟨k, hk, rfl, rfl, hown, hb⟩ := hrel
    by_cases hlt : k < n
    · obtain ⟨g, rfl⟩ := own_form hown (by omega)
      obtain ⟨x, hz, hx⟩ := take_drop_at (imarks k0 n) l n k (imarks_length _ _) Hn.out hlt
      have hlt' : (k : Int) < n := by omega
      have d0 := own_intAt hown hz
      have f0 := hown.frozenAt k
      have Hz := Lib.hid hz
      clear hz hx
      go_wp2
      go_roundw
      case rel =>
        refine ⟨k + 1, by omega, by go_num, by go_num, ?_, ?_⟩
        · have h2 := own_setInt hown k (k0 + k)
          rwa [take_set_drop (imarks k0 n) l n k _ (imarks_length _ _) Hn.out (imarks_at hlt)] at h2
        · exact gb_trans hb (hown.stored k _).2
      case measure => simp [intOf]; omega
    · have hkl : k = n := by omega
      subst hkl
      have hge : ¬ ((k : Int) < k) := by omega
      go_wp2
      go_ret
      refine ⟨rfl, ?_, hb⟩
      rwa [List.take_of_length_le (by rw [imarks_length]; exact Nat.le_refl _), List.drop_of_length_le (by rw [Hn.out]; exact Nat.le_refl _), List.append_nil] at hown

set_option maxHeartbeats 1000000 in
theorem heldIntS_any (A : Option Addr) (n c : Nat) (k0 : Int) (w : World) (hl : n ≤ 1048576) (hk0 : 0 ≤ k0 ∧ k0 ≤ 16777216) (hA : CRead w w.heap.size A (icells (imarks k0 n))) :
    Calls Tryd.prog 23 #[.slice A n c, .int .i64 k0] w fun e w' => e = .returned (.int .i64 (k0 + n)) ∧ w = w' := by
  obtain ⟨hk00, hk01⟩ := hk0
  go_enter Tryd.func23, Tryd.ntmps23
  go_wp2
  go_loop [1, 5] (fun q i => ∃ k : Nat, k ≤ n ∧ i = .int .i64 k ∧ q = .int .i64 (k0 + k)) (fun _ i => n - (intOf i).toNat)
  case atStart => exact ⟨0, Nat.zero_le _, rfl, by simp⟩
  case round =>
    obtain ⟨k, hk, rfl, rfl⟩ := hrel
    by_cases hlt : k < n
    · obtain ⟨b, off, rfl, hbb, c0⟩ := hA.int (imarks_at hlt)
      have hlt' : (k : Int) < n := by omega
      go_wp2
      go_round
      case rel => exact ⟨k + 1, by omega, by go_num, by go_num⟩
      case measure => simp [intOf]; omega
    · have hkl : k = n := by omega
      subst hkl
      have hge : ¬ ((k : Int) < k) := by omega
      go_wp2
      go_ret
      exact ⟨rfl, rfl⟩
end Go.Proofs.YtgccapdjhnejcaaDoor
