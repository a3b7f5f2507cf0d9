/-
  'impl.pairsOf': the pairs of the meetings that are taken, by its contracts: for friends and for strangers.
-/
import Derived.Test.YtgccapdjhnejcaaMeetW
namespace Go.Proofs.Ytgccapdjhnejcaa
open Go.RowKit

def taken (f : Bool → Bool) (l : ML) : PL := (l.filter fun m => f m.2.2).map fun m => (m.1, m.2.1)
theorem taken_le (f : Bool → Bool) (l : ML) : (taken f l).length ≤ l.length := by unfold taken; rw [List.length_map]; exact List.length_filter_le _ _
theorem taken_snoc (f : Bool → Bool) (l : ML) (x y : Int) (b : Bool) : taken f (l ++ [(x, y, b)]) = taken f l ++ if f b = true then [(x, y)] else [] := by
  unfold taken
  rw [List.filter_append, List.map_append]
  congr 1
  by_cases h : f b = true
  · rw [if_pos h, List.filter_cons_of_pos (by exact h)]; rfl
  · rw [if_neg h, List.filter_cons_of_neg (by exact h)]; rfl
theorem taken_meets (f : Bool → Bool) (l qs : PL) : taken f (meets l qs) = qs.filter fun q => f (l.contains q) := by
  unfold taken meets
  rw [List.filter_map, List.map_map]
  have e : ((fun m : Int × Int × Bool => (m.1, m.2.1)) ∘ fun q : Int × Int => (q.1, q.2, l.contains q)) = id := rfl
  rw [e, List.map_id]
  rfl

set_option maxHeartbeats 400000 in
theorem ofStrangers_any (x y : Int) (f : Bool) (w : World) : Calls Try.prog 99 #[.agg #[.int .i64 x, .int .i64 y, .bool f]] w fun e w' => e = .returned (.bool (!f)) ∧ Below w.heap.size w w' := by
  go_enter Try.func99, Try.ntmps99
  go_wp2
  go_ret
  exact ⟨by simp, by go_grown⟩

set_option maxHeartbeats 2000000 in
set_option maxRecDepth 100000 in
theorem pairsOf_ofStrangers_any (l : ML) (A : Option Addr) (c : Nat) (w : World) (hl : l.length ≤ 1000) (hA : CRead w w.heap.size A (mcells l)) :
    Calls Try.prog 97 #[.slice A l.length c, .func (.func 99) #[] #[]] w fun e w' => ∃ A' c', e = .returned (.slice A' (taken (fun b => !b) l).length c') ∧
      w'.ownsRow w.heap.size 59 2 (.slice A' (taken (fun b => !b) l).length c') (taken (fun b => !b) l).length (pcells (taken (fun b => !b) l)) ∧ Below w.heap.size w w' := by
  obtain ⟨i0, hi, hz0, hz1, hz2⟩ := info_parts Try.infoPair
  go_enter Try.func97, Try.ntmps97
  go_wp2
  go_loopw [5, 10] (fun v i wr => ∃ k : Nat, k ≤ l.length ∧ i = .int .i64 k ∧ wr.ownsRow w.heap.size 59 2 v (taken (fun b => !b) (l.take k)).length (pcells (taken (fun b => !b) (l.take k))) ∧ Below w.heap.size w wr) (fun _ i _ => l.length - (intOf i).toNat)
  case atStart => exact ⟨0, Nat.zero_le _, rfl, World.ownsRow_nil _ _ _ _, Below.refl _ _⟩
  case round =>
    obtain ⟨k, hk, rfl, hown, hb⟩ := hrel
    have hs := hb.size
    by_cases hlt : k < l.length
    · obtain ⟨⟨x, y, f⟩, hx⟩ := getSome l k hlt
      obtain ⟨bb, off, rfl, hbb, c0, c1, c2⟩ := (hA.below hb (Nat.le_refl _)).meet hx
      have hki : (k : Int) < (l.length : Int) := by omega
      have htl := taken_le (fun b => !b) (l.take k)
      have htl2 : (l.take k).length ≤ 1000 := Nat.le_trans (List.length_take_le' _ _) hl
      have hsn := taken_snoc (fun b => !b) (l.take k) x y f
      have Hx := Lib.hid hx
      have Hsn := Lib.hid hsn
      clear hx hsn
      cases hf : !f with
      | false =>
        have Hf := Lib.hid hf
        clear hf
        go_wp2_with fail
        refine (ofStrangers_any x y f _).mono ?_
        rw [Hf.out]
        rintro e w2 ⟨rfl, hb2⟩
        simp only [World.size_alloc] at hb2
        have k2 : Below wr.heap.size wr w2 := Below.trans (b := _) (by go_grown) (hb2.mono (by omega))
        go_wp2
        go_roundw
        case rel =>
          refine ⟨k + 1, by omega, by go_num, ?_, hb.trans (k2.mono hs)⟩
          rw [List.take_add_one, Hx.out, Option.toList_some, Hsn.out, Hf.out]
          simp only [Bool.false_eq_true, if_false, List.append_nil]
          exact own_below hown k2 (Nat.le_refl _)
        case measure => simp [intOf]; omega
      | true =>
        have Hf := Lib.hid hf
        clear hf
        go_wp2_with fail
        refine (ofStrangers_any x y f _).mono ?_
        rw [Hf.out]
        rintro e w2 ⟨rfl, hb2⟩
        simp only [World.size_alloc] at hb2
        have k2 : Below wr.heap.size wr w2 := Below.trans (b := _) (by go_grown) (hb2.mono (by omega))
        have d0 : w2.cell? ⟨wr.heap.size, 0, none⟩ = some (.int .i64 x) := carry hb2 (by simp) (by omega)
        have d1 : w2.cell? ⟨wr.heap.size, 1, none⟩ = some (.int .i64 y) := carry hb2 (by simp) (by omega)
        have own2 := own_below hown k2 (Nat.le_refl _)
        have s2 := k2.size
        clear hown c0 c1 c2
        go_wp2_with (at_builtin; refine wpList_append_own _ rfl _ _ 29 rfl w.heap.size 59 i0 _ 2 16 Try.underlying29 hi hz0 hz1 hz2 rfl (by decide) _ _ _ rfl (own2.alloc _) ⟨w2.heap.size, 0, none⟩ 1 1 [.int .i64 x, .int .i64 y] rfl rfl (two_cells (by simp) (by simp)) (two_one rfl rfl) (by unfold maxLen; omega) (by omega) (by simp; omega) ?_; intro v1 w3 hown3 hg3 _; obtain ⟨A1, d1', rfl, _⟩ := own_shape hown3)
        go_roundw
        case rel =>
          refine ⟨k + 1, by omega, by go_num, ?_, ?_⟩
          · rw [List.take_add_one, Hx.out, Option.toList_some, Hsn.out, Hf.out]
            simp only [if_true]
            rw [pcells_append, List.length_append]
            exact hown3
          · exact ((hb.trans (k2.mono hs)).alloc (by omega) _).grown hg3 (by simp; omega) (fun k hk => (own2.lt k hk).1)
        case measure => simp [intOf]; omega
    · have hkl : k = l.length := by omega
      subst hkl
      have hge : ¬ ((l.length : Int) < l.length) := by omega
      rw [List.take_length] at hown
      obtain ⟨A', c', rfl, _⟩ := own_shape hown
      have Hown := Lib.hid hown
      clear hown
      go_wp2
      go_ret
      exact ⟨A', c', rfl, Hown.out, hb⟩
end Go.Proofs.Ytgccapdjhnejcaa
