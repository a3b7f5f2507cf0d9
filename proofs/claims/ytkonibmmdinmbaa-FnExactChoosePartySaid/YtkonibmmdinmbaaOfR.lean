/-
  The party of a table whose rows were appended cell by cell, by its contract.
-/
import Derived.Test.YtkonibmmdinmbaaOf
namespace Go.Proofs.Ytkonibmmdinmbaa
open Go.RowKit

/-- n rows of n bools that can be read, row i under the i-th slice of the outer row -/
def TabR (w : World) (A : Option Addr) (n : Nat) (t : Nat → Nat → Bool) : Prop :=
  ∀ i, i < n → ∃ g gi ci, A = some ⟨g, 0, none⟩ ∧ g < w.heap.size ∧ w.cell? ⟨g, i, none⟩ = some (.slice (some ⟨gi, 0, none⟩) n ci) ∧ gi < w.heap.size ∧ ∀ j, j < n → w.cell? ⟨gi, j, none⟩ = some (.bool (t i j))
theorem own_ne_types {w : World} {B B' : Nat} {e e' : TypeId} {s s' m m' : Nat} {v v' : Value} {xs xs' : List Value} (h : w.ownsRow B e s v m xs) (h' : w.ownsRow B' e' s' v' m' xs') (hne : e ≠ e') {g : Nat} (hg : v'.ownBlock = some g) : v.ownBlock ≠ some g := by
  rcases h.2 with ⟨rfl, _⟩ | ⟨g1, cap, cur, rfl, _, hh, _⟩
  · simp [Value.ownBlock]
  · rcases h'.2 with ⟨rfl, _⟩ | ⟨g2, cap', cur', rfl, _, hh', _⟩
    · simp [Value.ownBlock] at hg
    · intro e1
      have h1 : g1 = g := by simpa [Value.ownBlock] using e1
      have h2 : g2 = g := by simpa [Value.ownBlock] using hg
      subst h1
      subst h2
      rw [hh] at hh'
      injection hh' with hh'
      injection hh' with _ ht
      exact hne ht
/-- m rows of n bools each, each appended for itself -/
def ChT (w : World) (B : Nat) (v : Value) (m n : Nat) (t : Nat → Nat → Bool) : Prop :=
  ∃ rows : List Value, w.ownsRow B 120 1 v m rows ∧ ∀ i, i < m → ∃ r, rows[i]? = some r ∧ w.ownsRow B 4 1 r n (bcells ((List.range n).map (t i)))
section
variable {w w' : World} {B m n : Nat} {v v' : Value} {t : Nat → Nat → Bool}
theorem ChT.nil (w : World) (B n : Nat) (t : Nat → Nat → Bool) : ChT w B (.slice none 0 0) 0 n t := ⟨[], World.ownsRow_nil _ _ _ _, fun i hi => by omega⟩
theorem ChT.below (h : ChT w B v m n t) (hb : Below w.heap.size w w') : ChT w' B v m n t := by
  obtain ⟨rows, ho, hr⟩ := h
  exact ⟨rows, own_below ho hb (Nat.le_refl _), fun i hi => by obtain ⟨r, h1, h2⟩ := hr i hi; exact ⟨r, h1, own_below h2 hb (Nat.le_refl _)⟩⟩
theorem ChT.own (h : ChT w B v m n t) : ∃ rows, rows.length = m ∧ w.ownsRow B 120 1 v m rows := by
  obtain ⟨rows, ho, _⟩ := h
  exact ⟨rows, by simpa using ho.1, ho⟩
/-- one row more -/
theorem ChT.push {r : Value} {o : Obj} {rows : List Value} (h : ChT w B v m n t) (hrow : w.ownsRow B 4 1 r n (bcells ((List.range n).map (t m)))) (ho : w.ownsRow B 120 1 v m rows) (hg : (w.alloc o).grownBy w' v.ownBlock) (hown : w'.ownsRow B 120 1 v' (m + 1) (rows ++ [r])) : ChT w' B v' (m + 1) n t := by
  obtain ⟨rows', ho', hr⟩ := h
  have hlen : rows.length = m := by simpa using ho.1
  have e : rows' = rows := by
    rcases ho.2 with ⟨hv, h0⟩ | ⟨g, cap, cur, hv, _, hh, _, _, _, ht⟩
    · have h1 : rows = [] := List.eq_nil_of_length_eq_zero (by omega)
      have h2 : rows' = [] := List.eq_nil_of_length_eq_zero (by have := ho'.1; simp at this; omega)
      rw [h1, h2]
    · rcases ho'.2 with ⟨hv', _⟩ | ⟨g', cap', cur', hv', _, hh', _, _, _, ht'⟩
      · rw [hv] at hv'; cases hv'
      · rw [hv] at hv'
        simp only [Value.slice.injEq, Option.some.injEq, Addr.mk.injEq, and_true] at hv'
        obtain ⟨rfl, _, rfl⟩ := hv'
        rw [hh] at hh'
        injection hh' with hh'
        injection hh' with hc _
        subst hc
        rw [← ht, ← ht']
  subst e
  have keep : ∀ {x : Value} {ys : List Value}, w.ownsRow B 4 1 x n ys → w'.ownsRow B 4 1 x n ys := fun {x ys} hx =>
    (hx.alloc o).kept hg (by
      cases hv : x.ownBlock with
      | none => exact .inl rfl
      | some k => exact .inr fun e => own_ne_types ho hx (by decide) hv e.symm)
  refine ⟨_, hown, fun i hi => ?_⟩
  by_cases him : i < m
  · obtain ⟨r', h1, h2⟩ := hr i him
    exact ⟨r', by rw [List.getElem?_append_left (by omega)]; exact h1, keep h2⟩
  · have hi' : i = m := by omega
    subst hi'
    exact ⟨r, by rw [List.getElem?_append_right (by omega), hlen, Nat.sub_self]; rfl, keep hrow⟩
theorem ChT.tabR {A : Option Addr} {c : Nat} (h : ChT w B (.slice A n c) n n t) : TabR w A n t := by
  obtain ⟨rows, ho, hr⟩ := h
  intro i hi
  obtain ⟨g, rfl⟩ := own_form ho (by omega)
  obtain ⟨r, h1, h2⟩ := hr i hi
  obtain ⟨A', c', rfl, _⟩ := own_shape h2
  obtain ⟨gi, rfl⟩ := own_form h2 (by omega)
  refine ⟨g, gi, c', rfl, (own_lt ho).2, (ho.cellAt i (by omega)).trans h1, (own_lt h2).2, fun j hj => ?_⟩
  exact own_boolAt h2 (by simp [hj])
end

set_option maxHeartbeats 2000000 in
set_option maxRecDepth 100000 in
theorem paOfR_any (n : Nat) (t : Nat → Nat → Bool) (A : Option Addr) (c : Nat) (w : World) (hn : n ≤ 12) (htab0 : TabR w A n t) :
    Calls Try.prog 112 #[.slice A n c] w (GotParty w n (tabP n t)) := by
  obtain ⟨i0, hi, hz0, hz1, hz2⟩ := info_parts Try.infoPair
  have hn' : (n : Int) ≤ 12 := by omega
  go_enter Try.func112, Try.ntmps112
  go_wp2
  go_loopw [11] (fun i wr => ∃ a : Nat, ∃ v, a ≤ n ∧ i = .int .i64 a ∧ OfRel w wr n v ((upTo n a (a + 1)).filter fun q => t q.1.toNat q.2.toNat)) (fun i _ => n - (intOf i).toNat)
  case atStart => exact ⟨0, _, Nat.zero_le _, rfl, by simpa [upTo_start] using OfRel.start w n⟩
  case round =>
    obtain ⟨a, v, ha, rfl, hrel⟩ := hrel
    by_cases hlt : a < n
    · have hai : (a : Int) < n := by omega
      have Hrel := Lib.hid hrel
      clear hrel
      go_wp2
      go_loopw [5] (fun i wx => ∃ b : Nat, ∃ v, a < b ∧ b ≤ n ∧ i = .int .i64 b ∧ OfRel w wx n v ((upTo n a b).filter fun q => t q.1.toNat q.2.toNat)) (fun i _ => n - (intOf i).toNat)
      case atStart => exact ⟨a + 1, v, by omega, by omega, by go_num, Hrel.out⟩
      case round =>
        clear Hrel
        obtain ⟨b, v, hab, hb, rfl, hrel⟩ := hrel
        by_cases hbt : b < n
        · have hbi : (b : Int) < n := by omega
          obtain ⟨r0, r1, r2, r3, r4, r5⟩ := hrel.cells
          have hsz := lt_of_heap hrel.box
          obtain ⟨g, gi, ci, rfl, hg, d0', hgi, d1'⟩ := htab0 a hlt
          have d0 := carry hrel.below d0' hg
          have d1 := carry hrel.below (d1' b hbt) hgi
          clear d0' d1'
          have q5 := r5 1
          have hlen : ((upTo n a b).filter fun q => t q.1.toNat q.2.toNat).length ≤ 1000 := Nat.le_trans (List.length_filter_le _ _) (upTo_length (by omega) (by omega) hn)
          cases ht : t a b with
          | false =>
            rw [ht] at d1
            have Ht := Lib.hid ht
            clear ht r4 r5
            go_wp2
            go_roundw
            case rel => exact ⟨b + 1, v, by omega, by omega, by go_num, by rw [filter_upTo_no hab Ht.out]; exact hrel⟩
            case measure => simp [intOf]; omega
          | true =>
            rw [ht] at d1
            have Ht := Lib.hid ht
            clear ht r4 r5
            go_wp2_with (at_builtin; refine wpList_append_own _ rfl _ _ 27 rfl (w.heap.size + 2) 77 i0 _ 2 16 Try.underlying27 hi hz0 hz1 hz2 rfl (by decide) _ _ _ rfl (hrel.own.alloc _) ⟨wr.heap.size, 0, none⟩ 1 1 [.int .i64 a, .int .i64 b] rfl rfl (two_cells (by simp) (by simp)) (two_one rfl rfl) (by unfold maxLen; omega) (by omega) (by simp; omega) ?_; intro v1 w1 hown1 hg1 _; obtain ⟨A1, d1', rfl, _⟩ := own_shape hown1; have hr1 := hrel.push hown1 hg1; obtain ⟨z0, z1, z2, z3, z4⟩ := hrel.kept hg1)
            go_roundw
            case rel => exact ⟨b + 1, _, by omega, by omega, by go_num, by rw [filter_upTo_yes hab Ht.out]; exact hr1⟩
            case measure => simp [intOf]; omega
        · have hbn : b = n := by omega
          subst hbn
          have hge : ¬ ((b : Int) < b) := by omega
          go_wp2
          go_roundw
          case rel => exact ⟨a + 1, v, by omega, by go_num, by rw [← upTo_row]; exact hrel⟩
          case measure => simp [intOf]; omega
    · have hal : n = a := by omega
      subst hal
      have hge : ¬ ((n : Int) < n) := by omega
      obtain ⟨r0, r1, r2, r3, r4, r5⟩ := hrel.cells
      have q40 := r4 0
      have q41 := r4 1
      rw [upTo_all] at hrel
      obtain ⟨A', c', rfl, _⟩ := own_shape hrel.own
      have hs := lt_of_heap hrel.box
      have Hrel := Lib.hid hrel
      clear hrel r4 r5
      go_wp2
      refine bodyPost_ret (v := .agg #[.int .i64 n, .slice A' (tabP n t).length c']) (by simp [results, Try.results112, go_sem, tabP, r0, r1]) rfl ?_
      exact ⟨A', c', rfl, ownsRow_setCell_below (ownsRow_setCell_below (own_lower Hrel.out.own (Nat.le_succ _)) (a := ⟨w.heap.size, 0, none⟩) (by simp) _) (a := ⟨w.heap.size, 1, none⟩) (by simp) _ |> fun h => own_lower h (Nat.le_succ _), (Hrel.out.below.setCell (p := ⟨w.heap.size, 0, none⟩) (Nat.le_refl _) _).setCell (p := ⟨w.heap.size, 1, none⟩) (Nat.le_refl _) _⟩
end Go.Proofs.Ytkonibmmdinmbaa
