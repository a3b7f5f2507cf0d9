/-
  'AddPair' and 'DropPair': the program's, by their contracts.
-/
import Derived.Test.YtgkfnckgpbjbdaaTurned
namespace Go.Proofs.Ytgkfnckgpbjbdaa
open Go.RowKit

theorem flipped_changed {n : Nat} {l : PL} {a b : Int} {x : Bool} (h : areF l a b = !x) : flipped n l (min a b) (max a b) = changed n l a b x := by
  unfold flipped changed
  refine List.filter_congr fun q _ => ?_
  by_cases e : q = (min a b, max a b)
  · subst e
    unfold areF at h
    rw [if_pos ⟨rfl, rfl⟩, if_pos rfl, h, Bool.not_not]
  · rw [if_neg e, if_neg]
    intro h2
    exact e (Prod.ext h2.1 h2.2)

set_option maxHeartbeats 2000000 in
set_option maxRecDepth 100000 in
theorem implAddPair_any (p : Int) (l : PL) (A : Option Addr) (c : Nat) (a b : Int) (w : World) (hl : l.length ≤ 1048576) (hA : CRead w w.heap.size A (pcells l)) :
    Calls Try.prog 41 #[.agg #[.int .i64 p, .slice A l.length c], .int .i64 a, .int .i64 b] w (GotPartyOk w (resAddPair p l a b).1 (resAddPair p l a b).2.1 (resAddPair p l a b).2.2) := by
  obtain ⟨r, hres⟩ : ∃ r, resAddPair p l a b = r := ⟨_, rfl⟩
  obtain ⟨⟨f, ok⟩, hf⟩ : ∃ r, resAreFriends p l a b = r := ⟨_, rfl⟩
  have hno : ok = false ∨ f = true → r = (0, [], false) := by
    intro h
    rw [← hres]
    show resChange true p l a b = _
    unfold resChange
    rw [if_neg]
    rintro ⟨h2, h3⟩
    rw [resAreFriends, if_pos h2, h3] at hf
    injection hf with e1 e2
    rcases h with h | h
    · rw [h] at e2; cases e2
    · rw [h] at e1; cases e1
  have hyes : ok = true → f = !true → isTwo p l a b = true ∧ r = (p, flipped p.toNat l (min a b) (max a b), true) := by
    intro h1 h2
    rw [resAreFriends] at hf
    cases h3 : isTwo p l a b with
    | false =>
      rw [h3] at hf
      simp only [Bool.false_eq_true, if_false, Prod.mk.injEq] at hf
      rw [h1] at hf
      cases hf.2
    | true =>
      rw [h3] at hf
      simp only [if_true, Prod.mk.injEq] at hf
      have h4 : areF l a b = !true := hf.1.trans h2
      refine ⟨rfl, ?_⟩
      rw [← hres]
      show resChange true p l a b = _
      unfold resChange
      rw [if_pos ⟨h3, h4⟩, flipped_changed h4]
  rw [hres]
  have Hno := Lib.hid hno
  have Hyes := Lib.hid hyes
  have Hf := Lib.hid hf
  clear hno hyes hf hres
  go_enter Try.func41, Try.ntmps41
  go_wp2_with fail
  refine (implAreFriends_any p l A c a b _ hl ((hA.below (B' := w.heap.size) (by go_grown) (Nat.le_refl _)).more (by go_size))).mono ?_
  rw [Hf.out]
  rintro e w2 ⟨rfl, hb2⟩
  simp only [World.size_alloc] at hb2
  have a0 : w2.cell? ⟨w.heap.size, 0, none⟩ = some (.int .i64 p) := carry hb2 (by simp) (by omega)
  have a1 : w2.cell? ⟨w.heap.size, 1, none⟩ = some (.slice A l.length c) := carry hb2 (by simp) (by omega)
  have x0 : w2.cell? ⟨w.heap.size + 1, 0, none⟩ = some (.int .i64 0) := carry hb2 (by simp) (by omega)
  have x1 : w2.cell? ⟨w.heap.size + 1, 1, none⟩ = some (.slice none 0 0) := carry hb2 (by simp) (by omega)
  have z0 : w2.frozen? ⟨w.heap.size + 1, 0, none⟩ = false := (hb2.frozen (p := ⟨w.heap.size + 1, 0, none⟩) (by simp)).trans (by simp)
  have z1 : w2.frozen? ⟨w.heap.size + 1, 1, none⟩ = false := (hb2.frozen (p := ⟨w.heap.size + 1, 1, none⟩) (by simp)).trans (by simp)
  have k2 : Below w.heap.size w w2 := Below.trans (b := _) (by go_grown) (hb2.mono (by omega))
  have s2 := hb2.size
  simp only [World.size_alloc] at s2
  clear hb2
  cases ok with
  | false =>
    have hr := Hno.out (.inl rfl)
    have Hr := Lib.hid hr
    clear hr
    go_wp2
    refine bodyPost_ret (v := .tuple #[.agg #[.int .i64 0, .slice none 0 0], .bool false]) (by simp [results, Try.results41, go_sem, x0, x1]) rfl ?_
    rw [Hr.out]
    exact ⟨none, 0, rfl, World.ownsRow_nil _ _ _ _, (k2.setCell (p := ⟨w.heap.size + 1, 0, none⟩) (by simp) _).setCell (p := ⟨w.heap.size + 1, 1, none⟩) (by simp) _⟩
  | true =>
    cases f with
    | true =>
      have hr := Hno.out (.inr rfl)
      have Hr := Lib.hid hr
      clear hr
      go_wp2
      refine bodyPost_ret (v := .tuple #[.agg #[.int .i64 0, .slice none 0 0], .bool false]) (by simp [results, Try.results41, go_sem, x0, x1]) rfl ?_
      rw [Hr.out]
      exact ⟨none, 0, rfl, World.ownsRow_nil _ _ _ _, (k2.setCell (p := ⟨w.heap.size + 1, 0, none⟩) (by simp) _).setCell (p := ⟨w.heap.size + 1, 1, none⟩) (by simp) _⟩
    | false =>
      obtain ⟨h2, hr⟩ := Hyes.out rfl rfl
      have hp := (isTwo_parts h2).1
      have Hp := Lib.hid hp
      have Hr := Lib.hid hr
      clear h2 hr hp
      go_wp2
      go_region_held3 (fun w' => w'.cell? ⟨w.heap.size, 0, none⟩ = some (.int .i64 p) ∧ w'.cell? ⟨w.heap.size, 1, none⟩ = some (.slice A l.length c)) (first | exact ⟨a0, a1⟩ | exact ⟨b0, b1⟩ | exact ⟨d0, d1⟩ | exact ⟨(World.cell?_setCell_other _ _ _ _ (by simp)).trans ((World.cell?_setCell_other _ _ _ _ (by simp)).trans d0), (World.cell?_setCell_other _ _ _ _ (by simp)).trans ((World.cell?_setCell_other _ _ _ _ (by simp)).trans d1)⟩) ((first
        | (go_at_call 79; refine (pairOf_any a b _).mono ?_; rintro e w3 ⟨rfl, hb3'⟩; have g3 : Below w2.heap.size w2 w3 := (Below.refl _ _).drew.trans hb3'; have b0 := carry g3 a0 (by omega); have b1 := carry g3 a1 (by omega); have y0 := carry g3 x0 (by omega); have y1 := carry g3 x1 (by omega); have y2 := (g3.frozen (p := ⟨w.heap.size + 1, 0, none⟩) (by show w.heap.size + 1 < _; omega)).trans z0; have y3 := (g3.frozen (p := ⟨w.heap.size + 1, 1, none⟩) (by show w.heap.size + 1 < _; omega)).trans z1; have s3 := g3.size; have k3 := k2.trans (g3.mono k2.size))
        | (go_at_call 84; refine (turned_any p l A c (min a b) (max a b) _ Hp.out ((hA.below k3 (Nat.le_refl _)).more k3.size)).mono ?_; rintro e w4 ⟨A4, c4, rfl, own4, hb4⟩; have d0 := carry hb4 b0 (by omega); have d1 := carry hb4 b1 (by omega); have v0 := carry hb4 y0 (by omega); have v1 := carry hb4 y1 (by omega); have v2 := (hb4.frozen (p := ⟨w.heap.size + 1, 0, none⟩) (by show w.heap.size + 1 < _; omega)).trans y2; have v3 := (hb4.frozen (p := ⟨w.heap.size + 1, 1, none⟩) (by show w.heap.size + 1 < _; omega)).trans y3; have s4 := hb4.size)
        | skip))
      have Own4 := Lib.hid own4
      clear own4
      go_wp2
      refine bodyPost_ret (v := .tuple #[.agg #[.int .i64 p, .slice A4 (flipped p.toNat l (min a b) (max a b)).length c4], .bool true]) (by simp [results, Try.results41, go_sem, v0, v1]) rfl ?_
      rw [Hr.out]
      exact ⟨A4, c4, rfl, own_lower (ownsRow_setCell_below (ownsRow_setCell_below Own4.out (a := ⟨w.heap.size + 1, 0, none⟩) (by show w.heap.size + 1 < _; omega) _) (a := ⟨w.heap.size + 1, 1, none⟩) (by show w.heap.size + 1 < _; omega) _) (by omega),
        ((k3.trans (hb4.mono k3.size)).setCell (p := ⟨w.heap.size + 1, 0, none⟩) (by simp) _).setCell (p := ⟨w.heap.size + 1, 1, none⟩) (by simp) _⟩

set_option maxHeartbeats 2000000 in
set_option maxRecDepth 100000 in
theorem implDropPair_any (p : Int) (l : PL) (A : Option Addr) (c : Nat) (a b : Int) (w : World) (hl : l.length ≤ 1048576) (hA : CRead w w.heap.size A (pcells l)) :
    Calls Try.prog 43 #[.agg #[.int .i64 p, .slice A l.length c], .int .i64 a, .int .i64 b] w (GotPartyOk w (resDropPair p l a b).1 (resDropPair p l a b).2.1 (resDropPair p l a b).2.2) := by
  obtain ⟨r, hres⟩ : ∃ r, resDropPair p l a b = r := ⟨_, rfl⟩
  obtain ⟨⟨f, ok⟩, hf⟩ : ∃ r, resAreFriends p l a b = r := ⟨_, rfl⟩
  have hno : ok = false ∨ f = false → r = (0, [], false) := by
    intro h
    rw [← hres]
    show resChange false p l a b = _
    unfold resChange
    rw [if_neg]
    rintro ⟨h2, h3⟩
    rw [resAreFriends, if_pos h2, h3] at hf
    injection hf with e1 e2
    rcases h with h | h
    · rw [h] at e2; cases e2
    · rw [h] at e1; cases e1
  have hyes : ok = true → f = !false → isTwo p l a b = true ∧ r = (p, flipped p.toNat l (min a b) (max a b), true) := by
    intro h1 h2
    rw [resAreFriends] at hf
    cases h3 : isTwo p l a b with
    | false =>
      rw [h3] at hf
      simp only [Bool.false_eq_true, if_false, Prod.mk.injEq] at hf
      rw [h1] at hf
      cases hf.2
    | true =>
      rw [h3] at hf
      simp only [if_true, Prod.mk.injEq] at hf
      have h4 : areF l a b = !false := hf.1.trans h2
      refine ⟨rfl, ?_⟩
      rw [← hres]
      show resChange false p l a b = _
      unfold resChange
      rw [if_pos ⟨h3, h4⟩, flipped_changed h4]
  rw [hres]
  have Hno := Lib.hid hno
  have Hyes := Lib.hid hyes
  have Hf := Lib.hid hf
  clear hno hyes hf hres
  go_enter Try.func43, Try.ntmps43
  go_wp2_with fail
  refine (implAreFriends_any p l A c a b _ hl ((hA.below (B' := w.heap.size) (by go_grown) (Nat.le_refl _)).more (by go_size))).mono ?_
  rw [Hf.out]
  rintro e w2 ⟨rfl, hb2⟩
  simp only [World.size_alloc] at hb2
  have a0 : w2.cell? ⟨w.heap.size, 0, none⟩ = some (.int .i64 p) := carry hb2 (by simp) (by omega)
  have a1 : w2.cell? ⟨w.heap.size, 1, none⟩ = some (.slice A l.length c) := carry hb2 (by simp) (by omega)
  have x0 : w2.cell? ⟨w.heap.size + 1, 0, none⟩ = some (.int .i64 0) := carry hb2 (by simp) (by omega)
  have x1 : w2.cell? ⟨w.heap.size + 1, 1, none⟩ = some (.slice none 0 0) := carry hb2 (by simp) (by omega)
  have z0 : w2.frozen? ⟨w.heap.size + 1, 0, none⟩ = false := (hb2.frozen (p := ⟨w.heap.size + 1, 0, none⟩) (by simp)).trans (by simp)
  have z1 : w2.frozen? ⟨w.heap.size + 1, 1, none⟩ = false := (hb2.frozen (p := ⟨w.heap.size + 1, 1, none⟩) (by simp)).trans (by simp)
  have k2 : Below w.heap.size w w2 := Below.trans (b := _) (by go_grown) (hb2.mono (by omega))
  have s2 := hb2.size
  simp only [World.size_alloc] at s2
  clear hb2
  cases ok with
  | false =>
    have hr := Hno.out (.inl rfl)
    have Hr := Lib.hid hr
    clear hr
    go_wp2
    refine bodyPost_ret (v := .tuple #[.agg #[.int .i64 0, .slice none 0 0], .bool false]) (by simp [results, Try.results43, go_sem, x0, x1]) rfl ?_
    rw [Hr.out]
    exact ⟨none, 0, rfl, World.ownsRow_nil _ _ _ _, (k2.setCell (p := ⟨w.heap.size + 1, 0, none⟩) (by simp) _).setCell (p := ⟨w.heap.size + 1, 1, none⟩) (by simp) _⟩
  | true =>
    cases f with
    | false =>
      have hr := Hno.out (.inr rfl)
      have Hr := Lib.hid hr
      clear hr
      go_wp2
      refine bodyPost_ret (v := .tuple #[.agg #[.int .i64 0, .slice none 0 0], .bool false]) (by simp [results, Try.results43, go_sem, x0, x1]) rfl ?_
      rw [Hr.out]
      exact ⟨none, 0, rfl, World.ownsRow_nil _ _ _ _, (k2.setCell (p := ⟨w.heap.size + 1, 0, none⟩) (by simp) _).setCell (p := ⟨w.heap.size + 1, 1, none⟩) (by simp) _⟩
    | true =>
      obtain ⟨h2, hr⟩ := Hyes.out rfl rfl
      have hp := (isTwo_parts h2).1
      have Hp := Lib.hid hp
      have Hr := Lib.hid hr
      clear h2 hr hp
      go_wp2
      go_region_held3 (fun w' => w'.cell? ⟨w.heap.size, 0, none⟩ = some (.int .i64 p) ∧ w'.cell? ⟨w.heap.size, 1, none⟩ = some (.slice A l.length c)) (first | exact ⟨a0, a1⟩ | exact ⟨b0, b1⟩ | exact ⟨d0, d1⟩ | exact ⟨(World.cell?_setCell_other _ _ _ _ (by simp)).trans ((World.cell?_setCell_other _ _ _ _ (by simp)).trans d0), (World.cell?_setCell_other _ _ _ _ (by simp)).trans ((World.cell?_setCell_other _ _ _ _ (by simp)).trans d1)⟩) ((first
        | (go_at_call 79; refine (pairOf_any a b _).mono ?_; rintro e w3 ⟨rfl, hb3'⟩; have g3 : Below w2.heap.size w2 w3 := (Below.refl _ _).drew.trans hb3'; have b0 := carry g3 a0 (by omega); have b1 := carry g3 a1 (by omega); have y0 := carry g3 x0 (by omega); have y1 := carry g3 x1 (by omega); have y2 := (g3.frozen (p := ⟨w.heap.size + 1, 0, none⟩) (by show w.heap.size + 1 < _; omega)).trans z0; have y3 := (g3.frozen (p := ⟨w.heap.size + 1, 1, none⟩) (by show w.heap.size + 1 < _; omega)).trans z1; have s3 := g3.size; have k3 := k2.trans (g3.mono k2.size))
        | (go_at_call 84; refine (turned_any p l A c (min a b) (max a b) _ Hp.out ((hA.below k3 (Nat.le_refl _)).more k3.size)).mono ?_; rintro e w4 ⟨A4, c4, rfl, own4, hb4⟩; have d0 := carry hb4 b0 (by omega); have d1 := carry hb4 b1 (by omega); have v0 := carry hb4 y0 (by omega); have v1 := carry hb4 y1 (by omega); have v2 := (hb4.frozen (p := ⟨w.heap.size + 1, 0, none⟩) (by show w.heap.size + 1 < _; omega)).trans y2; have v3 := (hb4.frozen (p := ⟨w.heap.size + 1, 1, none⟩) (by show w.heap.size + 1 < _; omega)).trans y3; have s4 := hb4.size)
        | skip))
      have Own4 := Lib.hid own4
      clear own4
      go_wp2
      refine bodyPost_ret (v := .tuple #[.agg #[.int .i64 p, .slice A4 (flipped p.toNat l (min a b) (max a b)).length c4], .bool true]) (by simp [results, Try.results43, go_sem, v0, v1]) rfl ?_
      rw [Hr.out]
      exact ⟨A4, c4, rfl, own_lower (ownsRow_setCell_below (ownsRow_setCell_below Own4.out (a := ⟨w.heap.size + 1, 0, none⟩) (by show w.heap.size + 1 < _; omega) _) (a := ⟨w.heap.size + 1, 1, none⟩) (by show w.heap.size + 1 < _; omega) _) (by omega),
        ((k3.trans (hb4.mono k3.size)).setCell (p := ⟨w.heap.size + 1, 0, none⟩) (by simp) _).setCell (p := ⟨w.heap.size + 1, 1, none⟩) (by simp) _⟩

end Go.Proofs.Ytgkfnckgpbjbdaa
