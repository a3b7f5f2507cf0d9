/-
  Texts put together for the claims of 'AddClue' (pack 4): AddI, Table, Of, Box, CutU, LawAddClue, Head, Facts.
-/
import Derived.Test.YtkiobefojckocaaAddClueP1
import Derived.Test.YtkiobefojckocaaAddClueP2
import Derived.Test.YtkiobefojckocaaAddClueP3
import Derived.StillTailTactics
import Derived.Deep.DeepCutAuto
import Derived.Deep.RegionHeld3
import Derived.Test.YtkiobefojckocaaRows
/-
  A CLUE MORE: 'AddClue' of the program, by its contract.
-/
namespace Go.Proofs.Ytkiobefojckocaa
open Go.RowKit

set_option maxHeartbeats 8000000 in
set_option maxRecDepth 100000 in
theorem implAddClue_any (p : Int) (l : CL) (A : Option Addr) (c : Nat) (ka kb kc : Int) (w : World) (hl : l.length ≤ 1048576) (hA : CRead w w.heap.size A (ccells l)) (hz : A = none → l.length = 0 ∧ c = 0) (hc : l.length ≤ c) :
    Calls Try.prog 40 #[.agg #[.int .i64 p, .slice A l.length c], .agg #[.int .i64 ka, .int .i64 kb, .int .i64 kc]] w (GotPuzzleOk w (resAddClue p l ka kb kc).1 (resAddClue p l ka kb kc).2.1 (resAddClue p l ka kb kc).2.2) := by
  obtain ⟨i0, hi, hz0, hz1, hz2⟩ := info_parts Try.infoClue
  have hgood := fun (Y : World) (hY : Below w.heap.size w Y) => isPuzzle_any p l A c Y hl ((hA.below hY (Nat.le_refl _)).more hY.size)
  obtain ⟨R, hR⟩ : ∃ R, resAddClue p l ka kb kc = R := ⟨_, rfl⟩
  rw [hR]
  have hunf := hR
  unfold resAddClue at hunf
  have hlc := ccells_length l
  have hone := ccells_one l
  generalize hn : l.length = n at *
  have Good := Lib.hid hgood
  clear hgood hR
  have fin : ∀ (w2 : World), Boxes3 w2 w.heap.size p A n c ka kb kc → Below w.heap.size w w2 → w.heap.size + 1 + 1 < w2.heap.size → ∀ (q : Int) (M : CL) (A5 : Option Addr) (c5 : Nat) (ok : Bool), w2.ownsRow (w.heap.size + 1 + 1 + 1) 65 3 (.slice A5 M.length c5) M.length (ccells M) →
      GotPuzzleOk w q M ok (.returned (.tuple #[.agg #[.int .i64 q, .slice A5 M.length c5], .bool ok])) ((w2.setCell ⟨w.heap.size + 1 + 1, 0, none⟩ (.int .i64 q)).setCell ⟨w.heap.size + 1 + 1, 1, none⟩ (.slice A5 M.length c5)) := by
    intro w2 _ k2 hlt q M A5 c5 ok ho
    exact ⟨A5, c5, rfl, own_lower (ownsRow_setCell_below (ownsRow_setCell_below ho (a := ⟨w.heap.size + 1 + 1, 0, none⟩) (by simp) _) (a := ⟨w.heap.size + 1 + 1, 1, none⟩) (by simp) _) (by omega), (k2.setCell (by simp; omega) _).setCell (by simp; omega) _⟩
  have Fin := Lib.hid fin
  have New := Lib.hid (boxes3_new w p A n c ka kb kc 55 65 55)
  clear fin
  cases hp : isU p l with
  | false =>
    have hRe : R = (0, [], false) := by rw [← hunf, hp]; rfl
    subst hRe
    have Hp := Lib.hid hp
    clear hp hunf
    go_enter Try.func40, Try.ntmps40
    go_wp2_with fail
    refine (Good.out _ (by go_grown)).mono ?_
    rw [Hp.out]
    rintro e w2 ⟨rfl, hb2⟩
    have B2 := New.out.below hb2 (by simp)
    have s2 := hb2.size
    simp only [World.size_alloc] at hb2 s2
    have k2 : Below w.heap.size w w2 := Below.trans (b := _) (by go_grown) (hb2.mono (by omega))
    have B2' := Lib.hid B2
    obtain ⟨q0, q1, q2, q3, q4, q5, q6, q7, q8⟩ := B2
    clear hb2
    go_wp2
    obtain ⟨z0, z1⟩ := box2_set (.int .i64 0) (.slice none 0 0) q5 q6
    refine bodyPost_ret (v := .tuple #[.agg #[.int .i64 0, .slice none 0 0], .bool false]) (by simp [results, Try.results40, go_sem, z0, z1]) rfl ?_
    exact Fin.out w2 B2'.out k2 (by omega) 0 [] none 0 false (World.ownsRow_nil _ _ _ _)
  | true =>
    have hp8 := isU_parts hp
    rw [hn] at hp8
    have hn8 := hp8.2.2.1
    have hrc : resIsClue p ka kb kc = isCB p (ka, kb, kc) := by unfold resIsClue isGuests l1InB; rw [decide_eq_true ⟨hp8.1, hp8.2.1⟩]; rfl
    have hcl := fun (Y : World) => implIsClue_any p ka kb kc Y
    rw [hrc] at hcl
    have Clu := Lib.hid hcl
    clear hp8 hcl hrc
    cases hcb : isCB p (ka, kb, kc) with
    | false =>
      have hRe : R = (0, [], false) := by rw [← hunf, hp, hcb]; rfl
      subst hRe
      have Hp := Lib.hid hp
      have Hcb := Lib.hid hcb
      clear hp hunf hcb
      go_enter Try.func40, Try.ntmps40
      go_wp2_with fail
      refine (Good.out _ (by go_grown)).mono ?_
      rw [Hp.out]
      rintro e w2 ⟨rfl, hb2⟩
      have B2 := New.out.below hb2 (by simp)
      have s2 := hb2.size
      simp only [World.size_alloc] at hb2 s2
      have k2 : Below w.heap.size w w2 := Below.trans (b := _) (by go_grown) (hb2.mono (by omega))
      obtain ⟨q0, q1, q2, q3, q4, q5, q6, q7, q8⟩ := id B2
      clear hb2
      go_wp2_with fail
      refine (Clu.out w2).mono ?_
      rw [Hcb.out]
      rintro e w3 ⟨rfl, hb3⟩
      have B3 := B2.below hb3 (by omega)
      have s3 := hb3.size
      have k3 := k2.trans (hb3.mono k2.size)
      have B3' := Lib.hid B3
      clear q0 q1 q2 q3 q4 q5 q6 q7 q8 B2
      obtain ⟨q0, q1, q2, q3, q4, q5, q6, q7, q8⟩ := B3
      go_wp2
      obtain ⟨z0, z1⟩ := box2_set (.int .i64 0) (.slice none 0 0) q5 q6
      refine bodyPost_ret (v := .tuple #[.agg #[.int .i64 0, .slice none 0 0], .bool false]) (by simp [results, Try.results40, go_sem, z0, z1]) rfl ?_
      exact Fin.out w3 B3'.out k3 (by omega) 0 [] none 0 false (World.ownsRow_nil _ _ _ _)
    | true =>
      have Hp := Lib.hid hp
      have Hcb := Lib.hid hcb
      by_cases h8 : n = 8
      · have hRe : R = (0, [], false) := by rw [← hunf, h8]; simp
        subst hRe
        subst h8
        clear hp hunf hcb
        go_enter Try.func40, Try.ntmps40
        go_wp2_with fail
        refine (Good.out _ (by go_grown)).mono ?_
        rw [Hp.out]
        rintro e w2 ⟨rfl, hb2⟩
        have B2 := New.out.below hb2 (by simp)
        have s2 := hb2.size
        simp only [World.size_alloc] at hb2 s2
        have k2 : Below w.heap.size w w2 := Below.trans (b := _) (by go_grown) (hb2.mono (by omega))
        obtain ⟨q0, q1, q2, q3, q4, q5, q6, q7, q8⟩ := id B2
        clear hb2
        go_wp2_with fail
        refine (Clu.out w2).mono ?_
        rw [Hcb.out]
        rintro e w3 ⟨rfl, hb3⟩
        have B3 := B2.below hb3 (by omega)
        have s3 := hb3.size
        have k3 := k2.trans (hb3.mono k2.size)
        have B3' := Lib.hid B3
        clear q0 q1 q2 q3 q4 q5 q6 q7 q8 B2
        obtain ⟨q0, q1, q2, q3, q4, q5, q6, q7, q8⟩ := B3
        go_wp2
        obtain ⟨z0, z1⟩ := box2_set (.int .i64 0) (.slice none 0 0) q5 q6
        refine bodyPost_ret (v := .tuple #[.agg #[.int .i64 0, .slice none 0 0], .bool false]) (by simp [results, Try.results40, go_sem, z0, z1]) rfl ?_
        exact Fin.out w3 B3'.out k3 (by omega) 0 [] none 0 false (World.ownsRow_nil _ _ _ _)
      · have hRe : R = (p, l ++ [(ka, kb, kc)], true) := by rw [← hunf, hp, hcb]; simp [h8]
        subst hRe
        have h8' : ((n : Int) == 8) = false := by simp; omega
        have hM : (l ++ [(ka, kb, kc)]).length = n + 1 := by simp [hn]
        have hMc : ccells (l ++ [(ka, kb, kc)]) = ccells l ++ [.int .i64 ka, .int .i64 kb, .int .i64 kc] := by rw [ccells_append]; rfl
        clear hp hunf hcb
        go_enter Try.func40, Try.ntmps40
        go_wp2_with fail
        refine (Good.out _ (by go_grown)).mono ?_
        rw [Hp.out]
        rintro e w2 ⟨rfl, hb2⟩
        have B2 := New.out.below hb2 (by simp)
        have s2 := hb2.size
        simp only [World.size_alloc] at hb2 s2
        have k2 : Below w.heap.size w w2 := Below.trans (b := _) (by go_grown) (hb2.mono (by omega))
        obtain ⟨q0, q1, q2, q3, q4, q5, q6, q7, q8⟩ := id B2
        clear hb2
        go_wp2_with fail
        refine (Clu.out w2).mono ?_
        rw [Hcb.out]
        rintro e w3 ⟨rfl, hb3⟩
        have B3 := B2.below hb3 (by omega)
        have s3 := hb3.size
        have k3 := k2.trans (hb3.mono k2.size)
        have B3' := Lib.hid B3
        clear q0 q1 q2 q3 q4 q5 q6 q7 q8 B2
        obtain ⟨q0, q1, q2, q3, q4, q5, q6, q7, q8⟩ := B3
        go_wp2
        have hn1 : ∀ Y : World, Below w.heap.size w Y → ∀ ad, A = some ad → ∀ j u, (ccells l)[j]? = some u → Y.cell? (ad.add j) = some u := fun Y hY ad e => read_add_C (e ▸ hA.below hY (Nat.le_refl _))
        have HRd := Lib.hid hn1
        have hnc : (n : Int) ≤ c := by omega
        by_cases hn0 : 0 < n
        · obtain ⟨b, off, rfl⟩ := hA.caddr (by omega)
          have hne : ¬ n = 0 := by omega
          clear hn1
          have kD : Below w3.heap.size w3 w3.drew := (Below.refl _ _).drew
          have g1 : Below w3.heap.size w3 (w3.alloc (Obj.cells #[.int .i64 ka, .int .i64 kb, .int .i64 kc] 65)).drew := ((Below.refl _ _).alloc (Nat.le_refl _) _).drew
          have n1 : (w3.alloc (Obj.cells #[.int .i64 ka, .int .i64 kb, .int .i64 kc] 65)).drew.heap[w3.heap.size]? = some (Obj.cells #[.int .i64 ka, .int .i64 kb, .int .i64 kc] 65) := heap_alloc_new w3 (Obj.cells #[.int .i64 ka, .int .i64 kb, .int .i64 kc] 65)
          have kS : ∀ X : World, Below w3.heap.size w3 X → X.cell? ⟨w.heap.size, 0, none⟩ = some (.int .i64 p) ∧ X.cell? ⟨w.heap.size, 1, none⟩ = some (.slice (some ⟨b, off, none⟩) n c) ∧ X.cell? ⟨w.heap.size + 1, 0, none⟩ = some (.int .i64 ka) ∧ X.cell? ⟨w.heap.size + 1, 1, none⟩ = some (.int .i64 kb) ∧ X.cell? ⟨w.heap.size + 1, 2, none⟩ = some (.int .i64 kc) := fun X hX => ⟨carry hX q0 (by omega), carry hX q1 (by omega), carry hX q2 (by omega), carry hX q3 (by omega), carry hX q4 (by omega)⟩
          have kT : ∀ (X : World) (u v : Value), Below w3.heap.size w3 X → ((X.setCell ⟨w.heap.size + 1 + 1, 0, none⟩ u).setCell ⟨w.heap.size + 1 + 1, 1, none⟩ v).cell? ⟨w.heap.size, 0, none⟩ = some (.int .i64 p) ∧ ((X.setCell ⟨w.heap.size + 1 + 1, 0, none⟩ u).setCell ⟨w.heap.size + 1 + 1, 1, none⟩ v).cell? ⟨w.heap.size, 1, none⟩ = some (.slice (some ⟨b, off, none⟩) n c) ∧ ((X.setCell ⟨w.heap.size + 1 + 1, 0, none⟩ u).setCell ⟨w.heap.size + 1 + 1, 1, none⟩ v).cell? ⟨w.heap.size + 1, 0, none⟩ = some (.int .i64 ka) ∧ ((X.setCell ⟨w.heap.size + 1 + 1, 0, none⟩ u).setCell ⟨w.heap.size + 1 + 1, 1, none⟩ v).cell? ⟨w.heap.size + 1, 1, none⟩ = some (.int .i64 kb) ∧ ((X.setCell ⟨w.heap.size + 1 + 1, 0, none⟩ u).setCell ⟨w.heap.size + 1 + 1, 1, none⟩ v).cell? ⟨w.heap.size + 1, 2, none⟩ = some (.int .i64 kc) := fun X u v hX => ⟨by rw [World.cell?_setCell_far _ _ _ _ (by show w.heap.size + 1 + 1 ≠ w.heap.size; omega), World.cell?_setCell_far _ _ _ _ (by show w.heap.size + 1 + 1 ≠ w.heap.size; omega)]; exact (kS X hX).1, by rw [World.cell?_setCell_far _ _ _ _ (by show w.heap.size + 1 + 1 ≠ w.heap.size; omega), World.cell?_setCell_far _ _ _ _ (by show w.heap.size + 1 + 1 ≠ w.heap.size; omega)]; exact (kS X hX).2.1, by rw [World.cell?_setCell_far _ _ _ _ (by show w.heap.size + 1 + 1 ≠ w.heap.size + 1; omega), World.cell?_setCell_far _ _ _ _ (by show w.heap.size + 1 + 1 ≠ w.heap.size + 1; omega)]; exact (kS X hX).2.2.1, by rw [World.cell?_setCell_far _ _ _ _ (by show w.heap.size + 1 + 1 ≠ w.heap.size + 1; omega), World.cell?_setCell_far _ _ _ _ (by show w.heap.size + 1 + 1 ≠ w.heap.size + 1; omega)]; exact (kS X hX).2.2.2.1, by rw [World.cell?_setCell_far _ _ _ _ (by show w.heap.size + 1 + 1 ≠ w.heap.size + 1; omega), World.cell?_setCell_far _ _ _ _ (by show w.heap.size + 1 + 1 ≠ w.heap.size + 1; omega)]; exact (kS X hX).2.2.2.2⟩
          have rd1 := HRd.out _ (k3.trans (g1.mono k3.size))
          go_region_held_law (fun w' => w'.cell? ⟨w.heap.size, 0, none⟩ = some (.int .i64 p) ∧ w'.cell? ⟨w.heap.size, 1, none⟩ = some (.slice (some ⟨b, off, none⟩) n c) ∧ w'.cell? ⟨w.heap.size + 1, 0, none⟩ = some (.int .i64 ka) ∧ w'.cell? ⟨w.heap.size + 1, 1, none⟩ = some (.int .i64 kb) ∧ w'.cell? ⟨w.heap.size + 1, 2, none⟩ = some (.int .i64 kc)) (first | exact kT _ _ _ h5 | exact kS _ kD | exact kS _ g1 | exact kS _ h5) ((first
            | (refine step_append_grows (by rfl) _ _ _ (by rfl) 65 i0 _ 3 24 Try.underlying53 hi hz0 hz1 hz2 (by rfl) (by decide) ((some ⟨b, off, none⟩)) (n) (n) (ccells l) (by rfl) (fun h => by cases h) hlc rd1 ⟨w3.heap.size, 0, none⟩ 1 1 [.int .i64 ka, .int .i64 kb, .int .i64 kc] (by rfl) rfl (three_cells (by rw [cell_of_row _ _ _ _ _ _ n1]; rfl) (by rw [cell_of_row _ _ _ _ _ _ n1]; rfl) (by rw [cell_of_row _ _ _ _ _ _ n1]; rfl)) (three_one rfl rfl rfl) (by omega) (by unfold maxLen; omega) (by omega) ?_; intro v5 w5 own5 gr5; have h5 : Below w3.heap.size w3 w5 := g1.grown gr5 g1.size (fun j hj => by cases hj); obtain ⟨A5, c5, rfl, _⟩ := own_shape own5; have B5 := B3'.out.below h5 (by omega); have s5 := h5.size; obtain ⟨_, _, _, _, _, y5, y6, y7, y8⟩ := id B5)
            | fail))
          all_goals
            have k5 : Below w.heap.size w w5 := k3.trans (h5.mono k3.size)
            rw [← hMc] at own5
            have own6 := own_lower own5 (show w.heap.size + 1 + 1 + 1 ≤ (w3.alloc (Obj.cells #[.int .i64 ka, .int .i64 kb, .int .i64 kc] 65)).drew.heap.size by show _ ≤ (w3.alloc (Obj.cells #[.int .i64 ka, .int .i64 kb, .int .i64 kc] 65)).heap.size; rw [World.size_alloc]; omega)
            clear gr5 own5 g1 n1
            go_wp2_with fail
            obtain ⟨z0, z1⟩ := box2_set (.int .i64 p) (.slice A5 (n + 1) c5) y5 y6
            refine bodyPost_ret (v := .tuple #[.agg #[.int .i64 p, .slice A5 (n + 1) c5], .bool true]) (by simp [results, Try.results40, go_sem, z0, z1]) rfl ?_
            have hf := Fin.out w5 B5 k5 (by omega) p (l ++ [(ka, kb, kc)]) A5 c5 true (by rw [hM]; exact own6)
            rw [hM] at hf
            exact hf
        · have hn00 : n = 0 := by omega
          subst hn00
          clear hn1
          have kD : Below w3.heap.size w3 w3.drew := (Below.refl _ _).drew
          have g1 : Below w3.heap.size w3 (w3.alloc (Obj.cells #[.int .i64 ka, .int .i64 kb, .int .i64 kc] 65)).drew := ((Below.refl _ _).alloc (Nat.le_refl _) _).drew
          have n1 : (w3.alloc (Obj.cells #[.int .i64 ka, .int .i64 kb, .int .i64 kc] 65)).drew.heap[w3.heap.size]? = some (Obj.cells #[.int .i64 ka, .int .i64 kb, .int .i64 kc] 65) := heap_alloc_new w3 (Obj.cells #[.int .i64 ka, .int .i64 kb, .int .i64 kc] 65)
          have kS : ∀ X : World, Below w3.heap.size w3 X → X.cell? ⟨w.heap.size, 0, none⟩ = some (.int .i64 p) ∧ X.cell? ⟨w.heap.size, 1, none⟩ = some (.slice A 0 c) ∧ X.cell? ⟨w.heap.size + 1, 0, none⟩ = some (.int .i64 ka) ∧ X.cell? ⟨w.heap.size + 1, 1, none⟩ = some (.int .i64 kb) ∧ X.cell? ⟨w.heap.size + 1, 2, none⟩ = some (.int .i64 kc) := fun X hX => ⟨carry hX q0 (by omega), carry hX q1 (by omega), carry hX q2 (by omega), carry hX q3 (by omega), carry hX q4 (by omega)⟩
          have kT : ∀ (X : World) (u v : Value), Below w3.heap.size w3 X → ((X.setCell ⟨w.heap.size + 1 + 1, 0, none⟩ u).setCell ⟨w.heap.size + 1 + 1, 1, none⟩ v).cell? ⟨w.heap.size, 0, none⟩ = some (.int .i64 p) ∧ ((X.setCell ⟨w.heap.size + 1 + 1, 0, none⟩ u).setCell ⟨w.heap.size + 1 + 1, 1, none⟩ v).cell? ⟨w.heap.size, 1, none⟩ = some (.slice A 0 c) ∧ ((X.setCell ⟨w.heap.size + 1 + 1, 0, none⟩ u).setCell ⟨w.heap.size + 1 + 1, 1, none⟩ v).cell? ⟨w.heap.size + 1, 0, none⟩ = some (.int .i64 ka) ∧ ((X.setCell ⟨w.heap.size + 1 + 1, 0, none⟩ u).setCell ⟨w.heap.size + 1 + 1, 1, none⟩ v).cell? ⟨w.heap.size + 1, 1, none⟩ = some (.int .i64 kb) ∧ ((X.setCell ⟨w.heap.size + 1 + 1, 0, none⟩ u).setCell ⟨w.heap.size + 1 + 1, 1, none⟩ v).cell? ⟨w.heap.size + 1, 2, none⟩ = some (.int .i64 kc) := fun X u v hX => ⟨by rw [World.cell?_setCell_far _ _ _ _ (by show w.heap.size + 1 + 1 ≠ w.heap.size; omega), World.cell?_setCell_far _ _ _ _ (by show w.heap.size + 1 + 1 ≠ w.heap.size; omega)]; exact (kS X hX).1, by rw [World.cell?_setCell_far _ _ _ _ (by show w.heap.size + 1 + 1 ≠ w.heap.size; omega), World.cell?_setCell_far _ _ _ _ (by show w.heap.size + 1 + 1 ≠ w.heap.size; omega)]; exact (kS X hX).2.1, by rw [World.cell?_setCell_far _ _ _ _ (by show w.heap.size + 1 + 1 ≠ w.heap.size + 1; omega), World.cell?_setCell_far _ _ _ _ (by show w.heap.size + 1 + 1 ≠ w.heap.size + 1; omega)]; exact (kS X hX).2.2.1, by rw [World.cell?_setCell_far _ _ _ _ (by show w.heap.size + 1 + 1 ≠ w.heap.size + 1; omega), World.cell?_setCell_far _ _ _ _ (by show w.heap.size + 1 + 1 ≠ w.heap.size + 1; omega)]; exact (kS X hX).2.2.2.1, by rw [World.cell?_setCell_far _ _ _ _ (by show w.heap.size + 1 + 1 ≠ w.heap.size + 1; omega), World.cell?_setCell_far _ _ _ _ (by show w.heap.size + 1 + 1 ≠ w.heap.size + 1; omega)]; exact (kS X hX).2.2.2.2⟩
          have rd1 := HRd.out _ (k3.trans (g1.mono k3.size))
          go_region_held_law (fun w' => w'.cell? ⟨w.heap.size, 0, none⟩ = some (.int .i64 p) ∧ w'.cell? ⟨w.heap.size, 1, none⟩ = some (.slice A 0 c) ∧ w'.cell? ⟨w.heap.size + 1, 0, none⟩ = some (.int .i64 ka) ∧ w'.cell? ⟨w.heap.size + 1, 1, none⟩ = some (.int .i64 kb) ∧ w'.cell? ⟨w.heap.size + 1, 2, none⟩ = some (.int .i64 kc)) (first | exact kT _ _ _ h5 | exact kS _ kD | exact kS _ g1 | exact kS _ h5) ((first
            | (refine step_append_grows (by rfl) _ _ _ (by rfl) 65 i0 _ 3 24 Try.underlying53 hi hz0 hz1 hz2 (by rfl) (by decide) (A) (0) (0) (ccells l) (by rfl) (fun _ => ⟨rfl, rfl⟩) hlc rd1 ⟨w3.heap.size, 0, none⟩ 1 1 [.int .i64 ka, .int .i64 kb, .int .i64 kc] (by rfl) rfl (three_cells (by rw [cell_of_row _ _ _ _ _ _ n1]; rfl) (by rw [cell_of_row _ _ _ _ _ _ n1]; rfl) (by rw [cell_of_row _ _ _ _ _ _ n1]; rfl)) (three_one rfl rfl rfl) (by omega) (by unfold maxLen; omega) (by omega) ?_; intro v5 w5 own5 gr5; have h5 : Below w3.heap.size w3 w5 := g1.grown gr5 g1.size (fun j hj => by cases hj); obtain ⟨A5, c5, rfl, _⟩ := own_shape own5; have B5 := B3'.out.below h5 (by omega); have s5 := h5.size; obtain ⟨_, _, _, _, _, y5, y6, y7, y8⟩ := id B5)
            | fail))
          all_goals
            have k5 : Below w.heap.size w w5 := k3.trans (h5.mono k3.size)
            rw [← hMc] at own5
            have own6 := own_lower own5 (show w.heap.size + 1 + 1 + 1 ≤ (w3.alloc (Obj.cells #[.int .i64 ka, .int .i64 kb, .int .i64 kc] 65)).drew.heap.size by show _ ≤ (w3.alloc (Obj.cells #[.int .i64 ka, .int .i64 kb, .int .i64 kc] 65)).heap.size; rw [World.size_alloc]; omega)
            clear gr5 own5 g1 n1
            go_wp2_with fail
            obtain ⟨z0, z1⟩ := box2_set (.int .i64 p) (.slice A5 (0 + 1) c5) y5 y6
            refine bodyPost_ret (v := .tuple #[.agg #[.int .i64 p, .slice A5 (0 + 1) c5], .bool true]) (by simp [results, Try.results40, go_sem, z0, z1]) rfl ?_
            have hf := Fin.out w5 B5 k5 (by omega) p (l ++ [(ka, kb, kc)]) A5 c5 true (by rw [hM]; exact own6)
            rw [hM] at hf
            exact hf
end Go.Proofs.Ytkiobefojckocaa
/-
  THE MODEL's TABLE OF A PARTY, AND THE PARTY OF A TABLE, by their contracts.
-/
namespace Go.Proofs.Ytkiobefojckocaa
open Go.RowKit

theorem Try.infoRow : (Try.prog.info? 87).map (fun i => (i.zero, i.size, i.bytes)) = some (some (.slice none 0 0), 1, 24) := by kernel_rfl

set_option maxHeartbeats 2000000 in
set_option maxRecDepth 100000 in
theorem paTable_any (p : Int) (l : PL) (A : Option Addr) (c : Nat) (w : World) (hp : isP p l = true) (hA : CRead w w.heap.size A (pcells l)) :
    Calls Try.prog 58 #[.agg #[.int .i64 p, .slice A l.length c]] w (GotTab w p.toNat (adj l)) := by
  obtain ⟨i0, hi, hz0, hz1, hz2⟩ := info_parts Try.infoRow
  obtain ⟨i1, hj, hy0, hy1, hy2⟩ := info_parts Try.infoBool
  obtain ⟨n, rfl⟩ : ∃ n : Nat, p = n := ⟨p.toNat, by have := isP_range hp; omega⟩
  have hn := isP_range hp
  have hlen : l.length ≤ 66 := by have h1 := isP_length hp; have h2 := people_sq hn.1 hn.2; omega
  simp only [Int.toNat_natCast]
  have Hp := Lib.hid hp
  clear hp
  generalize hB : w.heap.size + 1 = B
  have hBw : w.heap.size < B := by omega
  have HB := Lib.hid hB
  have hB0 : w.heap.size + 1 ≤ B := by omega
  have hB1 : B ≤ w.heap.size + 1 := by omega
  clear hB
  go_enter Try.func58, Try.ntmps58
  go_wp2
  go_loopw [3, 4] (fun v i wr => ∃ k : Nat, ∃ G, k ≤ n ∧ i = .int .i64 k ∧ TabG wr B v k n G (fun _ _ => false) ∧ Below B (w.alloc (Obj.cells #[.int .i64 (n : Int), .slice A l.length c] 24)) wr) (fun _ i _ => n - (intOf i).toNat)
  case atStart => exact ⟨0, fun _ => 0, Nat.zero_le _, rfl, TabG.nil _ _ _ _ _, Below.refl _ _⟩
  case round =>
    obtain ⟨k, G, hk, rfl, htab, hb⟩ := hrel
    have hs := hb.size
    simp only [World.size_alloc] at hs
    have u0 : wr.cell? ⟨w.heap.size, 0, none⟩ = some (.int .i64 n) := carry hb (by simp) hBw
    have u1 : wr.cell? ⟨w.heap.size, 1, none⟩ = some (.slice A l.length c) := carry hb (by simp) hBw
    by_cases hlt : k < n
    · have hki : (k : Int) < n := by omega
      go_wp2_with (first
        | (at_make; refine wpList_make_row _ rfl _ _ 87 rfl 4 i1 (.bool false) Try.underlying87 hj hy0 hy1 rfl _ _ n rfl rfl (by rw [hy2]; omega) (by omega) ?_)
        | (at_builtin; refine wpList_append_own _ rfl _ _ 85 rfl B 87 i0 (.slice none 0 0) 1 24 Try.underlying85 hi hz0 hz1 hz2 rfl (by decide) _ _ _ rfl ((htab.own.alloc _).alloc _) ⟨wr.heap.size + 1, 0, none⟩ 1 1 [.slice (some ⟨wr.heap.size, 0, none⟩) n n] rfl rfl (one_cell (by simp)) (one_one rfl) (by unfold maxLen; omega) (by omega) (by simp; omega) ?_; intro v' w1 hown' hgrow _; have htab' := htab.push (by omega) hgrow hown'))
      have hb1 : Below B (w.alloc (Obj.cells #[.int .i64 (n : Int), .slice A l.length c] 24)) w1 := ((hb.alloc (by omega) _).alloc (by simp; omega) _).grown hgrow (by simp; omega) (fun b hb => (htab.own.lt b hb).1)
      clear hown' hgrow
      go_roundw
      case rel => exact ⟨k + 1, _, by omega, by go_num, htab', hb1⟩
      case measure => simp [intOf]; omega
    · have hkl : n = k := by omega
      subst hkl
      have hge : ¬ ((n : Int) < n) := by omega
      obtain ⟨A', c', rfl, _⟩ := own_shape htab.own
      go_wp2
      go_loopw [22] (fun i wx => ∃ m : Nat, m ≤ l.length ∧ i = .int .i64 m ∧ TabG wx B (.slice A' n c') n n G (adj (l.take m)) ∧ Below B (w.alloc (Obj.cells #[.int .i64 (n : Int), .slice A l.length c] 24)) wx) (fun i _ => l.length - (intOf i).toNat)
      case atStart => exact ⟨0, Nat.zero_le _, rfl, by simpa [adj_nil] using htab, hb⟩
      case round =>
        clear htab hb u0 u1 hs
        obtain ⟨m, hm, rfl, htab, hb⟩ := hrel
        have hs := hb.size
        simp only [World.size_alloc] at hs
        have hbw : Below w.heap.size w wr := Below.trans (b := _) (by go_grown) (hb.mono (by omega))
        by_cases hmt : m < l.length
        · obtain ⟨⟨x, y⟩, hx⟩ := getSome l m hmt
          obtain ⟨h0, h1, h2⟩ := goodAt_pair (isP_good Hp.out hmt) hx
          obtain ⟨a, rfl⟩ : ∃ a : Nat, x = a := ⟨x.toNat, by omega⟩
          obtain ⟨b, rfl⟩ : ∃ b : Nat, y = b := ⟨y.toNat, by omega⟩
          obtain ⟨bb, off, rfl, hbb, c0, c1⟩ := (hA.below hbw (Nat.le_refl _)).pair hx
          obtain ⟨g, rfl⟩ := own_form htab.own (by omega)
          have hmi : (m : Int) < (l.length : Int) := by omega
          have han : a < n := by omega
          have hbn : b < n := by omega
          have ha : (a : Int) < n := by omega
          have hb' : (b : Int) < n := h2
          have hGa := htab.blk han
          have hGb := htab.blk hbn
          have Hx := Lib.hid hx
          clear hx
          go_wp2
          generalize hW : wr.alloc (Obj.cells #[.int .i64 (a : Int), .int .i64 (b : Int)] 76) = W
          have tW : TabG W B (.slice (some ⟨g, 0, none⟩) n c') n n G (adj (l.take m)) := by rw [← hW]; exact htab.alloc _
          have bW : Below B (w.alloc (Obj.cells #[.int .i64 (n : Int), .slice (some ⟨bb, off, none⟩) l.length c] 24)) W := by rw [← hW]; exact hb.alloc (by omega) _
          have e0 : W.cell? ⟨wr.heap.size, 0, none⟩ = some (.int .i64 a) := by rw [← hW]; simp
          have e1 : W.cell? ⟨wr.heap.size, 1, none⟩ = some (.int .i64 b) := by rw [← hW]; simp
          clear hW
          have t1 := tW.set (b := b) han true
          have t2 := t1.set (b := a) hbn true
          rw [← adj_snoc] at t2
          have d0 := tW.outer han
          have d1 := tW.cell han hbn
          have d2 := tW.frozen han b
          have d3 := t1.outer hbn
          have d4 := t1.cell hbn han
          have d5 := t1.frozen hbn a
          have e2 : (W.setCell ⟨G a, b, none⟩ (.bool true)).cell? ⟨wr.heap.size, 0, none⟩ = some (.int .i64 a) := by rw [World.cell?_setCell_other _ _ _ _ (by simp)]; exact e0
          have e3 : (W.setCell ⟨G a, b, none⟩ (.bool true)).cell? ⟨wr.heap.size, 1, none⟩ = some (.int .i64 b) := by rw [World.cell?_setCell_other _ _ _ _ (by simp)]; exact e1
          have T2 := Lib.hid t2
          clear t1 t2 tW htab
          refine wp_region_still_tail 8 (by kernel_rfl) (by kernel_rfl) ?_
          simp only [List.take_succ_cons, List.take_zero, List.drop_succ_cons, List.drop_zero]
          repeat still_step
          refine wpStill_nil ?_
          change wpList _ _ _ _ _ (World.drew _)
          go_wp2
          generalize hW2 : (W.setCell ⟨G a, b, none⟩ (.bool true)).drew = W2
          have f0 : W2.cell? ⟨wr.heap.size, 0, none⟩ = some (.int .i64 a) := by rw [← hW2]; exact e2
          have f1 : W2.cell? ⟨wr.heap.size, 1, none⟩ = some (.int .i64 b) := by rw [← hW2]; exact e3
          have f3 : W2.cell? ⟨g, b, none⟩ = some (.slice (some ⟨G b, 0, none⟩) n n) := by rw [← hW2]; exact d3
          have f4 : W2.cell? ⟨G b, a, none⟩ = some (.bool (upd (adj (l.take m)) a b true b a)) := by rw [← hW2]; exact d4
          have f5 : W2.frozen? ⟨G b, a, none⟩ = false := by rw [← hW2]; exact d5
          have b2 : Below B (w.alloc (Obj.cells #[.int .i64 (n : Int), .slice (some ⟨bb, off, none⟩) l.length c] 24)) (W2.setCell ⟨G b, a, none⟩ (.bool true)).drew := by
            rw [← hW2]
            exact (((bW.setCell (p := ⟨G a, b, none⟩) hGa.1 _).drew).setCell (p := ⟨G b, a, none⟩) hGb.1 _).drew
          have t3 : TabG (W2.setCell ⟨G b, a, none⟩ (.bool true)).drew B (.slice (some ⟨g, 0, none⟩) n c') n n G (adj (l.take m ++ [((a : Int), (b : Int))])) := by
            rw [← hW2]
            exact T2.out.of_blocks ⟨rfl, rfl, rfl, Nat.le_refl _, fun _ _ _ => rfl⟩
          have B2 := Lib.hid b2
          have T3 := Lib.hid t3
          clear hW2 d0 d1 d2 d3 d4 d5 e0 e1 e2 e3 T2 bW b2 t3
          refine wp_region_still_tail 8 (by kernel_rfl) (by kernel_rfl) ?_
          simp only [List.take_succ_cons, List.take_zero, List.drop_succ_cons, List.drop_zero]
          repeat still_step
          refine wpStill_nil ?_
          change wpList _ _ _ _ _ (World.drew _)
          go_wp2
          go_roundw
          case rel =>
            refine ⟨m + 1, by omega, by go_num, ?_, B2.out⟩
            rw [List.take_add_one, Hx.out, Option.toList_some]
            exact T3.out
          case measure => simp [intOf]; omega
        · have hml : m = l.length := by omega
          subst hml
          have hgm : ¬ ((l.length : Int) < l.length) := by omega
          go_wp2
          go_ret
          rw [List.take_length] at htab
          exact ⟨A', c', G, rfl, htab.lower (by omega), hbw⟩
end Go.Proofs.Ytkiobefojckocaa
/-
  THE MODEL's PARTY OF A TABLE, by its contract.
-/
namespace Go.Proofs.Ytkiobefojckocaa
open Go.RowKit

def tabP (n : Nat) (t : Nat → Nat → Bool) : PL := (allP n).filter fun q => t q.1.toNat q.2.toNat

/-- 'paOf' in the middle of its loops: the result's box is as it was made, the party's box holds the pairs so far. -/
structure OfRel (w wr : World) (n : Nat) (v : Value) (L : PL) : Prop where
  below : Below w.heap.size w wr
  res : wr.heap[w.heap.size]? = some (.cells #[.int .i64 0, .slice none 0 0] 24 (0, 0))
  box : wr.heap[w.heap.size + 1]? = some (.cells #[.int .i64 n, v] 24 (0, 0))
  own : wr.ownsRow (w.heap.size + 2) 76 2 v L.length (pcells L)
theorem lt_of_heap {w : World} {b : Nat} {o : Obj} (h : w.heap[b]? = some o) : b < w.heap.size := (Array.getElem?_eq_some_iff.1 h).1
theorem OfRel.start (w : World) (n : Nat) : OfRel w ((w.alloc (.cells #[.int .i64 0, .slice none 0 0] 24)).alloc (.cells #[.int .i64 n, .slice none 0 0] 24)) n (.slice none 0 0) [] := by
  refine ⟨by go_grown, ?_, ?_, World.ownsRow_nil _ _ _ _⟩
  · rw [Below.heap_alloc _ _ _ (by simp)]
    exact heap_alloc_new w _
  · have := heap_alloc_new (w.alloc (.cells #[.int .i64 0, .slice none 0 0] 24)) (.cells #[.int .i64 n, .slice none 0 0] 24)
    simpa using this
/-- one pair more -/
theorem OfRel.push {w wr w1 : World} {n : Nat} {v v' : Value} {L : PL} {x y : Int} {o : Obj} (h : OfRel w wr n v L) (hown : w1.ownsRow (w.heap.size + 2) 76 2 v' (L.length + 1) (pcells L ++ [.int .i64 x, .int .i64 y])) (hg : (wr.alloc o).grownBy w1 v.ownBlock) :
    OfRel w (w1.setCell ⟨w.heap.size + 1, 1, none⟩ v') n v' (L ++ [(x, y)]) := by
  have hs := lt_of_heap h.box
  have hb : ∀ k, k < w.heap.size + 2 → w1.heap[k]? = wr.heap[k]? := fun k hk => by
    rw [hg.block k (by simp; omega) (fun e => by have := (h.own.lt k e.symm).1; omega), Below.heap_alloc _ _ _ (by omega)]
  have e1 := (hb (w.heap.size + 1) (by omega)).trans h.box
  refine ⟨?_, ?_, ?_, ?_⟩
  · exact ((h.below.alloc (by omega) o).grown hg (by simp; omega) (fun k hk => by have := (h.own.lt k hk).1; omega)).setCell (p := ⟨w.heap.size + 1, 1, none⟩) (by simp) _
  · rw [heap_setCell_other _ _ _ _ (by simp)]
    exact (hb _ (by omega)).trans h.res
  · exact heap_setCell_same w1 (w.heap.size + 1) 1 _ _ v' e1
  · have e : (L ++ [(x, y)]).length = L.length + 1 := by simp
    rw [e, pcells_append]
    refine hown.kept (row := some (w.heap.size + 1)) ⟨rfl, rfl, rfl, by simp, fun k _ hk => heap_setCell_other _ _ _ _ (fun e => hk (by rw [e]))⟩ ?_
    right
    intro e
    have := (hown.lt _ e).1
    omega
/-- what the walk reads behind an append -/
theorem OfRel.kept {w wr w1 : World} {n : Nat} {v : Value} {L : PL} {o : Obj} (h : OfRel w wr n v L) (hg : (wr.alloc o).grownBy w1 v.ownBlock) :
    w1.cell? ⟨w.heap.size + 1, 1, none⟩ = some v ∧ w1.frozen? ⟨w.heap.size + 1, 1, none⟩ = false ∧ wr.heap.size < w1.heap.size ∧ w.heap.size + 1 < w1.heap.size ∧ w.heap.size < w1.heap.size := by
  have hs := lt_of_heap h.box
  have e1 : w1.heap[w.heap.size + 1]? = some (.cells #[.int .i64 n, v] 24 (0, 0)) := by
    rw [hg.block _ (by simp; omega) (fun e => by have := (h.own.lt _ e.symm).1; omega), Below.heap_alloc _ _ _ (by omega)]
    exact h.box
  have := hg.size
  simp only [World.size_alloc] at this
  exact ⟨by rw [cell_of_row _ _ _ _ _ _ e1]; rfl, frozen_of_row _ _ _ _ _ e1, by omega, by omega, by omega⟩
theorem two_cells {w : World} {g : Nat} {u v : Value} (h : w.cell? ⟨g, 0, none⟩ = some u) (h' : w.cell? ⟨g, 1, none⟩ = some v) : ∀ j x, [u, v][j]? = some x → w.cell? ((⟨g, 0, none⟩ : Addr).add j) = some x := by
  intro j x hx
  match j, hx with
  | 0, hx => simp at hx; subst hx; simpa [Addr.add] using h
  | 1, hx => simp at hx; subst hx; simpa [Addr.add] using h'
theorem two_one {u v : Value} (h : u.oneCell' = true) (h' : v.oneCell' = true) : ∀ x ∈ [u, v], x.oneCell' = true := by
  intro x hx
  simp at hx
  rcases hx with rfl | rfl
  · exact h
  · exact h'
theorem OfRel.cells {w wr : World} {n : Nat} {v : Value} {L : PL} (h : OfRel w wr n v L) : wr.cell? ⟨w.heap.size, 0, none⟩ = some (.int .i64 0) ∧ wr.cell? ⟨w.heap.size, 1, none⟩ = some (.slice none 0 0) ∧
    wr.cell? ⟨w.heap.size + 1, 0, none⟩ = some (.int .i64 n) ∧ wr.cell? ⟨w.heap.size + 1, 1, none⟩ = some v ∧ (∀ j, wr.frozen? ⟨w.heap.size, j, none⟩ = false) ∧ (∀ j, wr.frozen? ⟨w.heap.size + 1, j, none⟩ = false) :=
  ⟨by rw [cell_of_row _ _ _ _ _ _ h.res]; rfl, by rw [cell_of_row _ _ _ _ _ _ h.res]; rfl, by rw [cell_of_row _ _ _ _ _ _ h.box]; rfl, by rw [cell_of_row _ _ _ _ _ _ h.box]; rfl,
    fun j => frozen_of_row _ _ j _ _ h.res, fun j => frozen_of_row _ _ j _ _ h.box⟩

theorem filter_upTo_yes {n a b : Nat} {t : Nat → Nat → Bool} (h : a < b) (ht : t a b = true) : (upTo n a (b + 1)).filter (fun q => t q.1.toNat q.2.toNat) = (upTo n a b).filter (fun q => t q.1.toNat q.2.toNat) ++ [((a : Int), (b : Int))] := by
  rw [upTo_next h, List.filter_append]
  simp [ht]
theorem filter_upTo_no {n a b : Nat} {t : Nat → Nat → Bool} (h : a < b) (ht : t a b = false) : (upTo n a (b + 1)).filter (fun q => t q.1.toNat q.2.toNat) = (upTo n a b).filter (fun q => t q.1.toNat q.2.toNat) := by
  rw [upTo_next h, List.filter_append]
  simp [ht]
theorem upTo_length {n a b : Nat} (ha : a ≤ 12) (hb : b ≤ 13) (hn : n ≤ 12) : (upTo n a b).length ≤ 1000 := by
  unfold upTo rowP
  simp only [List.length_append, List.length_flatMap, List.length_map, List.length_range']
  have h : ∀ l : List Nat, (l.map fun a => n - (a + 1)).sum ≤ l.length * n := by
    intro l
    induction l with
    | nil => simp
    | cons x l ih => simp only [List.map_cons, List.sum_cons, List.length_cons, Nat.add_mul, Nat.one_mul]; omega
  have h1 := h (List.range a)
  rw [List.length_range] at h1
  have h2 : a * n ≤ 12 * 12 := Nat.mul_le_mul ha hn
  omega

end Go.Proofs.Ytkiobefojckocaa
/-
  A PARTY IN A BOX OF THE CALL's OWN, whose pairs are appended one by one.
-/
namespace Go.Proofs.Ytkiobefojckocaa
open Go.RowKit

/-- The worlds above w0: a box at g holds a party of n people whose pairs so far, L, lie in a row of the call's own. -/
structure BoxRel (B : Nat) (w0 wr : World) (n : Int) (g : Nat) (v : Value) (L : PL) : Prop where
  below : Below B w0 wr
  gB : B ≤ g
  box : wr.heap[g]? = some (.cells #[.int .i64 n, v] 24 (0, 0))
  own : wr.ownsRow B 76 2 v L.length (pcells L)
section
variable {B g : Nat} {w0 wr W1 w1 : World} {n : Int} {v v' : Value} {L : PL}
theorem BoxRel.lt (h : BoxRel B w0 wr n g v L) : g < wr.heap.size := lt_of_heap h.box
theorem ne_of_box (h : wr.heap[g]? = some (.cells #[.int .i64 n, v] 24 (0, 0))) {k : Nat} {xs : List Value} (ho : wr.ownsRow B 76 2 v' k xs) : v'.ownBlock ≠ some g := by
  rcases ho.2 with ⟨rfl, _⟩ | ⟨g', cap, cur, rfl, _, hh, _⟩
  · simp [Value.ownBlock]
  · intro e
    have hgb : g' = g := by simpa [Value.ownBlock] using e
    subst hgb
    rw [hh] at h
    injection h with h
    injection h with _ ht
    exact absurd ht (by decide)
theorem BoxRel.ne (h : BoxRel B w0 wr n g v L) : v.ownBlock ≠ some g := ne_of_box h.box h.own
theorem BoxRel.cells (h : BoxRel B w0 wr n g v L) : wr.cell? ⟨g, 0, none⟩ = some (.int .i64 n) ∧ wr.cell? ⟨g, 1, none⟩ = some v ∧ ∀ j, wr.frozen? ⟨g, j, none⟩ = false :=
  ⟨by rw [cell_of_row _ _ _ _ _ _ h.box]; rfl, by rw [cell_of_row _ _ _ _ _ _ h.box]; rfl, fun j => frozen_of_row _ _ j _ _ h.box⟩
/-- a world that keeps all that was -/
theorem BoxRel.kept (h : BoxRel B w0 wr n g v L) (hW : Below wr.heap.size wr W1) (hB : B ≤ wr.heap.size) : BoxRel B w0 W1 n g v L :=
  ⟨h.below.trans (hW.mono hB), h.gB, (hW.block _ h.lt).trans h.box, own_below h.own hW (Nat.le_refl _)⟩
theorem BoxRel.le (h : BoxRel B w0 wr n g v L) : B ≤ wr.heap.size := Nat.le_trans h.gB (Nat.le_of_lt h.lt)
/-- what stands behind an append -/
theorem BoxRel.grown (h : BoxRel B w0 wr n g v L) (hW : Below wr.heap.size wr W1) (hg : W1.grownBy w1 v.ownBlock) :
    w1.heap[g]? = some (.cells #[.int .i64 n, v] 24 (0, 0)) ∧ w1.cell? ⟨g, 0, none⟩ = some (.int .i64 n) ∧ w1.cell? ⟨g, 1, none⟩ = some v ∧ (∀ j, w1.frozen? ⟨g, j, none⟩ = false) ∧ Below B w0 w1 ∧ wr.heap.size ≤ w1.heap.size := by
  have hlt := h.lt
  have e : w1.heap[g]? = some (.cells #[.int .i64 n, v] 24 (0, 0)) := by
    rw [hg.block g (Nat.lt_of_lt_of_le hlt hW.size) (fun e => h.ne e.symm), hW.block g hlt]
    exact h.box
  refine ⟨e, by rw [cell_of_row _ _ _ _ _ _ e]; rfl, by rw [cell_of_row _ _ _ _ _ _ e]; rfl, fun j => frozen_of_row _ _ j _ _ e, ?_, Nat.le_trans hW.size hg.size⟩
  exact (h.below.trans (hW.mono h.le)).grown hg (Nat.le_trans h.le hW.size) (fun k hk => (h.own.lt k hk).1)
/-- one pair more -/
theorem BoxRel.push {x y : Int} (h : BoxRel B w0 wr n g v L) (hW : Below wr.heap.size wr W1) (hg : W1.grownBy w1 v.ownBlock) (hown : w1.ownsRow B 76 2 v' (L.length + 1) (pcells L ++ [.int .i64 x, .int .i64 y])) :
    BoxRel B w0 (w1.setCell ⟨g, 1, none⟩ v') n g v' (L ++ [(x, y)]) := by
  obtain ⟨e, _, _, _, hb, _⟩ := h.grown hW hg
  have hne := ne_of_box e hown
  refine ⟨hb.setCell (p := ⟨g, 1, none⟩) h.gB _, h.gB, heap_setCell_same w1 g 1 _ _ v' e, ?_⟩
  have el : (L ++ [(x, y)]).length = L.length + 1 := by simp
  rw [el, pcells_append]
  exact hown.kept (row := some g) ⟨rfl, rfl, rfl, by simp, fun k _ hk => heap_setCell_other _ _ _ _ (fun e => hk (by rw [e]))⟩ (.inr hne)
end
end Go.Proofs.Ytkiobefojckocaa
/-
  WHERE THE WAYS THROUGH A DRAWN STATEMENT MEET, for puzzles: 'g, ok := f(copies of the arguments)': the box of the result may be laid ahead of each call or behind all.
-/
namespace Go.Proofs.Ytkiobefojckocaa
open Go.RowKit

structure CutU (WC : World) (rq : Int) (rm : CL) (wx : World) (g : Nat) (T : Option Addr) (d : Nat) : Prop where
  below : Below WC.heap.size WC wx
  c0 : wx.cell? ⟨g, 0, none⟩ = some (.int .i64 rq)
  c1 : wx.cell? ⟨g, 1, none⟩ = some (.slice T rm.length d)
  own : wx.ownsRow WC.heap.size 65 3 (.slice T rm.length d) rm.length (ccells rm)
  lies : ∃ lo hi, Lies (.slice T rm.length d) lo hi ∧ WC.heap.size ≤ lo ∧ hi ≤ wx.heap.size ∧ (g < lo ∨ hi ≤ g)
  gB : WC.heap.size ≤ g
  glt : g < wx.heap.size
theorem cutU_last {WC v : World} {rq : Int} {rm : CL} {T : Option Addr} {d base : Nat} (h : Below WC.heap.size WC v) (hb : WC.heap.size ≤ base) (n : v.ownsRow base 65 3 (.slice T rm.length d) rm.length (ccells rm)) :
    CutU WC rq rm (v.alloc (Obj.cells #[.int .i64 rq, .slice T rm.length d] 55)) v.heap.size T d :=
  ⟨h.alloc h.size _, by rw [cell_of_row _ _ _ _ _ _ (heap_alloc_new v _)]; rfl, by rw [cell_of_row _ _ _ _ _ _ (heap_alloc_new v _)]; rfl, own_lower (n.alloc _) hb, ⟨base, v.heap.size, own_lies n, hb, by simp, .inr (Nat.le_refl _)⟩, h.size, by simp⟩
theorem cutU_early {WC v : World} {rq : Int} {rm : CL} {T : Option Addr} {d base G : Nat} (h : Below WC.heap.size WC v) (hG : WC.heap.size ≤ G) (hb : G < base) (n : v.ownsRow base 65 3 (.slice T rm.length d) rm.length (ccells rm))
    (Y : v.heap[G]? = some (.cells #[.int .i64 0, .slice none 0 0] 55 (0, 0))) :
    CutU WC rq rm ((v.setCell ⟨G, 0, none⟩ (.int .i64 rq)).setCell ⟨G, 1, none⟩ (.slice T rm.length d)) G T d := by
  have e := heap_setCell_same _ G 1 _ _ (.slice T rm.length d) (heap_setCell_same v G 0 _ _ (.int .i64 rq) Y)
  have hlt := lt_of_heap Y
  refine ⟨(h.setCell (p := ⟨G, 0, none⟩) hG _).setCell (p := ⟨G, 1, none⟩) hG _, by rw [cell_of_row _ _ _ _ _ _ e]; rfl, by rw [cell_of_row _ _ _ _ _ _ e]; rfl,
    own_lower (ownsRow_setCell_below (ownsRow_setCell_below n (a := ⟨G, 0, none⟩) hb _) (a := ⟨G, 1, none⟩) hb _) (by omega), ⟨base, v.heap.size, own_lies n, by omega, by simp, .inl hb⟩, hG, by simpa using hlt⟩
theorem boxU_cells {v : World} {G : Nat} (Y : v.heap[G]? = some (.cells #[.int .i64 0, .slice none 0 0] 55 (0, 0))) : v.cell? ⟨G, 0, none⟩ = some (.int .i64 0) ∧ v.cell? ⟨G, 1, none⟩ = some (.slice none 0 0) ∧ v.frozen? ⟨G, 0, none⟩ = false ∧ v.frozen? ⟨G, 1, none⟩ = false :=
  ⟨by rw [cell_of_row _ _ _ _ _ _ Y]; rfl, by rw [cell_of_row _ _ _ _ _ _ Y]; rfl, frozen_of_row _ _ _ _ _ Y, frozen_of_row _ _ _ _ _ Y⟩
end Go.Proofs.Ytkiobefojckocaa
/-
  'laws.FnExactAddClue' returns true, whatever its arguments: out of the contracts of the model's function and of the program's.
-/
namespace Go.Proofs.Ytkiobefojckocaa
open Go.RowKit

set_option maxHeartbeats 4000000 in
set_option maxRecDepth 100000 in
theorem lawAddClue_any (p0 : Int) (l0 : CL) (A0 : Option Addr) (c0 : Nat) (ka1 kb1 kc1 : Int) (W : World) (hl0 : l0.length ≤ maxLen) (hA0 : CRead W W.heap.size A0 (ccells l0)) :
    Calls Try.prog 8 #[.agg #[.int .i64 p0, .slice A0 l0.length c0], .agg #[.int .i64 ka1, .int .i64 kb1, .int .i64 kc1]] W fun e w' => e = .returned (.bool true) ∧ Below W.heap.size W w' := by
  have hone : (0 : Int) ≤ 1 ∧ (1 : Int) ≤ 16777216 := by omega
  by_cases hz0 : szI (1048576) l0.length < 0
  · go_enter Try.func8, Try.ntmps8
    go_wp2_with fail
    refine (szPuzzle_any _ _ _ _ _ hl0 (by omega) (by omega) _).mono ?_
    rintro e w1 ⟨rfl, hb1⟩
    simp only [World.size_alloc] at hb1
    have g1 : Below W.heap.size W w1 := Below.trans (b := _) (by go_grown) (hb1.mono (by omega))
    have s1 := hb1.size
    simp only [World.size_alloc] at s1
    have f1_0 : w1.cell? ⟨W.heap.size, 0, none⟩ = some (.int .i64 p0) := carry hb1 (by simp) (by omega)
    have f1_1 : w1.cell? ⟨W.heap.size, 1, none⟩ = some (.slice A0 l0.length c0) := carry hb1 (by simp) (by omega)
    have f1_2 : w1.cell? ⟨W.heap.size + 1, 0, none⟩ = some (.int .i64 ka1) := carry hb1 (by simp) (by omega)
    have f1_3 : w1.cell? ⟨W.heap.size + 1, 1, none⟩ = some (.int .i64 kb1) := carry hb1 (by simp) (by omega)
    have f1_4 : w1.cell? ⟨W.heap.size + 1, 2, none⟩ = some (.int .i64 kc1) := carry hb1 (by simp) (by omega)
    have k1 : Below W.heap.size W w1 := g1
    go_wp2
    go_ret
    exact ⟨rfl, k1⟩
  have hn0 : l0.length ≤ 1048576 := by have h1 := szI_len _ _ hz0; have h2 := szI_hi (1048576) l0.length (by omega); omega
  have hz0' : 0 ≤ szI (1048576) l0.length := by omega
  have hz0'' : szI (1048576) l0.length ≤ 1048576 := by have h2 := szI_hi (1048576) l0.length (by omega); omega
  obtain ⟨⟨rq, rm, rok⟩, hres⟩ : ∃ r, resAddClue p0 l0 ka1 kb1 kc1 = r := ⟨_, rfl⟩
  have hrn : rm.length ≤ 1048576 := by have h := resAddClue_len p0 l0 ka1 kb1 kc1; rw [hres] at h; exact h
  have hrl : rm.length ≤ maxLen := by unfold maxLen; omega
  have Hres := Lib.hid hres
  clear hres
  go_enter Try.func8, Try.ntmps8
  go_wp2_with fail
  refine (szPuzzle_any _ _ _ _ _ hl0 (by omega) (by omega) _).mono ?_
  rintro e w1 ⟨rfl, hb1⟩
  simp only [World.size_alloc] at hb1
  have g1 : Below W.heap.size W w1 := Below.trans (b := _) (by go_grown) (hb1.mono (by omega))
  have s1 := hb1.size
  simp only [World.size_alloc] at s1
  have f1_0 : w1.cell? ⟨W.heap.size, 0, none⟩ = some (.int .i64 p0) := carry hb1 (by simp) (by omega)
  have f1_1 : w1.cell? ⟨W.heap.size, 1, none⟩ = some (.slice A0 l0.length c0) := carry hb1 (by simp) (by omega)
  have f1_2 : w1.cell? ⟨W.heap.size + 1, 0, none⟩ = some (.int .i64 ka1) := carry hb1 (by simp) (by omega)
  have f1_3 : w1.cell? ⟨W.heap.size + 1, 1, none⟩ = some (.int .i64 kb1) := carry hb1 (by simp) (by omega)
  have f1_4 : w1.cell? ⟨W.heap.size + 1, 2, none⟩ = some (.int .i64 kc1) := carry hb1 (by simp) (by omega)
  have k1 : Below W.heap.size W w1 := g1
  go_wp2_with fail
  go_cut [6, 7] (fun s6 s7 wx => ∃ (g6 : Nat) (T : Option Addr) (d : Nat), s6 = .pointer (some ⟨g6, 0, none⟩) ∧ s7 = .bool rok ∧ CutU w1 rq rm wx g6 T d)
  case first =>
    have kS : ∀ X : World, Below w1.heap.size w1 X → X.cell? ⟨W.heap.size, 0, none⟩ = some (.int .i64 p0) ∧ X.cell? ⟨W.heap.size, 1, none⟩ = some (.slice A0 l0.length c0) ∧ X.cell? ⟨W.heap.size + 1, 0, none⟩ = some (.int .i64 ka1) ∧ X.cell? ⟨W.heap.size + 1, 1, none⟩ = some (.int .i64 kb1) ∧ X.cell? ⟨W.heap.size + 1, 2, none⟩ = some (.int .i64 kc1) := fun X hX => ⟨carry hX f1_0 (by omega), carry hX f1_1 (by omega), carry hX f1_2 (by omega), carry hX f1_3 (by omega), carry hX f1_4 (by omega)⟩
    have KA : Below W.heap.size W (w1.drew.alloc (Obj.cells #[.int .i64 0, .slice none 0 0] 55)) := k1.drew.alloc k1.size _
    have KD : Below w1.heap.size w1 w1.drew := (Below.refl _ _).drew
    have KE : Below w1.heap.size w1 (w1.drew.alloc (Obj.cells #[.int .i64 0, .slice none 0 0] 55)) := KD.alloc (Nat.le_refl _) _
    have KD' : ∀ v, Below w1.drew.heap.size w1.drew v → Below w1.heap.size w1 v := fun v h => KD.trans h
    have KE' : ∀ v, Below (w1.drew.alloc (Obj.cells #[.int .i64 0, .slice none 0 0] 55)).heap.size (w1.drew.alloc (Obj.cells #[.int .i64 0, .slice none 0 0] 55)) v → Below w1.heap.size w1 v := fun v h => KE.trans (h.mono (by rw [World.size_alloc]; exact Nat.le_succ _))
    have N0 : (w1.drew.alloc (Obj.cells #[.int .i64 0, .slice none 0 0] 55)).heap[w1.heap.size]? = some (Obj.cells #[.int .i64 0, .slice none 0 0] 55 (0, 0)) := heap_alloc_new w1.drew _
    have rdA : CRead w1.drew w1.drew.heap.size A0 (ccells l0) := (hA0.below k1.drew (Nat.le_refl _)).more k1.size
    have rdB : CRead (w1.drew.alloc (Obj.cells #[.int .i64 0, .slice none 0 0] 55)) (w1.drew.alloc (Obj.cells #[.int .i64 0, .slice none 0 0] 55)).heap.size A0 (ccells l0) := (hA0.below KA (Nat.le_refl _)).more KA.size
    go_region_held3 (fun w' => w'.cell? ⟨W.heap.size, 0, none⟩ = some (.int .i64 p0) ∧ w'.cell? ⟨W.heap.size, 1, none⟩ = some (.slice A0 l0.length c0) ∧ w'.cell? ⟨W.heap.size + 1, 0, none⟩ = some (.int .i64 ka1) ∧ w'.cell? ⟨W.heap.size + 1, 1, none⟩ = some (.int .i64 kb1) ∧ w'.cell? ⟨W.heap.size + 1, 2, none⟩ = some (.int .i64 kc1)) (first | exact kS _ KD | exact kS _ KE | exact kS _ zg1 | exact kS _ (zg1.alloc z1s _) | exact kS _ zg2 | exact kS _ (zg2.alloc z2s _) | exact kS _ zg3 | exact kS _ (zg3.alloc z3s _) | exact kS _ ((zg3.setCell (p := ⟨_, 0, none⟩) (by first | exact Nat.le_refl _ | exact z1s | exact z2s) _).setCell (p := ⟨_, 1, none⟩) (by first | exact Nat.le_refl _ | exact z1s | exact z2s) _)) ((first | ((have gg := zg2); go_at_call 38; refine (specAddClue_any p0 l0 _ _ ka1 kb1 kc1 _ hn0 (by first | exact CRead.of_own ox | exact CRead.of_own (ox.alloc _)) (by first | exact own_zeroC ox | exact own_zeroC (ox.alloc _))).mono ?_; rw [Hres.out]; rintro e v3 ⟨T3, d3, rfl, n3, hb3⟩; have zg3 : Below w1.heap.size w1 v3 := (by first | exact zg2.trans (hb3.mono z2s) | exact (zg2.alloc z2s _).trans (hb3.mono (by simp only [World.size_alloc]; omega))); (first | (have Y := (hb3.block _ (lt_of_heap Y)).trans Y) | (have Y := (hb3.block v2.heap.size (by simp)).trans (heap_alloc_new v2 (Obj.cells #[.int .i64 0, .slice none 0 0] 55))) | skip); have z3s := zg3.size; (first | (have YY := boxU_cells Y; obtain ⟨Y0, Y1, Y2, Y3⟩ := YY) | skip)) | (have gg := zg1; clear gg; go_at_call 39; refine (toClue_any ka1 kb1 kc1 _).mono ?_; rintro e v2 ⟨rfl, hb2⟩; have zg2 : Below w1.heap.size w1 v2 := (by first | exact zg1.trans (hb2.mono z1s) | exact (zg1.alloc z1s _).trans (hb2.mono (by simp only [World.size_alloc]; omega))); (first | (have ox := own_below n1 hb2 (Nat.le_refl _)) | (have ox := own_below (n1.alloc (Obj.cells #[.int .i64 0, .slice none 0 0] 55)) hb2 (Nat.le_refl _))); (first | (have Y := (hb2.block _ (lt_of_heap Y)).trans Y) | (have Y := (hb2.block v1.heap.size (by simp)).trans (heap_alloc_new v1 (Obj.cells #[.int .i64 0, .slice none 0 0] 55))) | skip); have z2s := zg2.size; (first | (have zY2 := lt_of_heap Y) | skip)) | ((fail_if_success (have gg := zg1)); go_at_call 33; refine (toPuzzle_any p0 l0 A0 c0 w1.drew hn0 rdA).mono ?_; rintro e v1 ⟨T1, d1, rfl, n1, hb1⟩; have zg1 : Below w1.heap.size w1 v1 := KD' _ hb1; have z1s := zg1.size) | ((fail_if_success (have gg := zg1)); go_at_call 33; refine (toPuzzle_any p0 l0 A0 c0 (w1.drew.alloc (Obj.cells #[.int .i64 0, .slice none 0 0] 55)) hn0 rdB).mono ?_; rintro e v1 ⟨T1, d1, rfl, n1, hb1⟩; have zg1 : Below w1.heap.size w1 v1 := KE' _ hb1; have Y := (hb1.block w1.heap.size (by simp)).trans N0; have z1s := zg1.size)))
    all_goals (go_wp2_with fail; go_meet; exact ⟨_, T3, d3, rfl, rfl, by first | exact cutU_last zg3 (by omega) n3 | exact cutU_early zg3 (by omega) (by omega) n3 Y | exact cutU_early zg3 (by omega) (by simp only [World.size_alloc]; omega) n3 Y⟩)
  case rest =>
    obtain ⟨b2, T2, d2, rfl, rfl, hcut⟩ := hcut
    obtain ⟨w2, hw2⟩ : ∃ w', w' = wc := ⟨_, rfl⟩
    subst hw2
    obtain ⟨g2, e2_0, e2_1, n2, ⟨lo2, hi2, r2, la2, lb2, lc2⟩, lg2, lt2⟩ := hcut
    have s2 := g2.size
    have f2_0 := carry g2 f1_0 (by omega)
    have f2_1 := carry g2 f1_1 (by omega)
    have f2_2 := carry g2 f1_2 (by omega)
    have f2_3 := carry g2 f1_3 (by omega)
    have f2_4 := carry g2 f1_4 (by omega)
    have k2 := k1.trans (g2.mono k1.size)
    clear f1_0 f1_1 f1_2 f1_3 f1_4
    go_wp2_with fail
    refine (toPuzzle_any p0 l0 A0 c0 _ hn0 ((hA0.below k2 (Nat.le_refl _)).more k2.size)).mono ?_
    rintro e w3 ⟨T3, d3, rfl, n3, hb3⟩
    have g3 : Below w2.heap.size w2 w3 := hb3
    have s3 := hb3.size
    have f3_0 := carry g3 f2_0 (by omega)
    have f3_1 := carry g3 f2_1 (by omega)
    have f3_2 := carry g3 f2_2 (by omega)
    have f3_3 := carry g3 f2_3 (by omega)
    have f3_4 := carry g3 f2_4 (by omega)
    have f3_5 := carry g3 e2_0 (by omega)
    have f3_6 := carry g3 e2_1 (by omega)
    have o3_0 := own_below n2 g3 (Nat.le_refl _)
    have k3 := k2.trans (g3.mono k2.size)
    clear f2_0 f2_1 f2_2 f2_3 f2_4 e2_0 e2_1 n2
    have r3 : Lies (.slice T3 l0.length d3) (w2.heap.size) w3.heap.size := own_lies n3
    have q4_0 : (w3.alloc (Obj.cells #[.int .i64 p0, .slice T3 l0.length d3] 55)).cell? ⟨W.heap.size, 0, none⟩ = some (.int .i64 p0) := (World.cell?_alloc_lt _ _ _ (show W.heap.size < w3.heap.size by omega)).trans f3_0
    have q4_1 : (w3.alloc (Obj.cells #[.int .i64 p0, .slice T3 l0.length d3] 55)).cell? ⟨W.heap.size, 1, none⟩ = some (.slice A0 l0.length c0) := (World.cell?_alloc_lt _ _ _ (show W.heap.size < w3.heap.size by omega)).trans f3_1
    have q4_2 : (w3.alloc (Obj.cells #[.int .i64 p0, .slice T3 l0.length d3] 55)).cell? ⟨W.heap.size + 1, 0, none⟩ = some (.int .i64 ka1) := (World.cell?_alloc_lt _ _ _ (show W.heap.size + 1 < w3.heap.size by omega)).trans f3_2
    have q4_3 : (w3.alloc (Obj.cells #[.int .i64 p0, .slice T3 l0.length d3] 55)).cell? ⟨W.heap.size + 1, 1, none⟩ = some (.int .i64 kb1) := (World.cell?_alloc_lt _ _ _ (show W.heap.size + 1 < w3.heap.size by omega)).trans f3_3
    have q4_4 : (w3.alloc (Obj.cells #[.int .i64 p0, .slice T3 l0.length d3] 55)).cell? ⟨W.heap.size + 1, 2, none⟩ = some (.int .i64 kc1) := (World.cell?_alloc_lt _ _ _ (show W.heap.size + 1 < w3.heap.size by omega)).trans f3_4
    have q4_5 : (w3.alloc (Obj.cells #[.int .i64 p0, .slice T3 l0.length d3] 55)).cell? ⟨b2, 0, none⟩ = some (.int .i64 rq) := (World.cell?_alloc_lt _ _ _ (show b2 < w3.heap.size by omega)).trans f3_5
    have q4_6 : (w3.alloc (Obj.cells #[.int .i64 p0, .slice T3 l0.length d3] 55)).cell? ⟨b2, 1, none⟩ = some (.slice T2 rm.length d2) := (World.cell?_alloc_lt _ _ _ (show b2 < w3.heap.size by omega)).trans f3_6
    go_wp2
    obtain ⟨w5, hw5⟩ : ∃ x, (w3.alloc (Obj.cells #[.int .i64 p0, .slice T3 l0.length d3] 55)) = x := ⟨_, rfl⟩
    rw [hw5]
    have g5 : Below w3.heap.size w3 w5 := by rw [← hw5]; go_grown
    have s5 : w3.heap.size < w5.heap.size := by rw [← hw5]; simp
    have f5_0 := carry g5 f3_0 (by omega)
    have f5_1 := carry g5 f3_1 (by omega)
    have f5_2 := carry g5 f3_2 (by omega)
    have f5_3 := carry g5 f3_3 (by omega)
    have f5_4 := carry g5 f3_4 (by omega)
    have f5_5 := carry g5 f3_5 (by omega)
    have f5_6 := carry g5 f3_6 (by omega)
    have f5_7 : w5.cell? ⟨w3.heap.size, 0, none⟩ = some (.int .i64 p0) := by rw [← hw5]; simp
    have f5_8 : w5.cell? ⟨w3.heap.size, 1, none⟩ = some (.slice T3 l0.length d3) := by rw [← hw5]; simp
    have o5_0 := own_below o3_0 g5 (Nat.le_refl _)
    have o5_1 := own_below n3 g5 (Nat.le_refl _)
    have k5 := k3.trans (g5.mono k3.size)
    clear f3_0 f3_1 f3_2 f3_3 f3_4 f3_5 f3_6 o3_0 n3 q4_0 q4_1 q4_2 q4_3 q4_4 q4_5 q4_6 hw5
    go_wp2_with fail
    go_cut [9, 10] (fun s6 s7 wx => ∃ (g6 : Nat) (T : Option Addr) (d : Nat), s6 = .pointer (some ⟨g6, 0, none⟩) ∧ s7 = .bool rok ∧ CutU w5 rq rm wx g6 T d)
    case first =>
      have kS : ∀ X : World, Below w5.heap.size w5 X → X.cell? ⟨W.heap.size + 1, 0, none⟩ = some (.int .i64 ka1) ∧ X.cell? ⟨W.heap.size + 1, 1, none⟩ = some (.int .i64 kb1) ∧ X.cell? ⟨W.heap.size + 1, 2, none⟩ = some (.int .i64 kc1) ∧ X.cell? ⟨w3.heap.size, 0, none⟩ = some (.int .i64 p0) ∧ X.cell? ⟨w3.heap.size, 1, none⟩ = some (.slice T3 l0.length d3) := fun X hX => ⟨carry hX f5_2 (by omega), carry hX f5_3 (by omega), carry hX f5_4 (by omega), carry hX f5_7 (by omega), carry hX f5_8 (by omega)⟩
      have KA : Below W.heap.size W (w5.drew.alloc (Obj.cells #[.int .i64 0, .slice none 0 0] 55)) := k5.drew.alloc k5.size _
      have KD : Below w5.heap.size w5 w5.drew := (Below.refl _ _).drew
      have KE : Below w5.heap.size w5 (w5.drew.alloc (Obj.cells #[.int .i64 0, .slice none 0 0] 55)) := KD.alloc (Nat.le_refl _) _
      have KD' : ∀ v, Below w5.drew.heap.size w5.drew v → Below w5.heap.size w5 v := fun v h => KD.trans h
      have KE' : ∀ v, Below (w5.drew.alloc (Obj.cells #[.int .i64 0, .slice none 0 0] 55)).heap.size (w5.drew.alloc (Obj.cells #[.int .i64 0, .slice none 0 0] 55)) v → Below w5.heap.size w5 v := fun v h => KE.trans (h.mono (by rw [World.size_alloc]; exact Nat.le_succ _))
      have N0 : (w5.drew.alloc (Obj.cells #[.int .i64 0, .slice none 0 0] 55)).heap[w5.heap.size]? = some (Obj.cells #[.int .i64 0, .slice none 0 0] 55 (0, 0)) := heap_alloc_new w5.drew _
      clear f5_0 f5_1 f5_5 f5_6 o5_0
      go_region_held3 (fun w' => w'.cell? ⟨W.heap.size + 1, 0, none⟩ = some (.int .i64 ka1) ∧ w'.cell? ⟨W.heap.size + 1, 1, none⟩ = some (.int .i64 kb1) ∧ w'.cell? ⟨W.heap.size + 1, 2, none⟩ = some (.int .i64 kc1) ∧ w'.cell? ⟨w3.heap.size, 0, none⟩ = some (.int .i64 p0) ∧ w'.cell? ⟨w3.heap.size, 1, none⟩ = some (.slice T3 l0.length d3)) (first | exact kS _ KD | exact kS _ KE | exact kS _ zg1 | exact kS _ (zg1.alloc z1s _) | exact kS _ zg2 | exact kS _ (zg2.alloc z2s _) | exact kS _ ((zg2.setCell (p := ⟨_, 0, none⟩) (by first | exact Nat.le_refl _ | exact z1s | exact z2s) _).setCell (p := ⟨_, 1, none⟩) (by first | exact Nat.le_refl _ | exact z1s | exact z2s) _)) ((first | ((have gg := zg1); go_at_call 40; refine (implAddClue_any p0 l0 _ _ ka1 kb1 kc1 _ hn0 (by first | exact CRead.of_own ox | exact CRead.of_own (ox.alloc _)) (by first | exact own_zeroC ox | exact own_zeroC (ox.alloc _)) (by first | exact own_cap ox | exact own_cap (ox.alloc _))).mono ?_; rw [Hres.out]; rintro e v2 ⟨T3, d3, rfl, n3, hb2⟩; have zg2 : Below w5.heap.size w5 v2 := (by first | exact zg1.trans (hb2.mono z1s) | exact (zg1.alloc z1s _).trans (hb2.mono (by simp only [World.size_alloc]; omega))); (first | (have Y := (hb2.block _ (lt_of_heap Y)).trans Y) | (have Y := (hb2.block v1.heap.size (by simp)).trans (heap_alloc_new v1 (Obj.cells #[.int .i64 0, .slice none 0 0] 55))) | skip); have z2s := zg2.size; (first | (have YY := boxU_cells Y; obtain ⟨Y0, Y1, Y2, Y3⟩ := YY) | skip)) | ((fail_if_success (have gg := zg1)); go_at_call 39; refine (toClue_any ka1 kb1 kc1 w5.drew).mono ?_; rintro e v1 ⟨rfl, hb1⟩; have zg1 : Below w5.heap.size w5 v1 := KD' _ hb1; have ox := own_below o5_1 zg1 (Nat.le_refl _); have z1s := zg1.size) | ((fail_if_success (have gg := zg1)); go_at_call 39; refine (toClue_any ka1 kb1 kc1 (w5.drew.alloc (Obj.cells #[.int .i64 0, .slice none 0 0] 55))).mono ?_; rintro e v1 ⟨rfl, hb1⟩; have zg1 : Below w5.heap.size w5 v1 := KE' _ hb1; have ox := own_below o5_1 zg1 (Nat.le_refl _); have Y := (hb1.block w5.heap.size (by simp)).trans N0; have z1s := zg1.size; have zY2 := lt_of_heap Y)))
      all_goals (go_wp2_with fail; go_meet; exact ⟨_, T3, d3, rfl, rfl, by first | exact cutU_last zg2 (by omega) n3 | exact cutU_early zg2 (by omega) (by omega) n3 Y | exact cutU_early zg2 (by omega) (by simp only [World.size_alloc]; omega) n3 Y⟩)
    case rest =>
      obtain ⟨b6, T6, d6, rfl, rfl, hcut⟩ := hcut
      obtain ⟨w6, hw6⟩ : ∃ w', w' = wc := ⟨_, rfl⟩
      subst hw6
      obtain ⟨g6, e6_0, e6_1, n6, ⟨lo6, hi6, r6, la6, lb6, lc6⟩, lg6, lt6⟩ := hcut
      have s6 := g6.size
      have f6_0 := carry g6 f5_0 (by omega)
      have f6_1 := carry g6 f5_1 (by omega)
      have f6_2 := carry g6 f5_2 (by omega)
      have f6_3 := carry g6 f5_3 (by omega)
      have f6_4 := carry g6 f5_4 (by omega)
      have f6_5 := carry g6 f5_5 (by omega)
      have f6_6 := carry g6 f5_6 (by omega)
      have f6_7 := carry g6 f5_7 (by omega)
      have f6_8 := carry g6 f5_8 (by omega)
      have o6_0 := own_below o5_0 g6 (Nat.le_refl _)
      have o6_1 := own_below o5_1 g6 (Nat.le_refl _)
      have k6 := k5.trans (g6.mono k5.size)
      clear f5_0 f5_1 f5_2 f5_3 f5_4 f5_5 f5_6 f5_7 f5_8 o5_0 o5_1
      go_wp2_with fail
      refine (eqPuzzle_any rq rq rm rm _ _ _ _ _ hrl hrl (CRead.of_own n6) (CRead.of_own o6_0)).mono ?_
      rw [decide_eq_true ⟨rfl, rfl⟩]
      rintro e w7 ⟨rfl, hb7⟩
      have g7 : Below w6.heap.size w6 w7 := hb7
      have s7 := hb7.size
      have f7_0 := carry g7 f6_0 (by omega)
      have f7_1 := carry g7 f6_1 (by omega)
      have f7_2 := carry g7 f6_2 (by omega)
      have f7_3 := carry g7 f6_3 (by omega)
      have f7_4 := carry g7 f6_4 (by omega)
      have f7_5 := carry g7 f6_5 (by omega)
      have f7_6 := carry g7 f6_6 (by omega)
      have f7_7 := carry g7 f6_7 (by omega)
      have f7_8 := carry g7 f6_8 (by omega)
      have f7_9 := carry g7 e6_0 (by omega)
      have f7_10 := carry g7 e6_1 (by omega)
      have o7_0 := own_below o6_0 g7 (Nat.le_refl _)
      have o7_1 := own_below o6_1 g7 (Nat.le_refl _)
      have o7_2 := own_below n6 g7 (Nat.le_refl _)
      have k7 := k6.trans (g7.mono k6.size)
      clear f6_0 f6_1 f6_2 f6_3 f6_4 f6_5 f6_6 f6_7 f6_8 e6_0 e6_1 o6_0 o6_1 n6
      go_wp2
      go_region_held3 (fun w' => w'.cell? ⟨W.heap.size, 0, none⟩ = some (.int .i64 p0) ∧ w'.cell? ⟨W.heap.size, 1, none⟩ = some (.slice A0 l0.length c0) ∧ w'.cell? ⟨w3.heap.size, 0, none⟩ = some (.int .i64 p0) ∧ w'.cell? ⟨w3.heap.size, 1, none⟩ = some (.slice T3 l0.length d3) ∧ w'.cell? ⟨W.heap.size + 1, 0, none⟩ = some (.int .i64 ka1) ∧ w'.cell? ⟨W.heap.size + 1, 1, none⟩ = some (.int .i64 kb1) ∧ w'.cell? ⟨W.heap.size + 1, 2, none⟩ = some (.int .i64 kc1) ∧ w'.cell? ⟨b2, 0, none⟩ = some (.int .i64 rq) ∧ w'.cell? ⟨b2, 1, none⟩ = some (.slice T2 rm.length d2) ∧ w'.cell? ⟨b6, 0, none⟩ = some (.int .i64 rq) ∧ w'.cell? ⟨b6, 1, none⟩ = some (.slice T6 rm.length d6)) (first | exact ⟨f7_0, f7_1, f7_7, f7_8, f7_2, f7_3, f7_4, f7_5, f7_6, f7_9, f7_10⟩ | exact ⟨f8_0, f8_1, f8_2, f8_3, f8_4, f8_5, f8_6, f8_7, f8_8, f8_9, f8_10⟩ | exact ⟨f9_0, f9_1, f9_2, f9_3, f9_4, f9_5, f9_6, f9_7, f9_8, f9_9, f9_10⟩) ((first | (go_at_call 33; refine (toPuzzle_any p0 l0 A0 c0 _ hn0 ((hA0.below k7.drew (Nat.le_refl _)).more k7.size)).mono ?_; rintro e w8 ⟨T8, d8, rfl, n8, hb8⟩; have g8 : Below w7.heap.size w7 w8 := (Below.refl _ _).drew.trans hb8; have s8 := g8.size; have f8_0 := carry g8 f7_0 (by omega); have f8_1 := carry g8 f7_1 (by omega); have f8_2 := carry g8 f7_7 (by omega); have f8_3 := carry g8 f7_8 (by omega); have f8_4 := carry g8 f7_2 (by omega); have f8_5 := carry g8 f7_3 (by omega); have f8_6 := carry g8 f7_4 (by omega); have f8_7 := carry g8 f7_5 (by omega); have f8_8 := carry g8 f7_6 (by omega); have f8_9 := carry g8 f7_9 (by omega); have f8_10 := carry g8 f7_10 (by omega); have o8_0 := own_below o7_0 g8 (Nat.le_refl _); have o8_1 := own_below o7_1 g8 (Nat.le_refl _); have o8_2 := own_below o7_2 g8 (Nat.le_refl _); have k8 := k7.trans (g8.mono k7.size)) | (go_at_call 35; refine (eqPuzzle_any p0 p0 l0 l0 _ _ _ _ _ hl0 hl0 (CRead.of_own o8_1) (CRead.of_own n8)).mono ?_; rw [decide_eq_true ⟨rfl, rfl⟩]; rintro e w9 ⟨rfl, hb9⟩; have g9 : Below w8.heap.size w8 w9 := hb9; have s9 := g9.size; have f9_0 := carry g9 f8_0 (by omega); have f9_1 := carry g9 f8_1 (by omega); have f9_2 := carry g9 f8_2 (by omega); have f9_3 := carry g9 f8_3 (by omega); have f9_4 := carry g9 f8_4 (by omega); have f9_5 := carry g9 f8_5 (by omega); have f9_6 := carry g9 f8_6 (by omega); have f9_7 := carry g9 f8_7 (by omega); have f9_8 := carry g9 f8_8 (by omega); have f9_9 := carry g9 f8_9 (by omega); have f9_10 := carry g9 f8_10 (by omega); have o9_0 := own_below o8_0 g9 (Nat.le_refl _); have o9_1 := own_below o8_1 g9 (Nat.le_refl _); have o9_2 := own_below o8_2 g9 (Nat.le_refl _); have k9 := k8.trans (g9.mono k8.size))))
      clear f7_0 f7_1 f7_2 f7_3 f7_4 f7_5 f7_6 f7_7 f7_8 f7_9 f7_10 o7_0 o7_1 o7_2 f8_0 f8_1 f8_2 f8_3 f8_4 f8_5 f8_6 f8_7 f8_8 f8_9 f8_10 o8_0 o8_1 o8_2 n8
      go_wp2_with fail
      refine (markPuzzle_any p0 l0 _ _ _ (1) _ _ rfl hn0 (by omega) o9_1).mono ?_
      rintro e w10 ⟨rfl, n10, hg10⟩
      have s10 := hg10.size
      have f10_0 := carryG hg10 r3 f9_0 (by omega)
      have f10_1 := carryG hg10 r3 f9_1 (by omega)
      have f10_2 := carryG hg10 r3 f9_2 (by omega)
      have f10_3 := carryG hg10 r3 f9_3 (by omega)
      have f10_4 := carryG hg10 r3 f9_4 (by omega)
      have f10_5 := carryG hg10 r3 f9_5 (by omega)
      have f10_6 := carryG hg10 r3 f9_6 (by omega)
      have f10_7 := carryG hg10 r3 f9_7 (by omega)
      have f10_8 := carryG hg10 r3 f9_8 (by omega)
      have f10_9 := carryG hg10 r3 f9_9 (by omega)
      have f10_10 := carryG hg10 r3 f9_10 (by omega)
      have o10_0 := keptG hg10 r3 o9_0 r2 (by omega)
      have o10_2 := keptG hg10 r3 o9_2 r6 (by omega)
      have k10 := belowG k9 hg10 r3 k9.size (by omega)
      clear f9_0 f9_1 f9_2 f9_3 f9_4 f9_5 f9_6 f9_7 f9_8 f9_9 f9_10 o9_0 o9_1 o9_2
      have hmk : ¬ (1 + 3 * (l0.length : Int) < 0) := by omega
      go_wp2_with fail
      refine (eqPuzzle_any rq rq rm rm _ _ _ _ _ hrl hrl (CRead.of_own o10_2) (CRead.of_own o10_0)).mono ?_
      rw [decide_eq_true ⟨rfl, rfl⟩]
      rintro e w11 ⟨rfl, hb11⟩
      have g11 : Below w10.heap.size w10 w11 := hb11
      have s11 := hb11.size
      have f11_0 := carry g11 f10_0 (by omega)
      have f11_1 := carry g11 f10_1 (by omega)
      have f11_2 := carry g11 f10_2 (by omega)
      have f11_3 := carry g11 f10_3 (by omega)
      have f11_4 := carry g11 f10_4 (by omega)
      have f11_5 := carry g11 f10_5 (by omega)
      have f11_6 := carry g11 f10_6 (by omega)
      have f11_7 := carry g11 f10_7 (by omega)
      have f11_8 := carry g11 f10_8 (by omega)
      have f11_9 := carry g11 f10_9 (by omega)
      have f11_10 := carry g11 f10_10 (by omega)
      have o11_0 := own_below o10_0 g11 (Nat.le_refl _)
      have o11_1 := own_below n10 g11 (Nat.le_refl _)
      have o11_2 := own_below o10_2 g11 (Nat.le_refl _)
      have k11 := k10.trans (g11.mono k10.size)
      clear f10_0 f10_1 f10_2 f10_3 f10_4 f10_5 f10_6 f10_7 f10_8 f10_9 f10_10 o10_0 n10 o10_2
      clear o11_1 r3
      go_wp2_with fail
      refine (markPuzzle_any rq rm _ _ _ 1 _ _ rfl hrn hone o11_2).mono ?_
      rintro e w12 ⟨rfl, n12, hg12⟩
      have s12 := hg12.size
      have f12_0 := carryG hg12 r6 f11_0 (by omega)
      have f12_1 := carryG hg12 r6 f11_1 (by omega)
      have f12_2 := carryG hg12 r6 f11_2 (by omega)
      have f12_3 := carryG hg12 r6 f11_3 (by omega)
      have f12_4 := carryG hg12 r6 f11_4 (by omega)
      have f12_5 := carryG hg12 r6 f11_5 (by omega)
      have f12_6 := carryG hg12 r6 f11_6 (by omega)
      have f12_7 := carryG hg12 r6 f11_7 (by omega)
      have f12_8 := carryG hg12 r6 f11_8 (by omega)
      have f12_9 := carryG hg12 r6 f11_9 (by omega)
      have f12_10 := carryG hg12 r6 f11_10 (by omega)
      have o12_0 := keptG hg12 r6 o11_0 r2 (by omega)
      have k12 := belowG k11 hg12 r6 k11.size (by omega)
      clear f11_0 f11_1 f11_2 f11_3 f11_4 f11_5 f11_6 f11_7 f11_8 f11_9 f11_10 o11_0 o11_2
      have hmr : ¬ (1 + 3 * (rm.length : Int) < 0) := by omega
      go_wp2_with fail
      refine (heldPuzzle_any _ _ _ _ 1 _ hrn hone (CRead.of_own n12)).mono ?_
      rintro e w13 ⟨rfl, hb13⟩
      have g13 : Below w12.heap.size w12 w13 := hb13
      have s13 := hb13.size
      have f13_0 := carry g13 f12_0 (by omega)
      have f13_1 := carry g13 f12_1 (by omega)
      have f13_2 := carry g13 f12_2 (by omega)
      have f13_3 := carry g13 f12_3 (by omega)
      have f13_4 := carry g13 f12_4 (by omega)
      have f13_5 := carry g13 f12_5 (by omega)
      have f13_6 := carry g13 f12_6 (by omega)
      have f13_7 := carry g13 f12_7 (by omega)
      have f13_8 := carry g13 f12_8 (by omega)
      have f13_9 := carry g13 f12_9 (by omega)
      have f13_10 := carry g13 f12_10 (by omega)
      have o13_0 := own_below o12_0 g13 (Nat.le_refl _)
      have o13_1 := own_below n12 g13 (Nat.le_refl _)
      have k13 := k12.trans (g13.mono k12.size)
      clear f12_0 f12_1 f12_2 f12_3 f12_4 f12_5 f12_6 f12_7 f12_8 f12_9 f12_10 o12_0 n12
      go_wp2_with fail
      go_cut [14, 15] (fun s6 s7 wx => ∃ (g6 : Nat) (T : Option Addr) (d : Nat), s6 = .pointer (some ⟨g6, 0, none⟩) ∧ s7 = .bool rok ∧ CutU w13 rq rm wx g6 T d)
      case first =>
        have kS : ∀ X : World, Below w13.heap.size w13 X → X.cell? ⟨W.heap.size, 0, none⟩ = some (.int .i64 p0) ∧ X.cell? ⟨W.heap.size, 1, none⟩ = some (.slice A0 l0.length c0) ∧ X.cell? ⟨W.heap.size + 1, 0, none⟩ = some (.int .i64 ka1) ∧ X.cell? ⟨W.heap.size + 1, 1, none⟩ = some (.int .i64 kb1) ∧ X.cell? ⟨W.heap.size + 1, 2, none⟩ = some (.int .i64 kc1) := fun X hX => ⟨carry hX f13_0 (by omega), carry hX f13_1 (by omega), carry hX f13_4 (by omega), carry hX f13_5 (by omega), carry hX f13_6 (by omega)⟩
        have KA : Below W.heap.size W (w13.drew.alloc (Obj.cells #[.int .i64 0, .slice none 0 0] 55)) := k13.drew.alloc k13.size _
        have KD : Below w13.heap.size w13 w13.drew := (Below.refl _ _).drew
        have KE : Below w13.heap.size w13 (w13.drew.alloc (Obj.cells #[.int .i64 0, .slice none 0 0] 55)) := KD.alloc (Nat.le_refl _) _
        have KD' : ∀ v, Below w13.drew.heap.size w13.drew v → Below w13.heap.size w13 v := fun v h => KD.trans h
        have KE' : ∀ v, Below (w13.drew.alloc (Obj.cells #[.int .i64 0, .slice none 0 0] 55)).heap.size (w13.drew.alloc (Obj.cells #[.int .i64 0, .slice none 0 0] 55)) v → Below w13.heap.size w13 v := fun v h => KE.trans (h.mono (by rw [World.size_alloc]; exact Nat.le_succ _))
        have N0 : (w13.drew.alloc (Obj.cells #[.int .i64 0, .slice none 0 0] 55)).heap[w13.heap.size]? = some (Obj.cells #[.int .i64 0, .slice none 0 0] 55 (0, 0)) := heap_alloc_new w13.drew _
        clear f13_2 f13_3 f13_7 f13_8 f13_9 f13_10 o13_0 o13_1
        have rdA : CRead w13.drew w13.drew.heap.size A0 (ccells l0) := (hA0.below k13.drew (Nat.le_refl _)).more k13.size
        have rdB : CRead (w13.drew.alloc (Obj.cells #[.int .i64 0, .slice none 0 0] 55)) (w13.drew.alloc (Obj.cells #[.int .i64 0, .slice none 0 0] 55)).heap.size A0 (ccells l0) := (hA0.below KA (Nat.le_refl _)).more KA.size
        go_region_held3 (fun w' => w'.cell? ⟨W.heap.size, 0, none⟩ = some (.int .i64 p0) ∧ w'.cell? ⟨W.heap.size, 1, none⟩ = some (.slice A0 l0.length c0) ∧ w'.cell? ⟨W.heap.size + 1, 0, none⟩ = some (.int .i64 ka1) ∧ w'.cell? ⟨W.heap.size + 1, 1, none⟩ = some (.int .i64 kb1) ∧ w'.cell? ⟨W.heap.size + 1, 2, none⟩ = some (.int .i64 kc1)) (first | exact kS _ KD | exact kS _ KE | exact kS _ zg1 | exact kS _ (zg1.alloc z1s _) | exact kS _ zg2 | exact kS _ (zg2.alloc z2s _) | exact kS _ zg3 | exact kS _ (zg3.alloc z3s _) | exact kS _ ((zg3.setCell (p := ⟨_, 0, none⟩) (by first | exact Nat.le_refl _ | exact z1s | exact z2s) _).setCell (p := ⟨_, 1, none⟩) (by first | exact Nat.le_refl _ | exact z1s | exact z2s) _)) ((first | ((have gg := zg2); go_at_call 40; refine (implAddClue_any p0 l0 _ _ ka1 kb1 kc1 _ hn0 (by first | exact CRead.of_own ox | exact CRead.of_own (ox.alloc _)) (by first | exact own_zeroC ox | exact own_zeroC (ox.alloc _)) (by first | exact own_cap ox | exact own_cap (ox.alloc _))).mono ?_; rw [Hres.out]; rintro e v3 ⟨T3, d3, rfl, n3, hb3⟩; have zg3 : Below w13.heap.size w13 v3 := (by first | exact zg2.trans (hb3.mono z2s) | exact (zg2.alloc z2s _).trans (hb3.mono (by simp only [World.size_alloc]; omega))); (first | (have Y := (hb3.block _ (lt_of_heap Y)).trans Y) | (have Y := (hb3.block v2.heap.size (by simp)).trans (heap_alloc_new v2 (Obj.cells #[.int .i64 0, .slice none 0 0] 55))) | skip); have z3s := zg3.size; (first | (have YY := boxU_cells Y; obtain ⟨Y0, Y1, Y2, Y3⟩ := YY) | skip)) | (have gg := zg1; clear gg; go_at_call 39; refine (toClue_any ka1 kb1 kc1 _).mono ?_; rintro e v2 ⟨rfl, hb2⟩; have zg2 : Below w13.heap.size w13 v2 := (by first | exact zg1.trans (hb2.mono z1s) | exact (zg1.alloc z1s _).trans (hb2.mono (by simp only [World.size_alloc]; omega))); (first | (have ox := own_below n1 hb2 (Nat.le_refl _)) | (have ox := own_below (n1.alloc (Obj.cells #[.int .i64 0, .slice none 0 0] 55)) hb2 (Nat.le_refl _))); (first | (have Y := (hb2.block _ (lt_of_heap Y)).trans Y) | (have Y := (hb2.block v1.heap.size (by simp)).trans (heap_alloc_new v1 (Obj.cells #[.int .i64 0, .slice none 0 0] 55))) | skip); have z2s := zg2.size; (first | (have zY2 := lt_of_heap Y) | skip)) | ((fail_if_success (have gg := zg1)); go_at_call 33; refine (toPuzzle_any p0 l0 A0 c0 w13.drew hn0 rdA).mono ?_; rintro e v1 ⟨T1, d1, rfl, n1, hb1⟩; have zg1 : Below w13.heap.size w13 v1 := KD' _ hb1; have z1s := zg1.size) | ((fail_if_success (have gg := zg1)); go_at_call 33; refine (toPuzzle_any p0 l0 A0 c0 (w13.drew.alloc (Obj.cells #[.int .i64 0, .slice none 0 0] 55)) hn0 rdB).mono ?_; rintro e v1 ⟨T1, d1, rfl, n1, hb1⟩; have zg1 : Below w13.heap.size w13 v1 := KE' _ hb1; have Y := (hb1.block w13.heap.size (by simp)).trans N0; have z1s := zg1.size)))
        all_goals (go_wp2_with fail; go_meet; exact ⟨_, T3, d3, rfl, rfl, by first | exact cutU_last zg3 (by omega) n3 | exact cutU_early zg3 (by omega) (by omega) n3 Y | exact cutU_early zg3 (by omega) (by simp only [World.size_alloc]; omega) n3 Y⟩)
      case rest =>
        obtain ⟨b14, T14, d14, rfl, rfl, hcut⟩ := hcut
        obtain ⟨w14, hw14⟩ : ∃ w', w' = wc := ⟨_, rfl⟩
        subst hw14
        obtain ⟨g14, e14_0, e14_1, n14, ⟨lo14, hi14, r14, la14, lb14, lc14⟩, lg14, lt14⟩ := hcut
        have s14 := g14.size
        have f14_0 := carry g14 f13_0 (by omega)
        have f14_1 := carry g14 f13_1 (by omega)
        have f14_2 := carry g14 f13_2 (by omega)
        have f14_3 := carry g14 f13_3 (by omega)
        have f14_4 := carry g14 f13_4 (by omega)
        have f14_5 := carry g14 f13_5 (by omega)
        have f14_6 := carry g14 f13_6 (by omega)
        have f14_7 := carry g14 f13_7 (by omega)
        have f14_8 := carry g14 f13_8 (by omega)
        have f14_9 := carry g14 f13_9 (by omega)
        have f14_10 := carry g14 f13_10 (by omega)
        have o14_0 := own_below o13_0 g14 (Nat.le_refl _)
        have o14_1 := own_below o13_1 g14 (Nat.le_refl _)
        have k14 := k13.trans (g14.mono k13.size)
        clear f13_0 f13_1 f13_2 f13_3 f13_4 f13_5 f13_6 f13_7 f13_8 f13_9 f13_10 o13_0 o13_1
        go_wp2_with fail
        refine (eqPuzzle_any rq rq rm rm _ _ _ _ _ hrl hrl (CRead.of_own n14) (CRead.of_own o14_0)).mono ?_
        rw [decide_eq_true ⟨rfl, rfl⟩]
        rintro e w15 ⟨rfl, hb15⟩
        have g15 : Below w14.heap.size w14 w15 := hb15
        have s15 := hb15.size
        have f15_0 := carry g15 f14_0 (by omega)
        have f15_1 := carry g15 f14_1 (by omega)
        have f15_2 := carry g15 f14_2 (by omega)
        have f15_3 := carry g15 f14_3 (by omega)
        have f15_4 := carry g15 f14_4 (by omega)
        have f15_5 := carry g15 f14_5 (by omega)
        have f15_6 := carry g15 f14_6 (by omega)
        have f15_7 := carry g15 f14_7 (by omega)
        have f15_8 := carry g15 f14_8 (by omega)
        have f15_9 := carry g15 f14_9 (by omega)
        have f15_10 := carry g15 f14_10 (by omega)
        have f15_11 := carry g15 e14_0 (by omega)
        have f15_12 := carry g15 e14_1 (by omega)
        have o15_0 := own_below o14_0 g15 (Nat.le_refl _)
        have o15_1 := own_below o14_1 g15 (Nat.le_refl _)
        have o15_2 := own_below n14 g15 (Nat.le_refl _)
        have k15 := k14.trans (g15.mono k14.size)
        clear f14_0 f14_1 f14_2 f14_3 f14_4 f14_5 f14_6 f14_7 f14_8 f14_9 f14_10 e14_0 e14_1 o14_0 o14_1 n14
        go_wp2_with fail
        refine (heldPuzzle_any _ _ _ _ 1 _ hrn hone (CRead.of_own o15_1)).mono ?_
        rintro e w16 ⟨rfl, hb16⟩
        have g16 : Below w15.heap.size w15 w16 := hb16
        have s16 := hb16.size
        have f16_0 := carry g16 f15_0 (by omega)
        have f16_1 := carry g16 f15_1 (by omega)
        have f16_2 := carry g16 f15_2 (by omega)
        have f16_3 := carry g16 f15_3 (by omega)
        have f16_4 := carry g16 f15_4 (by omega)
        have f16_5 := carry g16 f15_5 (by omega)
        have f16_6 := carry g16 f15_6 (by omega)
        have f16_7 := carry g16 f15_7 (by omega)
        have f16_8 := carry g16 f15_8 (by omega)
        have f16_9 := carry g16 f15_9 (by omega)
        have f16_10 := carry g16 f15_10 (by omega)
        have f16_11 := carry g16 f15_11 (by omega)
        have f16_12 := carry g16 f15_12 (by omega)
        have o16_0 := own_below o15_0 g16 (Nat.le_refl _)
        have o16_1 := own_below o15_1 g16 (Nat.le_refl _)
        have o16_2 := own_below o15_2 g16 (Nat.le_refl _)
        have k16 := k15.trans (g16.mono k15.size)
        clear f15_0 f15_1 f15_2 f15_3 f15_4 f15_5 f15_6 f15_7 f15_8 f15_9 f15_10 f15_11 f15_12 o15_0 o15_1 o15_2
        go_wp2
        go_ret
        exact ⟨rfl, k16⟩
end Go.Proofs.Ytkiobefojckocaa
/-
  THE PROGRAM's HEAD, LOOKED AT ONCE: which make it is, and that a call may enter it. (The head's text is long: the kernel must not read it twice.)
-/
namespace Go.Proofs.Ytkiobefojckocaa

theorem make_of {P : Program} {rest : List (List Char)} (h : behindMainWord (wordsSigns P.initOrder.toList) = "cut".toList :: rest) : P.make = some .cut := by
  unfold Program.make
  rw [h]
  rfl
theorem strip_cut (rest : List (List Char)) : stripLifts liftWords ("cut".toList :: rest) = ([], "cut".toList :: rest) := rfl
theorem lifts_of {P : Program} {rest : List (List Char)} (h : behindMainWord (wordsSigns P.initOrder.toList) = "cut".toList :: rest) : P.headLifts = [] := by
  unfold Program.headLifts
  rw [h, strip_cut]
  rfl
theorem final_of {P : Program} {rest : List (List Char)} (h : behindMainWord (wordsSigns P.initOrder.toList) = "cut".toList :: rest) : P.liftsFinal = false := by
  unfold Program.liftsFinal
  rw [lifts_of h, h]
  rfl
theorem enter_of {P : Program} {rest : List (List Char)} (h : behindMainWord (wordsSigns P.initOrder.toList) = "cut".toList :: rest) (h1 : P.laysLater = false) (h2 : P.bearsReflect = false) (h3 : P.doorFits [] = true) : P.mayEnter = true := by
  unfold Program.mayEnter
  rw [h]
  show (_ || _ || _) = true
  rw [strip_cut, h1, h2, h3]
  rfl
end Go.Proofs.Ytkiobefojckocaa
/-
  THE PROGRAM's CLOSED FACTS, EACH ONCE; and how a row's facts are put together out of them.
-/
namespace Go.Proofs.Ytkiobefojckocaa
open Go.ChangeShapes Go.WideShapes Go.ChangeAt Go.RowKit

def headSigns : List Char := ([104, 97, 114, 110, 101, 115, 115, 32, 55, 55, 98, 50, 49, 52, 56, 50, 98, 102, 57, 50, 50, 55, 97, 102, 53, 54, 99, 54, 48, 57, 53, 50, 57, 48, 53, 97, 55, 54, 51, 54, 98, 97, 57, 56, 52, 52, 54, 53, 51, 50, 56, 98, 52, 57, 51, 52, 98, 50, 99, 55, 57, 49, 100, 101, 98, 51, 99, 53, 49, 56, 98, 50, 32, 99, 117, 116, 32, 97, 116, 32, 108, 111, 111, 112, 46, 101, 120, 97, 109, 112, 108, 101, 47, 103, 48, 49, 50, 53, 55, 47, 108, 97, 119, 115, 46, 70, 110, 69, 120, 97, 99, 116, 70, 105, 114, 115, 116, 68, 101, 115, 107, 32, 108, 111, 111, 112, 46, 101, 120, 97, 109, 112, 108, 101, 47, 103, 48, 49, 50, 53, 55, 47, 108, 97, 119, 115, 46, 70, 110, 69, 120, 97, 99, 116, 73, 115, 68, 101, 115, 107, 32, 108, 111, 111, 112, 46, 101, 120, 97, 109, 112, 108, 101, 47, 103, 48, 49, 50, 53, 55, 47, 108, 97, 119, 115, 46, 70, 110, 69, 120, 97, 99, 116, 70, 105, 114, 115, 116, 80, 97, 105, 114, 105, 110, 103, 32, 108, 111, 111, 112, 46, 101, 120, 97, 109, 112, 108, 101, 47, 103, 48, 49, 50, 53, 55, 47, 108, 97, 119, 115, 46, 70, 110, 69, 120, 97, 99, 116, 77, 111, 115, 116, 73, 110, 80, 97, 105, 114, 115, 32, 108, 111, 111, 112, 46, 101, 120, 97, 109, 112, 108, 101, 47, 103, 48, 49, 50, 53, 55, 47, 108, 97, 119, 115, 46, 70, 110, 69, 120, 97, 99, 116, 68, 114, 111, 112, 67, 108, 117, 101, 32, 108, 111, 111, 112, 46, 101, 120, 97, 109, 112, 108, 101, 47, 103, 48, 49, 50, 53, 55, 47, 108, 97, 119, 115, 46, 70, 110, 69, 120, 97, 99, 116, 65, 100, 100, 67, 108, 117, 101, 32, 108, 111, 111, 112, 46, 101, 120, 97, 109, 112, 108, 101, 47, 103, 48, 49, 50, 53, 55, 47, 108, 97, 119, 115, 46, 70, 110, 69, 120, 97, 99, 116, 70, 101, 119, 101, 115, 116, 67, 111, 108, 111, 117, 114, 115, 32, 108, 111, 111, 112, 46, 101, 120, 97, 109, 112, 108, 101, 47, 103, 48, 49, 50, 53, 55, 47, 108, 97, 119, 115, 46, 70, 110, 69, 120, 97, 99, 116, 70, 105, 114, 115, 116, 67, 111, 108, 111, 117, 114, 105, 110, 103] : List Nat).map Char.ofNat
set_option maxRecDepth 100000 in
theorem Try.initOrder_is : Try.prog.initOrder = String.ofList headSigns := by kernel_rfl
theorem Try.initOrder_signs : Try.prog.initOrder.toList = headSigns := by rw [Try.initOrder_is]; exact String.toList_ofList
set_option maxRecDepth 100000 in
theorem head_words : (behindMainWord (wordsSigns headSigns)).take 1 = ["cut".toList] := by kernel_rfl
theorem Try.words : ∃ rest, behindMainWord (wordsSigns Try.prog.initOrder.toList) = "cut".toList :: rest := by
  rw [Try.initOrder_signs]
  have h := List.take_append_drop 1 (behindMainWord (wordsSigns headSigns))
  rw [head_words] at h
  exact ⟨_, h.symm⟩
theorem Try.make : Try.prog.make = some .cut := by obtain ⟨_, h⟩ := Try.words; exact make_of h
theorem Try.liftsFinal : Try.prog.liftsFinal = false := by obtain ⟨_, h⟩ := Try.words; exact final_of h
theorem Try.laysLater : Try.prog.laysLater = false := by kernel_rfl
theorem Try.bearsReflect : Try.prog.bearsReflect = false := by kernel_rfl
theorem Try.doorFits : Try.prog.doorFits [] = true := by kernel_rfl
theorem Try.mayEnter : Try.prog.mayEnter = true := by obtain ⟨_, h⟩ := Try.words; exact enter_of h Try.laysLater Try.bearsReflect Try.doorFits
theorem Try.mapsRowed : mapsRowed Try.prog = true := by kernel_rfl
theorem Try.stops : (Try.prog.stops == []) = true := by kernel_rfl
theorem Try.stopKnobs : (Try.prog.stopKnobs == []) = true := by kernel_rfl
theorem Try.plainKeys : Try.prog.plainKeys = true := by kernel_rfl
theorem Try.stopsHeard : Try.prog.stopsHeard = true := by kernel_rfl

/-- What the types of one law give: closed facts on its parameters and its result. -/
def typeFacts (P : Program) (fn : Func) (s : ChangeSpec) (c : OpenClaim) : Bool :=
  fn.params.all (P.readableRec ·) && namedTie P c.named s.vars && (c.stops == []) && (c.knobs == []) &&
  (c.maps == (fn.params.toList ++ s.plain.varTypes P).any (P.mapsRec ·)) && (c.ifaces == (fn.params.toList ++ s.plain.varTypes P).any (P.ifacesRec ·)) && (c.mapsOut == P.mapsAmong fn.resultTypes.toList) &&
  (c.loops == (fn.params.toList ++ s.plain.varTypes P).any (P.loopsFrom ·)) && (c.wideKeys == (fn.params.toList ++ s.plain.varTypes P ++ fn.resultTypes.toList).any (P.wideKeysFrom ·)) &&
  s.vars.all (P.varReadable ·) && fn.resultTypes.all (fun t => P.readableRec t && decide (t < P.types.size)) && (c.ifacesOut == fn.resultTypes.toList.any (P.ifacesRec ·)) && (c.loopsOut == fn.resultTypes.toList.any (P.loopsFrom ·)) && c.shortTexts.isNone &&
  (c.kinds == (if c.domain.isEmpty then [] else fn.params.toList.map fun t => match P.underlying t with | some (.int k) => some k | _ => none)) && (c.pinned == c.pinnedBy) &&
  (c.veiled == (fn.params.toList ++ s.plain.varTypes P ++ fn.resultTypes.toList).any (P.veiledRec ·)) && c.veiledFits P fn.params.toList (fn.params.toList ++ s.plain.varTypes P ++ fn.resultTypes.toList)
theorem joined_all {P : Program} {f : FuncId} {fn : Func} {s : ChangeSpec} {c : OpenClaim} (k1 : c.wf (OpenSpec.ofChange s) = true) (kt : typeFacts P fn s c = true)
    (k10 : (c.inPlace == P.inPlace f) = true) (k11 : (c.unfollowed == P.unfollowed f) = true) (k12 : (c.recurses == P.recurses f) = true) (k13 : (c.named == P.varsNamed f) = true)
    (e2 : laidOutB P = true) (e3 : mapsRowed P = true) (e7 : (P.stops == []) = true) (e9 : (P.stopKnobs == []) = true) (e22 : (c.plainKeys == P.plainKeys) = true) (e23 : P.stopsHeard = true) (e24 : P.mayEnter = true)
    (e24b : (c.lifted == P.liftsFinal) = true) (e24c : (P.make == some c.make) = true) : joinedFacts P f fn s c = true := by
  unfold typeFacts at kt
  unfold joinedFacts
  simp only [Bool.and_eq_true] at kt ⊢
  obtain ⟨⟨⟨⟨⟨⟨⟨⟨⟨⟨⟨⟨⟨⟨⟨⟨⟨t1, t2⟩, t3⟩, t4⟩, t5⟩, t6⟩, t7⟩, t8⟩, t9⟩, t10⟩, t11⟩, t12⟩, t13⟩, t14⟩, t15⟩, t16⟩, t17⟩, t18⟩ := kt
  exact ⟨⟨⟨⟨⟨⟨⟨⟨⟨⟨⟨⟨⟨⟨⟨⟨⟨⟨⟨⟨⟨⟨⟨⟨⟨⟨⟨⟨⟨⟨⟨k1, e2⟩, e3⟩, t1⟩, t2⟩, t3⟩, e7⟩, t4⟩, e9⟩, k10⟩, k11⟩, k12⟩, k13⟩, t5⟩, t6⟩, t7⟩, t8⟩, t9⟩, t10⟩, t11⟩, t12⟩, t13⟩, e22⟩, t14⟩, e23⟩, e24⟩, e24b⟩, e24c⟩, t15⟩, t16⟩, t17⟩, t18⟩
theorem joined_of {f : FuncId} {fn : Func} {s : ChangeSpec} {c : OpenClaim} (k1 : c.wf (OpenSpec.ofChange s) = true) (kt : typeFacts Try.prog fn s c = true)
    (k10 : (c.inPlace == Try.prog.inPlace f) = true) (k11 : (c.unfollowed == Try.prog.unfollowed f) = true) (k12 : (c.recurses == Try.prog.recurses f) = true) (k13 : (c.named == Try.prog.varsNamed f) = true)
    (k22 : c.plainKeys = true) (k24b : c.lifted = false) (k24c : c.make = .cut) : joinedFacts Try.prog f fn s c = true :=
  joined_all k1 kt k10 k11 k12 k13 Try.laidOut Try.mapsRowed Try.stops Try.stopKnobs (by rw [k22, Try.plainKeys]; rfl) Try.stopsHeard Try.mayEnter (by rw [k24b, Try.liftsFinal]; rfl) (by rw [k24c, Try.make]; rfl)
end Go.Proofs.Ytkiobefojckocaa
