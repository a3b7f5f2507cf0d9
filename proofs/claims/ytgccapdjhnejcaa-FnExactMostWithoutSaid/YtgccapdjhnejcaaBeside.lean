/-
  'impl.beside': the people of one party beside those of another, by its contract.
-/
import Derived.Test.YtgccapdjhnejcaaBox
import Derived.Test.YtgccapdjhnejcaaClone
import Derived.Test.YtgccapdjhnejcaaJoin2
import Derived.Deep.RegionHeld3
namespace Go.Proofs.Ytgccapdjhnejcaa
open Go.RowKit

theorem besideP_snoc (p : Int) (l m : PL) (x y : Int) : besideP p l (m ++ [(x, y)]) = besideP p l m ++ [(x + p, y + p)] := by simp [besideP, shifted]
theorem besideP_length (p : Int) (l m : PL) : (besideP p l m).length = l.length + m.length := by simp [besideP, shifted]

/-- slices.Clone in a world above another one -/
theorem clonePAt_any (W : World) (l : PL) (A : Option Addr) (c : Nat) (w : World) (hl : l.length ≤ 1048576) (hb : Below W.heap.size W w) (hA : CRead W W.heap.size A (pcells l)) :
    Calls Try.prog 100 #[.slice A l.length c] w fun e w' => ∃ A' c', e = .returned (.slice A' l.length c') ∧ w'.ownsRow W.heap.size 59 2 (.slice A' l.length c') l.length (pcells l) ∧ Below W.heap.size W w' :=
  (cloneP_any l A c w hl ((hA.below hb (Nat.le_refl _)).more hb.size)).mono fun _ _ ⟨A', c', he, ho, hg⟩ => ⟨A', c', he, own_lower ho hb.size, hb.trans (hg.mono hb.size)⟩

set_option maxHeartbeats 2000000 in
set_option maxRecDepth 100000 in
theorem beside_any (p s : Int) (l m : PL) (A B : Option Addr) (c d : Nat) (w : World) (hp : isP p l = true) (hs : isP s m = true) (hps : p + s ≤ 12) (hA : CRead w w.heap.size A (pcells l)) (hB : CRead w w.heap.size B (pcells m)) :
    Calls Try.prog 77 #[.agg #[.int .i64 p, .slice A l.length c], .agg #[.int .i64 s, .slice B m.length d]] w (GotParty w (p + s) (besideP p l m)) := by
  obtain ⟨i0, hi, hz0, hz1, hz2⟩ := info_parts Try.infoPair
  have hn := isP_range hp
  have hn' := isP_range hs
  have hl : l.length ≤ 66 := by have h1 := isP_length hp; have h2 := people_sq hn.1 hn.2; omega
  have hm : m.length ≤ 66 := by have h1 := isP_length hs; have h2 := people_sq hn'.1 hn'.2; omega
  have Hp := Lib.hid hp
  have Hs := Lib.hid hs
  clear hp hs
  go_enter Try.func77, Try.ntmps77
  go_wp2
  generalize hW : ((w.alloc (Obj.cells #[.int .i64 p, .slice A l.length c] 31)).alloc (Obj.cells #[.int .i64 s, .slice B m.length d] 31)).alloc (Obj.cells #[.int .i64 0, .slice none 0 0] 31) = W
  have a0 : W.cell? ⟨w.heap.size, 0, none⟩ = some (.int .i64 p) := by rw [← hW]; exact (World.cell?_alloc_lt _ _ _ (by simp <;> omega)).trans (by simp)
  have a1 : W.cell? ⟨w.heap.size, 1, none⟩ = some (.slice A l.length c) := by rw [← hW]; exact (World.cell?_alloc_lt _ _ _ (by simp <;> omega)).trans (by simp)
  have b0 : W.cell? ⟨w.heap.size + 1, 0, none⟩ = some (.int .i64 s) := by rw [← hW]; exact (World.cell?_alloc_lt _ _ _ (by simp <;> omega)).trans (by simp)
  have b1 : W.cell? ⟨w.heap.size + 1, 1, none⟩ = some (.slice B m.length d) := by rw [← hW]; exact (World.cell?_alloc_lt _ _ _ (by simp <;> omega)).trans (by simp)
  have x0 : W.heap[w.heap.size + 1 + 1]? = some (.cells #[.int .i64 0, .slice none 0 0] 31 (0, 0)) := by
    have := heap_alloc_new ((w.alloc (Obj.cells #[.int .i64 p, .slice A l.length c] 31)).alloc (Obj.cells #[.int .i64 s, .slice B m.length d] 31)) (Obj.cells #[.int .i64 0, .slice none 0 0] 31)
    rw [hW] at this
    simpa using this
  have X0 : W.cell? ⟨w.heap.size + 1 + 1, 0, none⟩ = some (.int .i64 0) := by rw [cell_of_row _ _ _ _ _ _ x0]; rfl
  have X1 : W.cell? ⟨w.heap.size + 1 + 1, 1, none⟩ = some (.slice none 0 0) := by rw [cell_of_row _ _ _ _ _ _ x0]; rfl
  have X2 : ∀ j, W.frozen? ⟨w.heap.size + 1 + 1, j, none⟩ = false := fun j => frozen_of_row _ _ j _ _ x0
  have kW : Below w.heap.size w W := by rw [← hW]; go_grown
  have sW : W.heap.size = w.heap.size + 3 := by rw [← hW]; simp
  have sW1 : w.heap.size < W.heap.size := by omega
  have sW2 : w.heap.size + 1 < W.heap.size := by omega
  have sW3 : w.heap.size + 1 + 1 < W.heap.size := by omega
  clear hW sW x0
  have k1 : ∀ o : Obj, (W.drew.alloc o).cell? ⟨w.heap.size, 0, none⟩ = some (.int .i64 p) ∧ (W.drew.alloc o).cell? ⟨w.heap.size, 1, none⟩ = some (.slice A l.length c) ∧ (W.drew.alloc o).cell? ⟨w.heap.size + 1, 0, none⟩ = some (.int .i64 s) := fun o =>
    ⟨(World.cell?_alloc_lt W.drew _ _ sW1).trans a0, (World.cell?_alloc_lt W.drew _ _ sW1).trans a1, (World.cell?_alloc_lt W.drew _ _ sW2).trans b0⟩
  have kA : Below w.heap.size w (W.drew.alloc (Obj.cells #[.int .i64 0, .slice none 0 0] 31)) := kW.drew.alloc kW.size _
  have N0 : (W.drew.alloc (Obj.cells #[.int .i64 0, .slice none 0 0] 31)).heap[W.heap.size]? = some (Obj.cells #[.int .i64 0, .slice none 0 0] 31 (0, 0)) := heap_alloc_new W.drew _
  have N1 : (W.drew.alloc (Obj.cells #[.int .i64 0, .slice none 0 0] 31)).cell? ⟨W.heap.size, 0, none⟩ = some (.int .i64 0) := by rw [cell_of_row _ _ _ _ _ _ N0]; rfl
  have N2 : (W.drew.alloc (Obj.cells #[.int .i64 0, .slice none 0 0] 31)).cell? ⟨W.heap.size, 1, none⟩ = some (.slice none 0 0) := by rw [cell_of_row _ _ _ _ _ _ N0]; rfl
  have N3 : ∀ j, (W.drew.alloc (Obj.cells #[.int .i64 0, .slice none 0 0] 31)).frozen? ⟨W.heap.size, j, none⟩ = false := fun j => frozen_of_row _ _ j _ _ N0
  go_region_held3 (fun w' => w'.cell? ⟨w.heap.size, 0, none⟩ = some (.int .i64 p) ∧ w'.cell? ⟨w.heap.size, 1, none⟩ = some (.slice A l.length c) ∧ w'.cell? ⟨w.heap.size + 1, 0, none⟩ = some (.int .i64 s)) (first | exact ⟨a0, a1, b0⟩ | exact k1 _ | exact ⟨f0, f1, f2⟩ | exact k3 _ | exact ⟨(World.cell?_setCell_other _ _ _ _ (by first | (simp; done) | (simp; omega))).trans ((World.cell?_setCell_other _ _ _ _ (by first | (simp; done) | (simp; omega))).trans f0), (World.cell?_setCell_other _ _ _ _ (by first | (simp; done) | (simp; omega))).trans ((World.cell?_setCell_other _ _ _ _ (by first | (simp; done) | (simp; omega))).trans f1), (World.cell?_setCell_other _ _ _ _ (by first | (simp; done) | (simp; omega))).trans ((World.cell?_setCell_other _ _ _ _ (by first | (simp; done) | (simp; omega))).trans f2)⟩ | exact ⟨(World.cell?_setCell_other _ _ _ _ (by first | (simp; done) | (simp; omega))).trans ((World.cell?_setCell_other _ _ _ _ (by first | (simp; done) | (simp; omega))).trans (k3 _).1), (World.cell?_setCell_other _ _ _ _ (by first | (simp; done) | (simp; omega))).trans ((World.cell?_setCell_other _ _ _ _ (by first | (simp; done) | (simp; omega))).trans (k3 _).2.1), (World.cell?_setCell_other _ _ _ _ (by first | (simp; done) | (simp; omega))).trans ((World.cell?_setCell_other _ _ _ _ (by first | (simp; done) | (simp; omega))).trans (k3 _).2.2)⟩) ((first | (go_at_call 100; refine (clonePAt_any W l A c W.drew (by omega) (Below.refl _ _).drew ((hA.below kW (Nat.le_refl _)).more kW.size)).mono ?_; rintro e w1 ⟨A1, c1, rfl, own1, g1⟩; have f0 := carry g1 a0 sW1; have f1 := carry g1 a1 sW1; have f2 := carry g1 b0 sW2; have s1 := g1.size; have k3 : ∀ o : Obj, (w1.alloc o).cell? ⟨w.heap.size, 0, none⟩ = some (.int .i64 p) ∧ (w1.alloc o).cell? ⟨w.heap.size, 1, none⟩ = some (.slice A l.length c) ∧ (w1.alloc o).cell? ⟨w.heap.size + 1, 0, none⟩ = some (.int .i64 s) := fun o => ⟨(World.cell?_alloc_lt w1 _ _ (Nat.lt_of_lt_of_le sW1 s1)).trans f0, (World.cell?_alloc_lt w1 _ _ (Nat.lt_of_lt_of_le sW1 s1)).trans f1, (World.cell?_alloc_lt w1 _ _ (Nat.lt_of_lt_of_le sW2 s1)).trans f2⟩) | (go_at_call 100; refine (cloneP_any l A c (W.drew.alloc (Obj.cells #[.int .i64 0, .slice none 0 0] 31)) (by omega) ((hA.below kA (Nat.le_refl _)).more kA.size)).mono ?_; rintro e w1 ⟨A1, c1, rfl, own1, g1⟩; simp only [World.size_alloc] at g1 own1; have f0 := carry g1 (k1 _).1 (Nat.lt_succ_of_lt sW1); have f1 := carry g1 (k1 _).2.1 (Nat.lt_succ_of_lt sW1); have f2 := carry g1 (k1 _).2.2 (Nat.lt_succ_of_lt sW2); have s1 := g1.size; have yH := (g1.block W.heap.size (Nat.lt_succ_self _)).trans N0; have y0 := carry g1 N1 (Nat.lt_succ_self _); have y1 := carry g1 N2 (Nat.lt_succ_self _); have z0 : w1.frozen? ⟨W.heap.size, 0, none⟩ = false := (g1.frozen (p := ⟨W.heap.size, 0, none⟩) (Nat.lt_succ_self _)).trans (N3 0); have z1 : w1.frozen? ⟨W.heap.size, 1, none⟩ = false := (g1.frozen (p := ⟨W.heap.size, 1, none⟩) (Nat.lt_succ_self _)).trans (N3 1))))
  · have hwr : IntKind.i64.wrap (p + s) = p + s := by simp [IntKind.wrap, IntKind.bits, IntKind.signed]; omega
    rw [hwr]
    have rel0 : BoxRel W.heap.size W (w1.alloc (Obj.cells #[.int .i64 (p + s), .slice A1 l.length c1] 31)) (p + s) w1.heap.size (.slice A1 l.length c1) l :=
      ⟨g1.alloc s1 _, s1, heap_alloc_new w1 _, own1.alloc _⟩
    generalize w1.alloc (Obj.cells #[.int .i64 (p + s), .slice A1 l.length c1] 31) = X at rel0 ⊢
    generalize w1.heap.size = g at rel0 ⊢
    have e0 := carry rel0.below a0 sW1
    have e1 := carry rel0.below b1 sW2
    obtain ⟨q0, q1, q2⟩ := rel0.cells
    clear q2
    go_wp2
    clear e0 e1 q0 q1
    go_loopw [20] (fun i wr => ∃ (k : Nat) (v : Value), k ≤ m.length ∧ i = .int .i64 k ∧ BoxRel W.heap.size W wr (p + s) g v (besideP p l (m.take k))) (fun i _ => m.length - (intOf i).toNat)
    case atStart => exact ⟨0, _, Nat.zero_le _, rfl, by simpa [besideP, shifted] using rel0⟩
    case round =>
      clear rel0
      obtain ⟨k, v, hk, rfl, rel⟩ := hrel
      have kX : Below w.heap.size w wr := kW.trans (rel.below.mono kW.size)
      have hlen : (besideP p l (m.take k)).length ≤ 132 := by rw [besideP_length, List.length_take]; omega
      have hlt2 := rel.lt
      have hle := rel.le
      have u0 := carry rel.below a0 sW1
      have hb0 : w.heap.size < wr.heap.size := by omega
      have hb1 : w.heap.size + 1 + 1 < wr.heap.size := by omega
      obtain ⟨q0, q1, q2⟩ := rel.cells
      by_cases hlt : k < m.length
      · obtain ⟨⟨x, y⟩, hx⟩ := getSome m k hlt
        obtain ⟨h0, h1, h2⟩ := goodAt_pair (isP_good Hs.out hlt) hx
        obtain ⟨bb, off, rfl, hbb, c0, c1⟩ := (hB.below kX (Nat.le_refl _)).pair hx
        have hki : (k : Int) < (m.length : Int) := by omega
        have hW2 : ∀ o o' : Obj, Below wr.heap.size wr ((wr.alloc o).alloc o') := fun o o' => ((Below.refl _ wr).alloc (Nat.le_refl _) o).alloc (by simp) o'
        have Hx := Lib.hid hx
        clear hx q2
        go_wp2_with (at_builtin; refine wpList_append_own _ rfl _ _ 29 rfl W.heap.size 59 i0 _ 2 16 Try.underlying29 hi hz0 hz1 hz2 rfl (by decide) _ _ _ rfl ((rel.own.alloc _).alloc _) ⟨wr.heap.size + 1, 0, none⟩ 1 1 [.int .i64 (x + p), .int .i64 (y + p)] rfl rfl (two_cells (by simp) (by simp)) (two_one rfl rfl) (by unfold maxLen; omega) (by omega) (by simp; omega) ?_; intro v1 w2 hown2 hg2 _; obtain ⟨A2, d2, rfl, _⟩ := own_shape hown2; have hr1 := rel.push (hW2 _ _) hg2 hown2; obtain ⟨_, z0, z1, z2, z3, z4⟩ := rel.grown (hW2 _ _) hg2; have z21 := z2 1; clear z2)
        go_roundw
        case rel => exact ⟨k + 1, _, by omega, by go_num, by rw [List.take_add_one, Hx.out, Option.toList_some, besideP_snoc]; exact hr1⟩
        case measure => simp [intOf]; omega
      · have hkl : k = m.length := by omega
        subst hkl
        have hge : ¬ ((m.length : Int) < m.length) := by omega
        rw [List.take_length] at rel
        obtain ⟨A', c', rfl, _⟩ := own_shape rel.own
        have r0 := carry rel.below X0 sW3
        have r1 := carry rel.below X1 sW3
        have r2 := (rel.below.frozen (p := ⟨w.heap.size + 1 + 1, 0, none⟩) sW3).trans (X2 0)
        have r3 := (rel.below.frozen (p := ⟨w.heap.size + 1 + 1, 1, none⟩) sW3).trans (X2 1)
        have hne : ¬ g = w.heap.size + 1 + 1 := by have := rel.gB; omega
        have Rel := Lib.hid rel
        clear rel q2
        go_wp2
        refine bodyPost_ret (v := .agg #[.int .i64 (p + s), .slice A' (besideP p l m).length c']) (by simp [results, Try.results77, go_sem, r0, r1]) rfl ?_
        exact ⟨A', c', rfl, own_lower (ownsRow_setCell_below (ownsRow_setCell_below Rel.out.own (a := ⟨w.heap.size + 1 + 1, 0, none⟩) (by simp; omega) _) (a := ⟨w.heap.size + 1 + 1, 1, none⟩) (by simp; omega) _) (by omega),
          (kX.setCell (p := ⟨w.heap.size + 1 + 1, 0, none⟩) (by simp; omega) _).setCell (p := ⟨w.heap.size + 1 + 1, 1, none⟩) (by simp; omega) _⟩
  · have hwr : IntKind.i64.wrap (p + s) = p + s := by simp [IntKind.wrap, IntKind.bits, IntKind.signed]; omega
    rw [hwr]
    have rel0 : BoxRel W.heap.size W ((w1.setCell ⟨W.heap.size, 0, none⟩ (.int .i64 (p + s))).setCell ⟨W.heap.size, 1, none⟩ (.slice A1 l.length c1)) (p + s) W.heap.size (.slice A1 l.length c1) l :=
      ⟨(((Below.refl W.heap.size W).drew.alloc (Nat.le_refl _) _).trans (g1.mono (Nat.le_succ _)) |>.setCell (p := ⟨W.heap.size, 0, none⟩) (Nat.le_refl _) _).setCell (p := ⟨W.heap.size, 1, none⟩) (Nat.le_refl _) _, Nat.le_refl _,
        heap_setCell_same _ W.heap.size 1 _ _ _ (heap_setCell_same w1 W.heap.size 0 _ _ _ yH), own_lower (ownsRow_setCell_below (ownsRow_setCell_below own1 (a := ⟨W.heap.size, 0, none⟩) (by simp) _) (a := ⟨W.heap.size, 1, none⟩) (by simp) _) (Nat.le_succ _)⟩
    have sg : W.heap.size ≤ W.heap.size := Nat.le_refl _
    generalize (w1.setCell ⟨W.heap.size, 0, none⟩ (.int .i64 (p + s))).setCell ⟨W.heap.size, 1, none⟩ (.slice A1 l.length c1) = X at rel0 ⊢
    obtain ⟨g, hg⟩ : ∃ g, g = W.heap.size := ⟨_, rfl⟩
    have rel1 := rel0
    rw [← hg] at rel1
    rw [show (⟨W.heap.size, 0, none⟩ : Addr) = ⟨g, 0, none⟩ from by rw [hg]]
    clear rel0
    have rel0 : BoxRel W.heap.size W X (p + s) g (.slice A1 l.length c1) l := by rw [hg] at rel1 ⊢; exact rel1
    clear rel1 hg
    have e0 := carry rel0.below a0 sW1
    have e1 := carry rel0.below b1 sW2
    obtain ⟨q0, q1, q2⟩ := rel0.cells
    clear q2
    go_wp2
    clear e0 e1 q0 q1
    go_loopw [20] (fun i wr => ∃ (k : Nat) (v : Value), k ≤ m.length ∧ i = .int .i64 k ∧ BoxRel W.heap.size W wr (p + s) g v (besideP p l (m.take k))) (fun i _ => m.length - (intOf i).toNat)
    case atStart => exact ⟨0, _, Nat.zero_le _, rfl, by simpa [besideP, shifted] using rel0⟩
    case round =>
      clear rel0
      obtain ⟨k, v, hk, rfl, rel⟩ := hrel
      have kX : Below w.heap.size w wr := kW.trans (rel.below.mono kW.size)
      have hlen : (besideP p l (m.take k)).length ≤ 132 := by rw [besideP_length, List.length_take]; omega
      have hlt2 := rel.lt
      have hle := rel.le
      have u0 := carry rel.below a0 sW1
      have hb0 : w.heap.size < wr.heap.size := by omega
      have hb1 : w.heap.size + 1 + 1 < wr.heap.size := by omega
      obtain ⟨q0, q1, q2⟩ := rel.cells
      by_cases hlt : k < m.length
      · obtain ⟨⟨x, y⟩, hx⟩ := getSome m k hlt
        obtain ⟨h0, h1, h2⟩ := goodAt_pair (isP_good Hs.out hlt) hx
        obtain ⟨bb, off, rfl, hbb, c0, c1⟩ := (hB.below kX (Nat.le_refl _)).pair hx
        have hki : (k : Int) < (m.length : Int) := by omega
        have hW2 : ∀ o o' : Obj, Below wr.heap.size wr ((wr.alloc o).alloc o') := fun o o' => ((Below.refl _ wr).alloc (Nat.le_refl _) o).alloc (by simp) o'
        have Hx := Lib.hid hx
        clear hx q2
        go_wp2_with (at_builtin; refine wpList_append_own _ rfl _ _ 29 rfl W.heap.size 59 i0 _ 2 16 Try.underlying29 hi hz0 hz1 hz2 rfl (by decide) _ _ _ rfl ((rel.own.alloc _).alloc _) ⟨wr.heap.size + 1, 0, none⟩ 1 1 [.int .i64 (x + p), .int .i64 (y + p)] rfl rfl (two_cells (by simp) (by simp)) (two_one rfl rfl) (by unfold maxLen; omega) (by omega) (by simp; omega) ?_; intro v1 w2 hown2 hg2 _; obtain ⟨A2, d2, rfl, _⟩ := own_shape hown2; have hr1 := rel.push (hW2 _ _) hg2 hown2; obtain ⟨_, z0, z1, z2, z3, z4⟩ := rel.grown (hW2 _ _) hg2; have z21 := z2 1; clear z2)
        go_roundw
        case rel => exact ⟨k + 1, _, by omega, by go_num, by rw [List.take_add_one, Hx.out, Option.toList_some, besideP_snoc]; exact hr1⟩
        case measure => simp [intOf]; omega
      · have hkl : k = m.length := by omega
        subst hkl
        have hge : ¬ ((m.length : Int) < m.length) := by omega
        rw [List.take_length] at rel
        obtain ⟨A', c', rfl, _⟩ := own_shape rel.own
        have r0 := carry rel.below X0 sW3
        have r1 := carry rel.below X1 sW3
        have r2 := (rel.below.frozen (p := ⟨w.heap.size + 1 + 1, 0, none⟩) sW3).trans (X2 0)
        have r3 := (rel.below.frozen (p := ⟨w.heap.size + 1 + 1, 1, none⟩) sW3).trans (X2 1)
        have hne : ¬ g = w.heap.size + 1 + 1 := by have := rel.gB; omega
        have Rel := Lib.hid rel
        clear rel q2
        go_wp2
        refine bodyPost_ret (v := .agg #[.int .i64 (p + s), .slice A' (besideP p l m).length c']) (by simp [results, Try.results77, go_sem, r0, r1]) rfl ?_
        exact ⟨A', c', rfl, own_lower (ownsRow_setCell_below (ownsRow_setCell_below Rel.out.own (a := ⟨w.heap.size + 1 + 1, 0, none⟩) (by simp; omega) _) (a := ⟨w.heap.size + 1 + 1, 1, none⟩) (by simp; omega) _) (by omega),
          (kX.setCell (p := ⟨w.heap.size + 1 + 1, 0, none⟩) (by simp; omega) _).setCell (p := ⟨w.heap.size + 1 + 1, 1, none⟩) (by simp; omega) _⟩
end Go.Proofs.Ytgccapdjhnejcaa
