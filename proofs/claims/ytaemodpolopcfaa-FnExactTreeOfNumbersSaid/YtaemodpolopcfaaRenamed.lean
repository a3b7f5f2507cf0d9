/-
  'impl.renamed', by its contract.
-/
import Derived.Test.YtaemodpolopcfaaBox
import Derived.Test.YtaemodpolopcfaaSortP
import Derived.Test.YtaemodpolopcfaaFriends
import Derived.Deep.RegionLaw
import Derived.Deep.AppendLies
namespace Go.Proofs.Ytaemodpolopcfaa
open Go.RowKit

theorem BoxRel.sorted {B g : Nat} {w0 wr w1 : World} {n : Int} {v : Value} {L M : PL} (h : BoxRel B w0 wr n g v L) (hg : wr.grownBy w1 v.ownBlock) (ho : w1.ownsRow B 72 2 v M.length (pcells M)) : BoxRel B w0 w1 n g v M :=
  ⟨h.below.grown hg h.le (fun k hk => (h.own.lt k hk).1), h.gB, (hg.block _ h.lt (fun e => h.ne e.symm)).trans h.box, ho⟩
theorem pairI_min (a b : Int) : pairI a b = (min a b, max a b) := rfl

set_option maxHeartbeats 4000000 in
set_option maxRecDepth 100000 in
theorem renamed_any (p : Int) (l : PL) (A : Option Addr) (c : Nat) (q : List Int) (B : Option Addr) (d : Nat) (w : World) (hp : isP p l = true) (hc : isNamingI p q = true) (hA : CRead w w.heap.size A (pcells l)) (hB : CRead w w.heap.size B (icells q)) :
    Calls Try.prog 52 #[.agg #[.int .i64 p, .slice A l.length c], .slice B q.length d] w (GotParty w p (sortP (namesP l q))) := by
  obtain ⟨i0, hi, hz0, hz1, hz2⟩ := info_parts Try.infoPair
  have hn := isP_range hp
  have hl66 : l.length ≤ 66 := by have h1 := isP_length hp; have h2 := people_sq hn.1 hn.2; omega
  have hql : (q.length : Int) = p := (isNamingI_parts hc).1
  have Hp := Lib.hid hp
  have Hc := Lib.hid hc
  clear hp hc
  go_enter Try.func52, Try.ntmps52
  go_wp2
  generalize hW : (w.alloc (Obj.cells #[.int .i64 p, .slice A l.length c] 29)).alloc (Obj.cells #[.int .i64 0, .slice none 0 0] 29) = W
  have X0 : W.cell? ⟨w.heap.size + 1, 0, none⟩ = some (.int .i64 0) := by rw [← hW]; simp
  have X1 : W.cell? ⟨w.heap.size + 1, 1, none⟩ = some (.slice none 0 0) := by rw [← hW]; simp
  have Z0 : W.frozen? ⟨w.heap.size + 1, 0, none⟩ = false := by rw [← hW]; simp
  have Z1 : W.frozen? ⟨w.heap.size + 1, 1, none⟩ = false := by rw [← hW]; simp
  have kW : Below w.heap.size w W := by rw [← hW]; go_grown
  have sW : W.heap.size = w.heap.size + 1 + 1 := by rw [← hW]; simp
  have sW2 : w.heap.size + 1 < W.heap.size := by omega
  have rel0 : BoxRel W.heap.size W (W.alloc (Obj.cells #[.int .i64 p, .slice none 0 0] 29)) p W.heap.size (.slice none 0 0) (namesP (l.take 0) q) :=
    ⟨(Below.refl _ _).alloc (Nat.le_refl _) _, Nat.le_refl _, heap_alloc_new W _, World.ownsRow_nil _ _ _ _⟩
  generalize hG : w.heap.size + 1 + 1 = G
  rw [sW, hG] at rel0
  have hGw : w.heap.size + 1 < G := by omega
  have sWG : W.heap.size ≤ G := by omega
  clear hW sW hG
  go_loopw [14] (fun i wr => ∃ (k : Nat) (v : Value), k ≤ l.length ∧ i = .int .i64 k ∧ BoxRel G W wr p G v (namesP (l.take k) q)) (fun i _ => l.length - (intOf i).toNat)
  case atStart => exact ⟨0, _, Nat.zero_le _, rfl, rel0⟩
  case round =>
    clear rel0
    obtain ⟨k, v, hk, rfl, rel⟩ := hrel
    have gX : Below W.heap.size W wr := rel.below.mono sWG
    have kX : Below w.heap.size w wr := kW.trans (gX.mono kW.size)
    have hlen : (namesP (l.take k) q).length ≤ 66 := by rw [namesP_length, List.length_take]; omega
    have hGr := rel.lt
    obtain ⟨b0, b1, b2⟩ := rel.cells
    have b21 := b2 1
    by_cases hlt : k < l.length
    · obtain ⟨⟨x, y⟩, hx⟩ := getSome l k hlt
      obtain ⟨h0, h1, h2⟩ := goodAt_pair (isP_good Hp.out hlt) hx
      obtain ⟨nx, e1, nx1, nx2, _⟩ := name_of Hc.out (x := x) (by omega)
      obtain ⟨ny, e2, ny1, ny2, _⟩ := name_of Hc.out (x := y) (by omega)
      obtain ⟨x', rfl⟩ : ∃ x' : Nat, x = x' := ⟨x.toNat, by omega⟩
      obtain ⟨y', rfl⟩ : ∃ y' : Nat, y = y' := ⟨y.toNat, by omega⟩
      simp only [Int.toNat_natCast] at nx2 ny2
      obtain ⟨bb, off, rfl, hbb, c0, c1⟩ := (hA.below kX (Nat.le_refl _)).pair hx
      obtain ⟨nb, noff, rfl, hnb, u0⟩ := (hB.below kX (Nat.le_refl _)).int nx2
      obtain ⟨nb', noff', he, hnb', u1⟩ := (hB.below kX (Nat.le_refl _)).int ny2
      simp only [Option.some.injEq, Addr.mk.injEq, and_true] at he
      obtain ⟨rfl, rfl⟩ := he
      have hki : (k : Int) < (l.length : Int) := by omega
      have hxq : (x' : Int) < (q.length : Int) := by omega
      have hyq : (y' : Int) < (q.length : Int) := by omega
      have hxq2 : x' < q.length := by omega
      have hyq2 : y' < q.length := by omega
      have Hx := Lib.hid hx
      have Hsn := Lib.hid (show namesP (l.take k ++ [((x' : Int), (y' : Int))]) q = namesP (l.take k) q ++ [pairI nx ny] by rw [namesP_snoc, e1, e2])
      clear hx b2 nx2 ny2 e1 e2 h0 h1 h2 nx1 ny1 hql
      go_wp2
      generalize hX : wr.alloc (Obj.cells #[.int .i64 x', .int .i64 y'] 72) = X
      have kWX : Below wr.heap.size wr X := by rw [← hX]; go_grown
      have q1 := carry kWX b1 hGr
      have m0 : X.cell? ⟨wr.heap.size, 0, none⟩ = some (.int .i64 x') := by rw [← hX]; simp
      have m1 : X.cell? ⟨wr.heap.size, 1, none⟩ = some (.int .i64 y') := by rw [← hX]; simp
      have sX : wr.heap.size < X.heap.size := by rw [← hX]; simp
      have hnw : nb < wr.heap.size := by have := kX.size; omega
      have v0 := carry kWX u0 hnw
      have v1 := carry kWX u1 hnw
      have hnG : nb < G := by omega
      have ownX := own_below rel.own kWX (Nat.le_refl _)
      have lieX : Lies v G wr.heap.size := own_lies rel.own
      clear hX c0 c1 u0 u1 b0 b1 b21
      go_region_law (first | (go_simp; go_at_call 62; refine (pairOf_any nx ny X.drew).mono ?_; rintro e w2 ⟨rfl, hb2⟩; have hX2 : Below X.heap.size X w2 := (Below.refl _ _).drew.trans hb2; have r1 := carry hX2 q1 (by omega); have p0 := carry hX2 m0 sX; have p1 := carry hX2 m1 sX; have z0 := carry hX2 v0 (by omega); have z1 := carry hX2 v1 (by omega); have own2 := own_below ownX hX2 (Nat.le_refl _); have s2 := hX2.size; have k3 : ∀ o : Obj, (w2.alloc o).cell? ⟨wr.heap.size, 0, none⟩ = some (.int .i64 x') ∧ (w2.alloc o).cell? ⟨wr.heap.size, 1, none⟩ = some (.int .i64 y') ∧ (w2.alloc o).cell? ⟨nb, noff + x', none⟩ = some (.int .i64 nx) ∧ (w2.alloc o).cell? ⟨nb, noff + y', none⟩ = some (.int .i64 ny) := fun o => ⟨(World.cell?_alloc_lt w2 _ _ (by simp; omega)).trans p0, (World.cell?_alloc_lt w2 _ _ (by simp; omega)).trans p1, (World.cell?_alloc_lt w2 _ _ (by simp; omega)).trans z0, (World.cell?_alloc_lt w2 _ _ (by simp; omega)).trans z1⟩; have kq : ∀ o : Obj, (w2.alloc o).cell? ⟨G, 1, none⟩ = some v := fun o => (World.cell?_alloc_lt w2 _ _ (by simp; omega)).trans r1) | (refine step_append_lies _ (by rfl) _ _ _ (by rfl) G 72 i0 _ 2 16 Try.underlying27 hi hz0 hz1 hz2 (by rfl) (by decide) v (namesP (l.take k) q).length (pcells (namesP (l.take k) q)) (by rfl) (own2.alloc _) ⟨w2.heap.size, 0, none⟩ 1 1 [.int .i64 (min nx ny), .int .i64 (max nx ny)] (by rfl) rfl (two_cells (by simp) (by simp)) (two_one rfl rfl) (by decide) (by unfold maxLen; omega) (by omega) (by simp; omega) (w2.heap.size + 1) (by simp) ?_; intro g3 c3 w3 own3 gr3 hat3 hlt3; have f3 : (w3).cell? ⟨wr.heap.size, 0, none⟩ = some (.int .i64 x') ∧ (w3).cell? ⟨wr.heap.size, 1, none⟩ = some (.int .i64 y') ∧ (w3).cell? ⟨nb, noff + x', none⟩ = some (.int .i64 nx) ∧ (w3).cell? ⟨nb, noff + y', none⟩ = some (.int .i64 ny) := ⟨carryG gr3 lieX (k3 _).1 (by omega), carryG gr3 lieX (k3 _).2.1 (by omega), carryG gr3 lieX (k3 _).2.2.1 (by omega), carryG gr3 lieX (k3 _).2.2.2 (by omega)⟩; have hr1 := rel.push ((kWX.trans (hX2.mono (Nat.le_of_lt sX))).alloc (by omega) _) gr3 own3; obtain ⟨_, y0, y1, y2, y3, y4⟩ := rel.grown ((kWX.trans (hX2.mono (Nat.le_of_lt sX))).alloc (by omega) _) gr3; have y21 := y2 1; clear y2))
      all_goals (go_wp2_with fail)
      all_goals (go_roundw)
      all_goals first
        | exact ⟨k + 1, _, by omega, by go_num, by rw [List.take_add_one, Hx.out, Option.toList_some, Hsn.out]; exact hr1⟩
        | (simp [intOf]; omega)
    · have hkl : k = l.length := by omega
      subst hkl
      have hge : ¬ ((l.length : Int) < (l.length : Int)) := by omega
      rw [List.take_length] at rel hlen
      have hnl : (namesP l q).length = l.length := namesP_length l q
      obtain ⟨A', c', rfl, _⟩ := own_shape rel.own
      have r0 := carry gX X0 sW2
      have r1 := carry gX X1 sW2
      have r2 := (gX.frozen (p := ⟨w.heap.size + 1, 0, none⟩) sW2).trans Z0
      have r3 := (gX.frozen (p := ⟨w.heap.size + 1, 1, none⟩) sW2).trans Z1
      have Rel := Lib.hid rel
      have Hnl := Lib.hid hnl
      clear rel b2 b21 hnl
      go_wp2_with fail
      refine (sortP_any (namesP l q) A' c' G wr (by omega) Rel.out.own).mono ?_
      rintro e w4 ⟨rfl, own4, _, s4, gr4⟩
      have Rel4 := Lib.hid (Rel.out.sorted (M := sortP (namesP l q)) gr4 (by rw [sortP_length]; exact own4))
      have bx := Rel4.out.cells
      obtain ⟨o0, o1, _⟩ := bx
      have g4 : Below W.heap.size W w4 := Rel4.out.below.mono sWG
      have k4 : Below w.heap.size w w4 := kW.trans (g4.mono kW.size)
      have t0 := carry g4 X0 sW2
      have t1 := carry g4 X1 sW2
      have t2 := (g4.frozen (p := ⟨w.heap.size + 1, 0, none⟩) sW2).trans Z0
      have t3 := (g4.frozen (p := ⟨w.heap.size + 1, 1, none⟩) sW2).trans Z1
      have hne : ¬ G = w.heap.size + 1 := by omega
      have Hsl := Lib.hid (show (sortP (namesP l q)).length = (namesP l q).length from sortP_length _)
      clear r0 r1 r2 r3 own4 gr4
      go_wp2
      refine bodyPost_ret (v := .agg #[.int .i64 p, .slice A' (namesP l q).length c']) (by simp [results, Try.results52, go_sem, t0, t1]) rfl ?_
      refine ⟨A', c', by rw [Hsl.out], ?_, (k4.setCell (p := ⟨w.heap.size + 1, 0, none⟩) (by simp) _).setCell (p := ⟨w.heap.size + 1, 1, none⟩) (by simp) _⟩
      have ho := Rel4.out.own
      rw [Hsl.out] at ho ⊢
      exact own_lower (ownsRow_setCell_below (ownsRow_setCell_below ho (a := ⟨w.heap.size + 1, 0, none⟩) (by simp; omega) _) (a := ⟨w.heap.size + 1, 1, none⟩) (by simp; omega) _) (by omega)
end Go.Proofs.Ytaemodpolopcfaa
