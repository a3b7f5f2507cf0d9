/-
  'ExchangePairs' of the model, by its contract.
-/
import Derived.Test.YtaemodpolopcfaaExchP
import Derived.Test.YtaemodpolopcfaaTable
import Derived.Test.YtaemodpolopcfaaJoinT
import Derived.StillTailTactics
namespace Go.Proofs.Ytaemodpolopcfaa
open Go.RowKit

theorem exch_not {p : Int} {l : PL} {a b c d : Int} (h : fourI p a b c d = false ∨ canX l a b c d = false) : resExchangePairs p l a b c d = (0, [], false) := by
  unfold resExchangePairs
  rcases h with h | h <;> simp [h]
theorem exch_yes {p : Int} {l : PL} {a b c d : Int} (hp : isP p l = true) (h4 : fourI p a b c d = true) (hx : canX l a b c d = true) : resExchangePairs p l a b c d = (p, exchP p.toNat l a b c d, true) := by
  unfold resExchangePairs
  simp [hp, h4, hx]

/-- the worlds of the two small loops: the table, and the small lists of people that the loops go through -/
structure XRel (B : Nat) (w0 wr : World) (g n c : Nat) (G : Nat → Nat) (t : Nat → Nat → Bool) (s x1 y1 x2 y2 : Nat) : Prop where
  below : Below B w0 wr
  tab : TabG wr B (.slice (some ⟨g, 0, none⟩) n c) n n G t
  gs : g < s
  Gs : ∀ x, x < n → B ≤ G x ∧ G x < s
  le : s + 3 ≤ wr.heap.size
  a0 : wr.cell? ⟨s, 0, none⟩ = some (.int .i64 x1)
  a1 : wr.cell? ⟨s, 1, none⟩ = some (.int .i64 y1)
  b0 : wr.cell? ⟨s + 1, 0, none⟩ = some (.int .i64 x2)
  b1 : wr.cell? ⟨s + 1, 1, none⟩ = some (.int .i64 y2)
  c0 : wr.cell? ⟨s + 1 + 1, 0, none⟩ = some (.slice (some ⟨s, 0, none⟩) 2 2)
  c1 : wr.cell? ⟨s + 1 + 1, 1, none⟩ = some (.slice (some ⟨s + 1, 0, none⟩) 2 2)
theorem XRel.one {B g n c s x1 y1 x2 y2 : Nat} {w0 wr : World} {G : Nat → Nat} {t : Nat → Nat → Bool} (h : XRel B w0 wr g n c G t s x1 y1 x2 y2) {x y : Nat} (hx : x < n) (b : Bool) :
    XRel B w0 ((wr.setCell ⟨G x, y, none⟩ (.bool b)).drew) g n c G (upd t x y b) s x1 y1 x2 y2 := by
  have hG := h.Gs x hx
  have hne : ∀ (k j : Nat) (v : Value), s ≤ k → wr.cell? ⟨k, j, none⟩ = some v → (wr.setCell ⟨G x, y, none⟩ (.bool b)).cell? ⟨k, j, none⟩ = some v := fun k j v hk hv =>
    (World.cell?_setCell_other _ _ _ _ (by first | (simp; done) | (simp; omega))).trans hv
  exact ⟨(h.below.setCell (p := ⟨G x, y, none⟩) hG.1 _).drew, (h.tab.set hx b).drew, h.gs, h.Gs, by simpa using h.le, hne _ _ _ (Nat.le_refl _) h.a0, hne _ _ _ (Nat.le_refl _) h.a1, hne _ _ _ (by omega) h.b0, hne _ _ _ (by omega) h.b1, hne _ _ _ (by omega) h.c0, hne _ _ _ (by omega) h.c1⟩
theorem third_cell (w : World) (o1 o2 : Obj) (cs : Array Value) (t : TypeId) (j : Nat) {v : Value} (h : cs[j]? = some v) : (((w.alloc o1).alloc o2).alloc (.cells cs t)).cell? ⟨w.heap.size + 1 + 1, j, none⟩ = some v := by
  have := heap_alloc_new ((w.alloc o1).alloc o2) (.cells cs t)
  simp only [World.size_alloc] at this
  rw [cell_of_row _ _ _ _ _ _ this]
  exact h
theorem XRel.start {B g n c x1 y1 x2 y2 : Nat} {w0 wr : World} {G : Nat → Nat} {t : Nat → Nat → Bool} (hb : Below B w0 wr) (hB : B ≤ wr.heap.size) (tab : TabG wr B (.slice (some ⟨g, 0, none⟩) n c) n n G t) :
    XRel B w0 (((wr.alloc (Obj.cells #[.int .i64 x1, .int .i64 y1] 3)).alloc (Obj.cells #[.int .i64 x2, .int .i64 y2] 3)).alloc (Obj.cells #[.slice (some ⟨wr.heap.size, 0, none⟩) 2 2, .slice (some ⟨wr.heap.size + 1, 0, none⟩) 2 2] 25)) g n c G t wr.heap.size x1 y1 x2 y2 :=
  ⟨((hb.alloc hB _).alloc (by simp only [World.size_alloc]; omega) _).alloc (by simp only [World.size_alloc]; omega) _, ((tab.alloc _).alloc _).alloc _, (own_lt tab.own).2, fun x hx => tab.blk hx, by simp only [World.size_alloc]; omega,
    (World.cell?_alloc_lt _ _ _ (by simp only [World.size_alloc]; omega)).trans ((World.cell?_alloc_lt _ _ _ (by simp only [World.size_alloc]; omega)).trans (by simp)),
    (World.cell?_alloc_lt _ _ _ (by simp only [World.size_alloc]; omega)).trans ((World.cell?_alloc_lt _ _ _ (by simp only [World.size_alloc]; omega)).trans (by simp)),
    (World.cell?_alloc_lt _ _ _ (by simp only [World.size_alloc]; omega)).trans (by simp), (World.cell?_alloc_lt _ _ _ (by simp only [World.size_alloc]; omega)).trans (by simp), third_cell _ _ _ _ _ _ rfl, third_cell _ _ _ _ _ _ rfl⟩

set_option maxHeartbeats 4000000 in
set_option maxRecDepth 100000 in
theorem deExchange_any (n : Nat) (l : PL) (A : Option Addr) (c : Nat) (a b i j : Nat) (w : World) (hp : isP n l = true) (ha : a < n) (hb : b < n) (hi : i < n) (hj : j < n) (hab : a ≠ b) (hij : i ≠ j) (hA : CRead w w.heap.size A (pcells l)) :
    Calls Try.prog 60 #[.agg #[.int .i64 n, .slice A l.length c], .int .i64 a, .int .i64 b, .int .i64 i, .int .i64 j] w (GotPartyOk w (resExchangePairs n l a b i j).1 (resExchangePairs n l a b i j).2.1 (resExchangePairs n l a b i j).2.2) := by
  obtain ⟨r, hres⟩ : ∃ r, resExchangePairs n l a b i j = r := ⟨_, rfl⟩
  rw [hres]
  have hn := isP_range hp
  have hn12 : n ≤ 12 := by omega
  have ha' : (a : Int) < n := by omega
  have hb' : (b : Int) < n := by omega
  have hi' : (i : Int) < n := by omega
  have hj' : (j : Int) < n := by omega
  have Hp := Lib.hid hp
  have Hres := Lib.hid hres
  have Htab := Lib.hid (tabP_exch hp a b i j)
  clear hp hres
  generalize hW : (w.alloc (Obj.cells #[.int .i64 (n : Int), .slice A l.length c] 29)).alloc (Obj.cells #[.int .i64 0, .slice none 0 0] 29) = W
  have X0 : W.cell? ⟨w.heap.size + 1, 0, none⟩ = some (.int .i64 0) := by rw [← hW]; simp
  have X1 : W.cell? ⟨w.heap.size + 1, 1, none⟩ = some (.slice none 0 0) := by rw [← hW]; simp
  have Z0 : W.frozen? ⟨w.heap.size + 1, 0, none⟩ = false := by rw [← hW]; simp
  have Z1 : W.frozen? ⟨w.heap.size + 1, 1, none⟩ = false := by rw [← hW]; simp
  have kW : Below w.heap.size w W := by rw [← hW]; go_grown
  have sW2 : w.heap.size + 1 < W.heap.size := by rw [← hW]; simp
  have RA := (hA.below kW (Nat.le_refl _)).more kW.size
  have HW := Lib.hid hW
  clear hW
  go_enter Try.func60, Try.ntmps60
  go_wp2_with fail
  rw [HW.out]
  refine (paTable_any (n : Int) l A c _ Hp.out RA).mono ?_
  rw [Int.toNat_natCast]
  rintro e w3 ⟨A3, c3, G, rfl, tab, hb3⟩
  obtain ⟨g, rfl⟩ := own_form tab.own (by omega)
  have s3 := hb3.size
  have k3 := kW.trans (hb3.mono kW.size)
  have y0 := carry hb3 X0 sW2
  have y1 := carry hb3 X1 sW2
  have y2 := (hb3.frozen (p := ⟨w.heap.size + 1, 0, none⟩) sW2).trans Z0
  have y3 := (hb3.frozen (p := ⟨w.heap.size + 1, 1, none⟩) sW2).trans Z1
  have HX0 := Lib.hid X0
  have HX1 := Lib.hid X1
  have HZ0 := Lib.hid Z0
  have HZ1 := Lib.hid Z1
  clear X0 X1 Z0 Z1 HW

  by_cases e1 : a = i
  · have Er := Lib.hid (show r = (0, [], false) by rw [← Hres.out]; exact exch_not (.inl (fourI_not (by omega))))
    subst e1
    go_wp2
    refine bodyPost_ret (v := .tuple #[.agg #[.int .i64 0, .slice none 0 0], .bool false]) (by simp [results, Try.results60, go_sem, y0, y1]) rfl ?_
    rw [Er.out]
    exact ⟨none, 0, rfl, World.ownsRow_nil _ _ _ _, (k3.setCell (p := ⟨w.heap.size + 1, 0, none⟩) (by simp) _).setCell (p := ⟨w.heap.size + 1, 1, none⟩) (by simp) _⟩
  by_cases e2 : a = j
  · have Er := Lib.hid (show r = (0, [], false) by rw [← Hres.out]; exact exch_not (.inl (fourI_not (by omega))))
    subst e2
    go_wp2
    refine bodyPost_ret (v := .tuple #[.agg #[.int .i64 0, .slice none 0 0], .bool false]) (by simp [results, Try.results60, go_sem, y0, y1]) rfl ?_
    rw [Er.out]
    exact ⟨none, 0, rfl, World.ownsRow_nil _ _ _ _, (k3.setCell (p := ⟨w.heap.size + 1, 0, none⟩) (by simp) _).setCell (p := ⟨w.heap.size + 1, 1, none⟩) (by simp) _⟩
  by_cases e3 : b = i
  · have Er := Lib.hid (show r = (0, [], false) by rw [← Hres.out]; exact exch_not (.inl (fourI_not (by omega))))
    subst e3
    go_wp2
    refine bodyPost_ret (v := .tuple #[.agg #[.int .i64 0, .slice none 0 0], .bool false]) (by simp [results, Try.results60, go_sem, y0, y1]) rfl ?_
    rw [Er.out]
    exact ⟨none, 0, rfl, World.ownsRow_nil _ _ _ _, (k3.setCell (p := ⟨w.heap.size + 1, 0, none⟩) (by simp) _).setCell (p := ⟨w.heap.size + 1, 1, none⟩) (by simp) _⟩
  by_cases e4 : b = j
  · have Er := Lib.hid (show r = (0, [], false) by rw [← Hres.out]; exact exch_not (.inl (fourI_not (by omega))))
    subst e4
    go_wp2
    refine bodyPost_ret (v := .tuple #[.agg #[.int .i64 0, .slice none 0 0], .bool false]) (by simp [results, Try.results60, go_sem, y0, y1]) rfl ?_
    rw [Er.out]
    exact ⟨none, 0, rfl, World.ownsRow_nil _ _ _ _, (k3.setCell (p := ⟨w.heap.size + 1, 0, none⟩) (by simp) _).setCell (p := ⟨w.heap.size + 1, 1, none⟩) (by simp) _⟩
  have j1 := adj_areF Hp.out hab
  have j2 := adj_areF Hp.out hij
  have j3 := adj_areF Hp.out e1
  have j4 := adj_areF Hp.out e4
  have da := tab.outer ha
  have db := tab.outer hb
  have di := tab.outer hi
  have c1 := tab.cell ha hb
  have c2 := tab.cell hi hj
  have c3' := tab.cell ha hi
  have c4 := tab.cell hb hj
  rw [j1] at c1
  rw [j2] at c2
  rw [j3] at c3'
  rw [j4] at c4
  have f1 : ((a : Int) == (i : Int)) = false := beq_eq_false_iff_ne.2 (by omega)
  have f2 : ((a : Int) == (j : Int)) = false := beq_eq_false_iff_ne.2 (by omega)
  have f3 : ((b : Int) == (i : Int)) = false := beq_eq_false_iff_ne.2 (by omega)
  have f4 : ((b : Int) == (j : Int)) = false := beq_eq_false_iff_ne.2 (by omega)
  cases x1 : areF l a b with
  | false =>
    have Er := Lib.hid (show r = (0, [], false) by rw [← Hres.out]; exact exch_not (.inr (by simp [canX, x1])))
    rw [x1] at c1
    go_wp2
    refine bodyPost_ret (v := .tuple #[.agg #[.int .i64 0, .slice none 0 0], .bool false]) (by simp [results, Try.results60, go_sem, y0, y1]) rfl ?_
    rw [Er.out]
    exact ⟨none, 0, rfl, World.ownsRow_nil _ _ _ _, (k3.setCell (p := ⟨w.heap.size + 1, 0, none⟩) (by simp) _).setCell (p := ⟨w.heap.size + 1, 1, none⟩) (by simp) _⟩
  | true =>
    have x10 := x1
    rw [x1] at c1
    cases x2 : areF l i j with
    | false =>
      have Er := Lib.hid (show r = (0, [], false) by rw [← Hres.out]; exact exch_not (.inr (by simp [canX, x2])))
      rw [x2] at c2
      go_wp2
      refine bodyPost_ret (v := .tuple #[.agg #[.int .i64 0, .slice none 0 0], .bool false]) (by simp [results, Try.results60, go_sem, y0, y1]) rfl ?_
      rw [Er.out]
      exact ⟨none, 0, rfl, World.ownsRow_nil _ _ _ _, (k3.setCell (p := ⟨w.heap.size + 1, 0, none⟩) (by simp) _).setCell (p := ⟨w.heap.size + 1, 1, none⟩) (by simp) _⟩
    | true =>
      have x20 := x2
      rw [x2] at c2
      cases x3 : areF l a i with
      | true =>
        have Er := Lib.hid (show r = (0, [], false) by rw [← Hres.out]; exact exch_not (.inr (by simp [canX, x3])))
        rw [x3] at c3'
        go_wp2
        refine bodyPost_ret (v := .tuple #[.agg #[.int .i64 0, .slice none 0 0], .bool false]) (by simp [results, Try.results60, go_sem, y0, y1]) rfl ?_
        rw [Er.out]
        exact ⟨none, 0, rfl, World.ownsRow_nil _ _ _ _, (k3.setCell (p := ⟨w.heap.size + 1, 0, none⟩) (by simp) _).setCell (p := ⟨w.heap.size + 1, 1, none⟩) (by simp) _⟩
      | false =>
        have x30 := x3
        rw [x3] at c3'
        cases x4 : areF l b j with
        | true =>
          have Er := Lib.hid (show r = (0, [], false) by rw [← Hres.out]; exact exch_not (.inr (by simp [canX, x4])))
          rw [x4] at c4
          go_wp2
          refine bodyPost_ret (v := .tuple #[.agg #[.int .i64 0, .slice none 0 0], .bool false]) (by simp [results, Try.results60, go_sem, y0, y1]) rfl ?_
          rw [Er.out]
          exact ⟨none, 0, rfl, World.ownsRow_nil _ _ _ _, (k3.setCell (p := ⟨w.heap.size + 1, 0, none⟩) (by simp) _).setCell (p := ⟨w.heap.size + 1, 1, none⟩) (by simp) _⟩
        | false =>
          have x40 := x4
          rw [x4] at c4
          have Er := Lib.hid (show r = ((n : Int), exchP n l a b i j, true) by rw [← Hres.out]; have := exch_yes (c := i) (d := j) Hp.out (show fourI n a b i j = true from decide_eq_true (by omega)) (by simp [canX, x1, x2, x3, x4]); simpa using this)
          clear x1 x2 x3 x4 x10 x20 x30 x40 j1 j2 j3 j4
          go_wp2
          have rel0 := XRel.start (x1 := a) (y1 := b) (x2 := i) (y2 := j) hb3 s3 tab
          generalize ((w3.alloc (Obj.cells #[.int .i64 (a : Int), .int .i64 (b : Int)] 3)).alloc (Obj.cells #[.int .i64 (i : Int), .int .i64 (j : Int)] 3)).alloc (Obj.cells #[.slice (some ⟨w3.heap.size, 0, none⟩) 2 2, .slice (some ⟨w3.heap.size + 1, 0, none⟩) 2 2] 25) = V0 at rel0 ⊢
          have ss := s3
          generalize w3.heap.size = s at rel0 ss ⊢
          clear da db di c1 c2 c3' c4 tab hb3
          go_loopw [84] (fun q wr => ∃ (k : Nat) (t : Nat → Nat → Bool), k ≤ 2 ∧ q = .int .i64 k ∧ (k = 0 → t = adj l) ∧ (k = 1 → t = upd2 (adj l) a b false) ∧ (k = 2 → t = upd2 (upd2 (adj l) a b false) i j false) ∧ XRel W.heap.size W wr g n c3 G t s a b i j) (fun q _ => 2 - (intOf q).toNat)
          case atStart => exact ⟨0, _, by omega, rfl, fun _ => rfl, fun h => by omega, fun h => by omega, rel0⟩
          case round =>
            clear rel0
            obtain ⟨k, t, hk, rfl, t0, t1, t2, rel⟩ := hrel
            rcases (show k = 0 ∨ k = 1 ∨ k = 2 by omega) with rfl | rfl | rfl
            · have ht := t0 rfl
              clear t0 t1 t2
              obtain ⟨m0, m1, m2⟩ : _ ∧ _ ∧ _ := ⟨rel.c0, rel.a0, rel.a1⟩
              have o1 := rel.tab.outer ha
              have o2 := rel.tab.cell ha hb
              have o3 := rel.tab.frozen ha b
              have rel1 := rel.one (y := b) ha false
              go_wp2
              refine wp_region_still_tail 10 (by kernel_rfl) (by kernel_rfl) ?_
              simp only [List.take_succ_cons, List.take_zero, List.drop_succ_cons, List.drop_zero]
              repeat still_step
              refine wpStill_nil ?_
              change wpList _ _ _ _ _ (World.drew _)
              go_wp2
              generalize (wr.setCell ⟨G a, b, none⟩ (.bool false)).drew = V at rel1 ⊢
              obtain ⟨n0, n1⟩ : _ ∧ _ := ⟨rel1.a0, rel1.a1⟩
              have p1 := rel1.tab.outer hb
              have p2 := rel1.tab.cell hb ha
              have p3 := rel1.tab.frozen hb a
              have rel2 := rel1.one (y := a) hb false
              clear m0 m1 m2 o1 o2 o3 rel rel1
              refine wp_region_still_tail 10 (by kernel_rfl) (by kernel_rfl) ?_
              simp only [List.take_succ_cons, List.take_zero, List.drop_succ_cons, List.drop_zero]
              repeat still_step
              refine wpStill_nil ?_
              change wpList _ _ _ _ _ (World.drew _)
              go_wp2
              go_roundw
              case rel => exact ⟨1, _, by omega, by first | rfl | go_num, fun h => by omega, fun _ => by rw [ht]; rfl, fun h => by omega, rel2⟩
              case measure => first | decide | (simp [intOf])
            · have ht := t1 rfl
              clear t0 t1 t2
              obtain ⟨m0, m1, m2⟩ : _ ∧ _ ∧ _ := ⟨rel.c1, rel.b0, rel.b1⟩
              have o1 := rel.tab.outer hi
              have o2 := rel.tab.cell hi hj
              have o3 := rel.tab.frozen hi j
              have rel1 := rel.one (y := j) hi false
              go_wp2
              refine wp_region_still_tail 10 (by kernel_rfl) (by kernel_rfl) ?_
              simp only [List.take_succ_cons, List.take_zero, List.drop_succ_cons, List.drop_zero]
              repeat still_step
              refine wpStill_nil ?_
              change wpList _ _ _ _ _ (World.drew _)
              go_wp2
              generalize (wr.setCell ⟨G i, j, none⟩ (.bool false)).drew = V at rel1 ⊢
              obtain ⟨n0, n1⟩ : _ ∧ _ := ⟨rel1.b0, rel1.b1⟩
              have p1 := rel1.tab.outer hj
              have p2 := rel1.tab.cell hj hi
              have p3 := rel1.tab.frozen hj i
              have rel2 := rel1.one (y := i) hj false
              clear m0 m1 m2 o1 o2 o3 rel rel1
              refine wp_region_still_tail 10 (by kernel_rfl) (by kernel_rfl) ?_
              simp only [List.take_succ_cons, List.take_zero, List.drop_succ_cons, List.drop_zero]
              repeat still_step
              refine wpStill_nil ?_
              change wpList _ _ _ _ _ (World.drew _)
              go_wp2
              go_roundw
              case rel => exact ⟨2, _, by omega, by first | rfl | go_num, fun h => by omega, fun h => by omega, fun _ => by rw [ht]; rfl, rel2⟩
              case measure => first | decide | (simp [intOf])
            · have ht := t2 rfl
              subst ht
              clear t0 t1 t2
              go_wp2
              have rel0 := XRel.start (x1 := a) (y1 := i) (x2 := b) (y2 := j) rel.below rel.below.size rel.tab
              clear rel
              generalize ((wr.alloc (Obj.cells #[.int .i64 (a : Int), .int .i64 (i : Int)] 3)).alloc (Obj.cells #[.int .i64 (b : Int), .int .i64 (j : Int)] 3)).alloc (Obj.cells #[.slice (some ⟨wr.heap.size, 0, none⟩) 2 2, .slice (some ⟨wr.heap.size + 1, 0, none⟩) 2 2] 25) = V1 at rel0 ⊢
              generalize wr.heap.size = s1 at rel0 ⊢
              obtain ⟨wo, rfl⟩ : ∃ wo, wo = wr := ⟨wr, rfl⟩
              go_loopw [117] (fun q wr => ∃ (k : Nat) (t : Nat → Nat → Bool), k ≤ 2 ∧ q = .int .i64 k ∧ (k = 0 → t = upd2 (upd2 (adj l) a b false) i j false) ∧ (k = 1 → t = upd2 (upd2 (upd2 (adj l) a b false) i j false) a i true) ∧ (k = 2 → t = upd2 (upd2 (upd2 (upd2 (adj l) a b false) i j false) a i true) b j true) ∧ XRel W.heap.size W wr g n c3 G t s1 a i b j) (fun q _ => 2 - (intOf q).toNat)
              case atStart => exact ⟨0, _, by omega, rfl, fun _ => rfl, fun h => by omega, fun h => by omega, rel0⟩
              case round =>
                clear rel0
                obtain ⟨k, t, hk, rfl, t0, t1, t2, rel⟩ := hrel
                rcases (show k = 0 ∨ k = 1 ∨ k = 2 by omega) with rfl | rfl | rfl
                · have ht := t0 rfl
                  clear t0 t1 t2
                  obtain ⟨m0, m1, m2⟩ : _ ∧ _ ∧ _ := ⟨rel.c0, rel.a0, rel.a1⟩
                  have o1 := rel.tab.outer ha
                  have o2 := rel.tab.cell ha hi
                  have o3 := rel.tab.frozen ha i
                  have rel1 := rel.one (y := i) ha true
                  go_wp2
                  refine wp_region_still_tail 10 (by kernel_rfl) (by kernel_rfl) ?_
                  simp only [List.take_succ_cons, List.take_zero, List.drop_succ_cons, List.drop_zero]
                  repeat still_step
                  refine wpStill_nil ?_
                  change wpList _ _ _ _ _ (World.drew _)
                  go_wp2
                  generalize (wr.setCell ⟨G a, i, none⟩ (.bool true)).drew = V at rel1 ⊢
                  obtain ⟨n0, n1⟩ : _ ∧ _ := ⟨rel1.a0, rel1.a1⟩
                  have p1 := rel1.tab.outer hi
                  have p2 := rel1.tab.cell hi ha
                  have p3 := rel1.tab.frozen hi a
                  have rel2 := rel1.one (y := a) hi true
                  clear m0 m1 m2 o1 o2 o3 rel rel1
                  refine wp_region_still_tail 10 (by kernel_rfl) (by kernel_rfl) ?_
                  simp only [List.take_succ_cons, List.take_zero, List.drop_succ_cons, List.drop_zero]
                  repeat still_step
                  refine wpStill_nil ?_
                  change wpList _ _ _ _ _ (World.drew _)
                  go_wp2
                  refine ⟨⟨_, _, _, _, _, _, _, _, _, _, _, _, _, _, _, _, _, _, _, _, _, _, _, _, _, _, ?_, rfl⟩, ?_⟩
                  · exact ⟨1, _, by omega, by first | rfl | go_num, fun h => by omega, fun _ => by rw [ht]; rfl, fun h => by omega, rel2⟩
                  · first | decide | (simp [intOf])
                · have ht := t1 rfl
                  clear t0 t1 t2
                  obtain ⟨m0, m1, m2⟩ : _ ∧ _ ∧ _ := ⟨rel.c1, rel.b0, rel.b1⟩
                  have o1 := rel.tab.outer hb
                  have o2 := rel.tab.cell hb hj
                  have o3 := rel.tab.frozen hb j
                  have rel1 := rel.one (y := j) hb true
                  go_wp2
                  refine wp_region_still_tail 10 (by kernel_rfl) (by kernel_rfl) ?_
                  simp only [List.take_succ_cons, List.take_zero, List.drop_succ_cons, List.drop_zero]
                  repeat still_step
                  refine wpStill_nil ?_
                  change wpList _ _ _ _ _ (World.drew _)
                  go_wp2
                  generalize (wr.setCell ⟨G b, j, none⟩ (.bool true)).drew = V at rel1 ⊢
                  obtain ⟨n0, n1⟩ : _ ∧ _ := ⟨rel1.b0, rel1.b1⟩
                  have p1 := rel1.tab.outer hj
                  have p2 := rel1.tab.cell hj hb
                  have p3 := rel1.tab.frozen hj b
                  have rel2 := rel1.one (y := b) hj true
                  clear m0 m1 m2 o1 o2 o3 rel rel1
                  refine wp_region_still_tail 10 (by kernel_rfl) (by kernel_rfl) ?_
                  simp only [List.take_succ_cons, List.take_zero, List.drop_succ_cons, List.drop_zero]
                  repeat still_step
                  refine wpStill_nil ?_
                  change wpList _ _ _ _ _ (World.drew _)
                  go_wp2
                  refine ⟨⟨_, _, _, _, _, _, _, _, _, _, _, _, _, _, _, _, _, _, _, _, _, _, _, _, _, _, ?_, rfl⟩, ?_⟩
                  · exact ⟨2, _, by omega, by first | rfl | go_num, fun h => by omega, fun h => by omega, fun _ => by rw [ht]; rfl, rel2⟩
                  · first | decide | (simp [intOf])
                · have ht := t2 rfl
                  subst ht
                  clear t0 t1 t2
                  have Tab := Lib.hid rel.tab
                  have gW : Below W.heap.size W wr := rel.below
                  have k4 := kW.trans (gW.mono kW.size)
                  have v0 := carry gW HX0.out sW2
                  have v1 := carry gW HX1.out sW2
                  have v2 := (gW.frozen (p := ⟨w.heap.size + 1, 0, none⟩) sW2).trans HZ0.out
                  have v3 := (gW.frozen (p := ⟨w.heap.size + 1, 1, none⟩) sW2).trans HZ1.out
                  clear rel y0 y1 y2 y3
                  go_wp2_with fail
                  refine (paOf_any n _ _ _ G _ _ (by omega) Tab.out).mono ?_
                  rw [Htab.out]
                  rintro e w5 ⟨A5, c5, rfl, own5, hb5⟩
                  have g5 := gW.trans (hb5.mono gW.size)
                  have u0 := carry g5 HX0.out sW2
                  have u1 := carry g5 HX1.out sW2
                  have u2 := (g5.frozen (p := ⟨w.heap.size + 1, 0, none⟩) sW2).trans HZ0.out
                  have u3 := (g5.frozen (p := ⟨w.heap.size + 1, 1, none⟩) sW2).trans HZ1.out
                  have k5 := kW.trans (g5.mono kW.size)
                  have sW3 := gW.size
                  clear v0 v1 v2 v3
                  go_wp2
                  refine bodyPost_ret (v := .tuple #[.agg #[.int .i64 n, .slice A5 (exchP n l a b i j).length c5], .bool true]) (by simp [results, Try.results60, go_sem, u0, u1]) rfl ?_
                  rw [Er.out]
                  exact ⟨A5, c5, rfl, own_lower (ownsRow_setCell_below (ownsRow_setCell_below own5 (a := ⟨w.heap.size + 1, 0, none⟩) (by simp; omega) _) (a := ⟨w.heap.size + 1, 1, none⟩) (by simp; omega) _) (Nat.le_trans kW.size sW3),
                    (k5.setCell (p := ⟨w.heap.size + 1, 0, none⟩) (by simp) _).setCell (p := ⟨w.heap.size + 1, 1, none⟩) (by simp) _⟩
end Go.Proofs.Ytaemodpolopcfaa
