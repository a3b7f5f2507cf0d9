/-
  'ExchangePairs' of the program, by its contract.
-/
import Derived.Test.YtaemodpolopcfaaDiff
import Derived.Test.YtaemodpolopcfaaExchS
import Derived.Test.YtaemodpolopcfaaBox
import Derived.Test.YtaemodpolopcfaaSortP
import Derived.ArgAppend
namespace Go.Proofs.Ytaemodpolopcfaa
open Go.RowKit

/-- the worlds of the loop: the pairs to give and to take, the box of the new party -/
structure ExRel (B : Nat) (w0 wr : World) (n : Int) (g gb tb : Nat) (gv tk : PL) (v : Value) (M : PL) : Prop where
  below : Below B w0 wr
  tB : B ≤ tb
  tg : tb < gb
  gg : gb < g
  box : wr.heap[g]? = some (.cells #[.int .i64 n, v] 29 (0, 0))
  giv : wr.heap[gb]? = some (.cells (pcells gv).toArray 72 (0, 0))
  tak : wr.heap[tb]? = some (.cells (pcells tk).toArray 72 (0, 0))
  row : (v = .slice (some ⟨gb, 0, none⟩) gv.length gv.length ∧ M = gv) ∨ (wr.ownsRow (g + 1) 72 2 v M.length (pcells M))
section
variable {B g gb tb : Nat} {w0 wr W1 w1 : World} {n : Int} {v v' : Value} {gv tk M M' : PL}
theorem ExRel.lt (h : ExRel B w0 wr n g gb tb gv tk v M) : g < wr.heap.size := lt_of_heap h.box
theorem ExRel.le (h : ExRel B w0 wr n g gb tb gv tk v M) : B ≤ wr.heap.size := by have := h.lt; have := h.tB; have := h.tg; have := h.gg; omega
theorem ExRel.kept (h : ExRel B w0 wr n g gb tb gv tk v M) (hW : Below wr.heap.size wr W1) : ExRel B w0 W1 n g gb tb gv tk v M :=
  ⟨h.below.trans (hW.mono h.le), h.tB, h.tg, h.gg, (hW.block _ h.lt).trans h.box, (hW.block _ (Nat.lt_trans h.gg h.lt)).trans h.giv, (hW.block _ (Nat.lt_trans h.tg (Nat.lt_trans h.gg h.lt))).trans h.tak,
    h.row.imp id fun ho => own_below ho hW (Nat.le_refl _)⟩
theorem ExRel.cells (h : ExRel B w0 wr n g gb tb gv tk v M) : wr.cell? ⟨g, 0, none⟩ = some (.int .i64 n) ∧ wr.cell? ⟨g, 1, none⟩ = some v ∧ ∀ j, wr.frozen? ⟨g, j, none⟩ = false :=
  ⟨by rw [cell_of_row _ _ _ _ _ _ h.box]; rfl, by rw [cell_of_row _ _ _ _ _ _ h.box]; rfl, fun j => frozen_of_row _ _ j _ _ h.box⟩
theorem read_block {w : World} {b : Nat} {q : PL} (h : w.heap[b]? = some (.cells (pcells q).toArray 72 (0, 0))) : CRead w w.heap.size (some ⟨b, 0, none⟩) (pcells q) := fun j u hu =>
  ⟨b, 0, rfl, lt_of_heap h, by rw [Nat.zero_add, cell_of_row _ _ _ _ _ _ h]; simpa using hu⟩
theorem ExRel.given (h : ExRel B w0 wr n g gb tb gv tk v M) : CRead wr wr.heap.size (some ⟨gb, 0, none⟩) (pcells gv) := read_block h.giv
theorem ExRel.taken (h : ExRel B w0 wr n g gb tb gv tk v M) : CRead wr wr.heap.size (some ⟨tb, 0, none⟩) (pcells tk) := read_block h.tak
/-- whichever it is, the row is the call's own, and not the box -/
theorem ExRel.own (h : ExRel B w0 wr n g gb tb gv tk v M) (hg : gv.length ≤ 1000) : wr.ownsRow gb 72 2 v M.length (pcells M) ∧ v.ownBlock ≠ some g ∧ ∀ k, v.ownBlock = some k → gb ≤ k := by
  rcases h.row with ⟨rfl, rfl⟩ | ho
  · refine ⟨⟨pcells_length _, .inr ⟨gb, M.length, (pcells M).toArray, rfl, Nat.le_refl _, h.giv, Nat.le_refl _, by unfold maxLen; omega, by simp [pcells_length], by rw [← pcells_length, List.take_length]⟩⟩, ?_, ?_⟩
    · have := h.gg
      simp [Value.ownBlock]
      omega
    · intro k hk
      simp [Value.ownBlock] at hk
      omega
  · have hlt := ho.lt
    refine ⟨own_lower ho (by have := h.gg; omega), fun e => ?_, fun k hk => ?_⟩
    · have := (hlt g e).1; omega
    · have := (hlt k hk).1; have := h.gg; omega
/-- what stands behind an append onto a row that is not the box, nor the pairs to give and to take -/
theorem ExRel.grown (h : ExRel B w0 wr n g gb tb gv tk v M) (hW : Below wr.heap.size wr W1) {row : Option Nat} (hg : W1.grownBy w1 row) (hr : ∀ k, row = some k → g + 1 ≤ k) :
    w1.heap[g]? = some (.cells #[.int .i64 n, v] 29 (0, 0)) ∧ w1.heap[gb]? = some (.cells (pcells gv).toArray 72 (0, 0)) ∧ w1.heap[tb]? = some (.cells (pcells tk).toArray 72 (0, 0)) ∧ Below B w0 w1 ∧ w1.frozen? ⟨g, 1, none⟩ = false ∧ w1.cell? ⟨g, 1, none⟩ = some v := by
  have hlt := h.lt
  have h1 := h.gg
  have h2 := h.tg
  have h3 := h.tB
  have hs := hW.size
  have hb : ∀ k, k ≤ g → w1.heap[k]? = wr.heap[k]? := fun k hk => by
    rw [hg.block k (by omega) (fun e => by have := hr k e.symm; omega), hW.block k (by omega)]
  have e := (hb g (Nat.le_refl _)).trans h.box
  refine ⟨e, (hb gb (by omega)).trans h.giv, (hb tb (by omega)).trans h.tak, ?_, frozen_of_row _ _ 1 _ _ e, by rw [cell_of_row _ _ _ _ _ _ e]; rfl⟩
  exact (h.below.trans (hW.mono h.le)).grown hg (Nat.le_trans h.le hs) (fun k hk => by have := hr k hk; omega)
theorem ExRel.push {x y : Int} (h : ExRel B w0 wr n g gb tb gv tk v M) (hW : Below wr.heap.size wr W1) {row : Option Nat} (hg : W1.grownBy w1 row) (hr : ∀ k, row = some k → g + 1 ≤ k)
    (hown : w1.ownsRow (g + 1) 72 2 v' (M.length + 1) (pcells M ++ [.int .i64 x, .int .i64 y])) : ExRel B w0 (w1.setCell ⟨g, 1, none⟩ v') n g gb tb gv tk v' (M ++ [(x, y)]) := by
  obtain ⟨e, e1, e2, hb, _, _⟩ := h.grown hW hg hr
  have h1 := h.gg
  have h2 := h.tg
  have h3 := h.tB
  refine ⟨hb.setCell (p := ⟨g, 1, none⟩) (by show B ≤ g; omega) _, h.tB, h.tg, h.gg, heap_setCell_same w1 g 1 _ _ v' e, ?_, ?_, .inr ?_⟩
  · rw [heap_setCell_other _ _ _ _ (by simp; omega)]; exact e1
  · rw [heap_setCell_other _ _ _ _ (by simp; omega)]; exact e2
  · have el : (M ++ [(x, y)]).length = M.length + 1 := by simp
    rw [el, pcells_append]
    exact ownsRow_setCell_below hown (a := ⟨g, 1, none⟩) (Nat.lt_succ_self g) _
end

theorem made_len' {p : Int} {l : PL} {a b c d : Int} (hp : isP p l = true) (h4 : fourI p a b c d = true) : (madeP l a b c d).length = l.length ↔ areF l a b = true ∧ areF l c d = true := by
  obtain ⟨n, rfl⟩ : ∃ n : Nat, p = n := ⟨p.toNat, by have := isP_range hp; omega⟩
  exact made_len hp h4
theorem made_sorted' {p : Int} {l : PL} {a b c d : Int} (hp : isP p l = true) (h4 : fourI p a b c d = true) (hac : areF l a c = false) (hbd : areF l b d = false) : sortP (madeP l a b c d) = exchP p.toNat l a b c d := by
  obtain ⟨n, rfl⟩ : ∃ n : Nat, p = n := ⟨p.toNat, by have := isP_range hp; omega⟩
  exact made_sorted hp h4 hac hbd

set_option maxHeartbeats 4000000 in
set_option maxRecDepth 100000 in
theorem implExchangePairs_any (p : Int) (l : PL) (A : Option Addr) (c : Nat) (a b i j : Int) (w : World) (hl : l.length ≤ 1048576) (hA : CRead w w.heap.size A (pcells l)) :
    Calls Try.prog 29 #[.agg #[.int .i64 p, .slice A l.length c], .int .i64 a, .int .i64 b, .int .i64 i, .int .i64 j] w (GotPartyOk w (resExchangePairs p l a b i j).1 (resExchangePairs p l a b i j).2.1 (resExchangePairs p l a b i j).2.2) := by
  obtain ⟨i0, hi, hz0, hz1, hz2⟩ := info_parts Try.infoPair
  generalize hW : (w.alloc (Obj.cells #[.int .i64 p, .slice A l.length c] 29)).alloc (Obj.cells #[.int .i64 0, .slice none 0 0] 29) = W
  have a0 : W.cell? ⟨w.heap.size, 0, none⟩ = some (.int .i64 p) := by rw [← hW]; simp
  have a1 : W.cell? ⟨w.heap.size, 1, none⟩ = some (.slice A l.length c) := by rw [← hW]; simp
  have X0 : W.cell? ⟨w.heap.size + 1, 0, none⟩ = some (.int .i64 0) := by rw [← hW]; simp
  have X1 : W.cell? ⟨w.heap.size + 1, 1, none⟩ = some (.slice none 0 0) := by rw [← hW]; simp
  have Z0 : W.frozen? ⟨w.heap.size + 1, 0, none⟩ = false := by rw [← hW]; simp
  have Z1 : W.frozen? ⟨w.heap.size + 1, 1, none⟩ = false := by rw [← hW]; simp
  have kW : Below w.heap.size w W := by rw [← hW]; go_grown
  have sW1 : w.heap.size < W.heap.size := by rw [← hW]; simp only [World.size_alloc]; omega
  have sW2 : w.heap.size + 1 < W.heap.size := by rw [← hW]; simp
  have RA := (hA.below kW (Nat.le_refl _)).more kW.size
  have HW := Lib.hid hW
  obtain ⟨r, hres⟩ : ∃ r, resExchangePairs p l a b i j = r := ⟨_, rfl⟩
  rw [hres]
  have Hres := Lib.hid hres
  clear hW hres
  cases hp : isP p l with
  | false =>
    have Er := Lib.hid (show r = (0, [], false) by rw [← Hres.out]; unfold resExchangePairs; simp [hp])
    have Hp := Lib.hid hp
    clear hp
    go_enter Try.func29, Try.ntmps29
    go_wp2_with fail
    rw [HW.out]
    refine (isParty_any _ _ _ _ _ hl RA).mono ?_
    rw [Hp.out]
    rintro e w2 ⟨rfl, hb2⟩
    have y0 := carry hb2 X0 sW2
    have y1 := carry hb2 X1 sW2
    have y2 := (hb2.frozen (p := ⟨w.heap.size + 1, 0, none⟩) sW2).trans Z0
    have y3 := (hb2.frozen (p := ⟨w.heap.size + 1, 1, none⟩) sW2).trans Z1
    have k2 := kW.trans (hb2.mono kW.size)
    clear a0 a1 X0 X1 Z0 Z1
    go_wp2
    refine bodyPost_ret (v := .tuple #[.agg #[.int .i64 0, .slice none 0 0], .bool false]) (by simp [results, Try.results29, go_sem, y0, y1]) rfl ?_
    rw [Er.out]
    exact ⟨none, 0, rfl, World.ownsRow_nil _ _ _ _, (k2.setCell (p := ⟨w.heap.size + 1, 0, none⟩) (by simp) _).setCell (p := ⟨w.heap.size + 1, 1, none⟩) (by simp) _⟩
  | true =>
    have hn := isP_range hp
    have hl66 : l.length ≤ 66 := by have h1 := isP_length hp; have h2 := people_sq hn.1 hn.2; omega
    have Hp := Lib.hid hp
    clear hp
    go_enter Try.func29, Try.ntmps29
    go_wp2_with fail
    rw [HW.out]
    refine (isParty_any _ _ _ _ _ hl RA).mono ?_
    rw [Hp.out]
    rintro e w2 ⟨rfl, hb2⟩
    have c0 := carry hb2 a0 sW1
    have c1 := carry hb2 a1 sW1
    have s2 := hb2.size
    go_wp2_with fail
    have kq : ∀ v : World, v = w2.alloc (Obj.cells #[.int .i64 a, .int .i64 b, .int .i64 i, .int .i64 j] 3) → CRead v v.heap.size (some ⟨w2.heap.size, 0, none⟩) (icells [a, b, i, j]) := fun v hv m u hu => by
      subst hv
      refine ⟨w2.heap.size, 0, rfl, by simp, ?_⟩
      rw [Nat.zero_add, cell_of_row _ _ _ _ _ _ (heap_alloc_new w2 _)]
      simpa [icells] using hu
    have h := areDifferent_any p [a, b, i, j] A (some ⟨w2.heap.size, 0, none⟩) l.length c 4 (w2.alloc (Obj.cells #[.int .i64 a, .int .i64 b, .int .i64 i, .int .i64 j] 3)) (by simp) (by simp) (kq _ rfl)
    rw [diff_four] at h
    refine Calls.mono h ?_
    clear h kq
    rintro e w3 ⟨rfl, hb3⟩
    simp only [World.size_alloc] at hb3
    have g3 : Below W.heap.size W w3 := (hb2.alloc s2 _).trans (hb3.mono (by omega))
    have s3 := g3.size
    have d0 := carry g3 a0 sW1
    have d1 := carry g3 a1 sW1
    clear c0 c1
    cases h4 : fourI p a b i j with
    | false =>
      have Er := Lib.hid (show r = (0, [], false) by rw [← Hres.out]; exact exch_not (.inl h4))
      have y0 := carry g3 X0 sW2
      have y1 := carry g3 X1 sW2
      have y2 := (g3.frozen (p := ⟨w.heap.size + 1, 0, none⟩) sW2).trans Z0
      have y3 := (g3.frozen (p := ⟨w.heap.size + 1, 1, none⟩) sW2).trans Z1
      have k2 := kW.trans (g3.mono kW.size)
      clear a0 a1 X0 X1 Z0 Z1 d0 d1 h4
      go_wp2
      refine bodyPost_ret (v := .tuple #[.agg #[.int .i64 0, .slice none 0 0], .bool false]) (by simp [results, Try.results29, go_sem, y0, y1]) rfl ?_
      rw [Er.out]
      exact ⟨none, 0, rfl, World.ownsRow_nil _ _ _ _, (k2.setCell (p := ⟨w.heap.size + 1, 0, none⟩) (by simp) _).setCell (p := ⟨w.heap.size + 1, 1, none⟩) (by simp) _⟩
    | true =>
      have H4 := Lib.hid h4
      clear h4
      go_wp2_with fail
      refine (pairOf_any a b _).mono ?_
      rintro e w4 ⟨rfl, hb4⟩
      have g4 := g3.trans (hb4.mono s3)
      go_wp2_with fail
      refine (pairOf_any i j _).mono ?_
      rintro e w5 ⟨rfl, hb5⟩
      have g5 := g4.trans (hb5.mono g4.size)
      have tk5 := heap_alloc_new w5 (Obj.cells #[.int .i64 (min a b), .int .i64 (max a b), .int .i64 (min i j), .int .i64 (max i j)] 72)
      go_wp2_with fail
      refine (pairOf_any a i _).mono ?_
      rintro e w6 ⟨rfl, hb6⟩
      simp only [World.size_alloc] at hb6
      have s6 := hb6.size
      simp only [World.size_alloc] at s6
      have g6 : Below W.heap.size W w6 := (g5.alloc g5.size _).trans (hb6.mono (by have := g5.size; omega))
      have tk6 := (hb6.block _ (Nat.lt_succ_self _)).trans tk5
      go_wp2_with fail
      refine (pairOf_any b j _).mono ?_
      rintro e w7 ⟨rfl, hb7⟩
      have s7 := hb7.size
      have g7 := g6.trans (hb7.mono g6.size)
      have tk7 := (hb7.block _ (by omega)).trans tk6
      have z7 := g7.size
      have e0 := carry g7 a0 sW1
      have e1 := carry g7 a1 sW1
      have q0 : (w7.alloc (Obj.cells #[.int .i64 (min a i), .int .i64 (max a i), .int .i64 (min b j), .int .i64 (max b j)] 72)).cell? ⟨w.heap.size, 0, none⟩ = some (.int .i64 p) := (World.cell?_alloc_lt _ _ _ (show w.heap.size < w7.heap.size by omega)).trans e0
      have q1 : ((w7.alloc (Obj.cells #[.int .i64 (min a i), .int .i64 (max a i), .int .i64 (min b j), .int .i64 (max b j)] 72)).alloc (Obj.cells #[.int .i64 p, .slice (some ⟨w7.heap.size, 0, none⟩) 2 2] 29)).cell? ⟨w.heap.size, 1, none⟩ = some (.slice A l.length c) :=
        (World.cell?_alloc_lt _ _ _ (by simp only [World.size_alloc]; omega)).trans ((World.cell?_alloc_lt _ _ _ (show w.heap.size < w7.heap.size by omega)).trans e1)
      have rel0 : ExRel W.heap.size W ((w7.alloc (Obj.cells #[.int .i64 (min a i), .int .i64 (max a i), .int .i64 (min b j), .int .i64 (max b j)] 72)).alloc (Obj.cells #[.int .i64 p, .slice (some ⟨w7.heap.size, 0, none⟩) 2 2] 29)) p (w7.heap.size + 1) w7.heap.size w5.heap.size (givenP a b i j) (takenP a b i j) (.slice (some ⟨w7.heap.size, 0, none⟩) 2 2) (madeP (l.take 0) a b i j) := by
        refine ⟨(g7.alloc z7 _).alloc (by simp only [World.size_alloc]; omega) _, g5.size, by omega, by omega, ?_, ?_, ?_, .inl ⟨rfl, by simp [madeP, leftP]⟩⟩
        · have := heap_alloc_new (w7.alloc (Obj.cells #[.int .i64 (min a i), .int .i64 (max a i), .int .i64 (min b j), .int .i64 (max b j)] 72)) (Obj.cells #[.int .i64 p, .slice (some ⟨w7.heap.size, 0, none⟩) 2 2] 29)
          simpa using this
        · exact (Below.heap_alloc _ _ _ (by simp)).trans (heap_alloc_new w7 _)
        · exact (Below.heap_alloc _ _ _ (by simp only [World.size_alloc]; omega)).trans ((Below.heap_alloc _ _ _ (by omega)).trans tk7)
      clear d0 d1 a0 e0 tk5 tk6 tk7 hb2 hb3 hb4 hb5 hb6 hb7 g3 g4 g5 g6
      go_wp2
      clear q0 q1
      generalize (w7.alloc (Obj.cells #[.int .i64 (min a i), .int .i64 (max a i), .int .i64 (min b j), .int .i64 (max b j)] 72)).alloc (Obj.cells #[.int .i64 p, .slice (some ⟨w7.heap.size, 0, none⟩) 2 2] 29) = X at rel0 ⊢
      generalize w7.heap.size + 1 = g at rel0 ⊢
      generalize w7.heap.size = gb at rel0 ⊢
      generalize w5.heap.size = tb at rel0 ⊢
      go_loopw [52] (fun q wr => ∃ (k : Nat) (v : Value), k ≤ l.length ∧ q = .int .i64 k ∧ (∀ m r, m < k → l[m]? = some r → (givenP a b i j).contains r = false) ∧ ExRel W.heap.size W wr p g gb tb (givenP a b i j) (takenP a b i j) v (madeP (l.take k) a b i j)) (fun q _ => l.length - (intOf q).toNat)
      case atStart => exact ⟨0, _, Nat.zero_le _, rfl, fun m r hm => by omega, rel0⟩
      case round =>
        clear rel0
        obtain ⟨k, v, hk, rfl, hg, rel⟩ := hrel
        have Hg := Lib.hid hg
        have gX : Below W.heap.size W wr := rel.below
        have kX := kW.trans (gX.mono kW.size)
        have hlt2 := rel.lt
        have h12 := rel.gg
        have h13 := rel.tg
        have hmlen : (madeP (l.take k) a b i j).length ≤ 70 := by
          have h1 : (leftP (l.take k) a b i j).length ≤ (l.take k).length := List.length_filter_le _ _
          have h2 : (l.take k).length ≤ 66 := by rw [List.length_take]; omega
          simp [madeP, givenP]; omega
        clear hg
        by_cases hlt : k < l.length
        · obtain ⟨⟨x, y⟩, hx⟩ := getSome l k hlt
          obtain ⟨bb, off, rfl, hbb, u0, u1⟩ := (hA.below kX (Nat.le_refl _)).pair hx
          have hki : (k : Int) < (l.length : Int) := by omega
          have Hx := Lib.hid hx
          have k1 : Below wr.heap.size wr (wr.alloc (Obj.cells #[.int .i64 x, .int .i64 y] 72)) := by go_grown
          have rel1 := rel.kept k1
          have hc1 : Calls Try.prog 63 #[.slice (some ⟨gb, 0, none⟩) 2 2, .agg #[.int .i64 x, .int .i64 y]] (wr.alloc (Obj.cells #[.int .i64 x, .int .i64 y] 72)) _ := contains_any (givenP a b i j) x y (some ⟨gb, 0, none⟩) 2 _ (by simp [givenP]) rel1.given
          clear hx
          go_wp2_with fail
          refine hc1.mono ?_
          clear hc1
          rintro e w2 ⟨rfl, hb2⟩
          simp only [World.size_alloc] at hb2
          have m0 : w2.cell? ⟨wr.heap.size, 0, none⟩ = some (.int .i64 x) := carry hb2 (by simp) (by omega)
          have m1 : w2.cell? ⟨wr.heap.size, 1, none⟩ = some (.int .i64 y) := carry hb2 (by simp) (by omega)
          have rel2 := rel1.kept (by simpa using hb2)
          clear rel1 u0 u1
          cases hgv : (givenP a b i j).contains (x, y) with
          | true =>
            have Er := Lib.hid (show r = (0, [], false) by
              rw [← Hres.out]
              refine exch_not (.inr ?_)
              rw [given_contains, decide_eq_true_eq] at hgv
              have hm := List.mem_of_getElem? Hx.out
              unfold canX
              rcases hgv with e | e <;> rw [e] at hm <;> simp [areF_mem.2 hm])
            have y0 := carry rel2.below X0 sW2
            have y1 := carry rel2.below X1 sW2
            have y2 := (rel2.below.frozen (p := ⟨w.heap.size + 1, 0, none⟩) sW2).trans Z0
            have y3 := (rel2.below.frozen (p := ⟨w.heap.size + 1, 1, none⟩) sW2).trans Z1
            have k2 := kW.trans (rel2.below.mono kW.size)
            clear hgv m0 m1 rel rel2
            go_wp2
            refine bodyPost_ret (v := .tuple #[.agg #[.int .i64 0, .slice none 0 0], .bool false]) (by simp [results, Try.results29, go_sem, y0, y1]) rfl ?_
            rw [Er.out]
            exact ⟨none, 0, rfl, World.ownsRow_nil _ _ _ _, (k2.setCell (p := ⟨w.heap.size + 1, 0, none⟩) (by simp) _).setCell (p := ⟨w.heap.size + 1, 1, none⟩) (by simp) _⟩
          | false =>
            have Hgv := Lib.hid hgv
            have hc2 : Calls Try.prog 63 #[.slice (some ⟨tb, 0, none⟩) 2 2, .agg #[.int .i64 x, .int .i64 y]] w2 _ := contains_any (takenP a b i j) x y (some ⟨tb, 0, none⟩) 2 _ (by simp [takenP]) rel2.taken
            clear hgv
            go_wp2_with fail
            refine hc2.mono ?_
            clear hc2
            rintro e w3 ⟨rfl, hb3⟩
            have hs2 : wr.heap.size + 1 ≤ w2.heap.size := by have := hb2.size; simpa using this
            have n0 := carry hb3 m0 (by omega)
            have n1 := carry hb3 m1 (by omega)
            have rel3 := rel2.kept hb3
            have hlt3 := rel3.lt
            have hs3 := hb3.size
            clear m0 m1 rel2
            have Hnext := Lib.hid (show ∀ m r, m < k + 1 → l[m]? = some r → (givenP a b i j).contains r = false from fun m r hm hr => by
              by_cases hmk : m = k
              · subst hmk
                rw [Hx.out] at hr
                simp only [Option.some.injEq] at hr
                rw [← hr]
                exact Hgv.out
              · exact Hg.out m r (by omega) hr)
            have Hsn := Lib.hid (leftP_snoc (l.take k) a b i j (x, y))
            cases htk : (takenP a b i j).contains (x, y) with
            | true =>
              have Hm := Lib.hid (show madeP (l.take (k + 1)) a b i j = madeP (l.take k) a b i j by
                unfold madeP
                rw [List.take_add_one, Hx.out, Option.toList_some, Hsn.out, htk, if_pos rfl, List.append_nil])
              clear htk n0 n1 rel
              go_wp2
              go_roundw
              case rel => exact ⟨k + 1, v, by omega, by go_num, Hnext.out, by rw [Hm.out]; exact rel3⟩
              case measure => simp [intOf]; omega
            | false =>
              have Hm := Lib.hid (show madeP (l.take (k + 1)) a b i j = madeP (l.take k) a b i j ++ [(x, y)] by
                unfold madeP
                rw [List.take_add_one, Hx.out, Option.toList_some, Hsn.out, htk, if_neg (by simp), List.append_assoc])
              obtain ⟨_, q1, _⟩ := rel3.cells
              have kA : Below w3.heap.size w3 (w3.alloc (Obj.cells #[.int .i64 x, .int .i64 y] 72)) := by go_grown
              clear htk rel
              rcases rel3.row with ⟨rfl, hM⟩ | ho
              · have HM := Lib.hid hM
                have hgl : (givenP a b i j).length = 2 := rfl
                have hread := Lib.hid (rel3.kept kA).given
                have Rel3 := Lib.hid rel3
                rw [hgl] at q1
                clear hM hgl rel3
                go_wp2_with (at_builtin; refine wpList_append_grows _ rfl _ _ 27 rfl 72 i0 _ 2 16 Try.underlying27 hi hz0 hz1 hz2 rfl (by decide) (some ⟨gb, 0, none⟩) 2 2 (pcells (givenP a b i j)) rfl (fun h => by cases h) rfl (fun b' hb' m u hu => by cases hb'; exact read_add_P hread.out m u hu) ⟨w3.heap.size, 0, none⟩ 1 1 [.int .i64 x, .int .i64 y] rfl rfl (two_cells (by simp) (by simp)) (two_one rfl rfl) (by decide) (by unfold maxLen; decide) (by decide) ?_; intro v1 w4 own4 gr4; obtain ⟨A4, d4, rfl, _⟩ := own_shape own4; have hr1 := Rel3.out.push (x := x) (y := y) (v' := .slice A4 (2 + 1) d4) kA gr4 (fun q hq => by cases hq) (by rw [HM.out]; exact own_lower own4 (by simp only [World.size_alloc]; omega)); obtain ⟨_, _, _, _, f1, f2⟩ := Rel3.out.grown kA gr4 (fun q hq => by cases hq))
                go_roundw
                case rel => exact ⟨k + 1, _, by omega, by go_num, Hnext.out, by rw [Hm.out]; exact hr1⟩
                case measure => simp [intOf]; omega
              · obtain ⟨A3, c3, rfl, _⟩ := own_shape ho
                have hlies : ∀ q, (Value.slice A3 (madeP (l.take k) a b i j).length c3).ownBlock = some q → g + 1 ≤ q := fun q hq => (ho.lt q hq).1
                have Rel3 := Lib.hid rel3
                clear rel3
                go_wp2_with (at_builtin; refine wpList_append_own _ rfl _ _ 27 rfl (g + 1) 72 i0 _ 2 16 Try.underlying27 hi hz0 hz1 hz2 rfl (by decide) _ _ _ rfl (ho.alloc _) ⟨w3.heap.size, 0, none⟩ 1 1 [.int .i64 x, .int .i64 y] rfl rfl (two_cells (by simp) (by simp)) (two_one rfl rfl) (by unfold maxLen; omega) (by omega) (by simp; omega) ?_; intro v1 w4 own4 gr4 _; obtain ⟨A4, d4, rfl, _⟩ := own_shape own4; have hr1 := Rel3.out.push kA gr4 hlies own4; obtain ⟨_, _, _, _, f1, f2⟩ := Rel3.out.grown kA gr4 hlies)
                go_roundw
                case rel => exact ⟨k + 1, _, by omega, by go_num, Hnext.out, by rw [Hm.out]; exact hr1⟩
                case measure => simp [intOf]; omega
        · have hkl : k = l.length := by omega
          subst hkl
          have hge : ¬ ((l.length : Int) < (l.length : Int)) := by omega
          rw [List.take_length] at rel hmlen
          have hno : ∀ q, q ∈ l → (givenP a b i j).contains q = false := fun q hq => by
            obtain ⟨m, hm, e⟩ := List.getElem_of_mem hq
            exact Hg.out m q hm (by rw [List.getElem?_eq_getElem hm, e])
          have hai : areF l a i = false := by
            rw [Bool.eq_false_iff]
            intro h
            have := hno _ (areF_mem.1 h)
            rw [given_contains, decide_eq_false_iff_not] at this
            exact this (.inl rfl)
          have hbj : areF l b j = false := by
            rw [Bool.eq_false_iff]
            intro h
            have := hno _ (areF_mem.1 h)
            rw [given_contains, decide_eq_false_iff_not] at this
            exact this (.inr rfl)
          obtain ⟨ho, hng, hlo⟩ := rel.own (by simp [givenP])
          obtain ⟨A3, c3, rfl, _⟩ := own_shape ho
          obtain ⟨q0, q1, _⟩ := rel.cells
          have p1 := carry rel.below a1 sW1
          have hml := made_len' Hp.out H4.out
          by_cases hlen : (madeP l a b i j).length = l.length
          · have hx := hml.1 hlen
            have Er := Lib.hid (show r = (p, sortP (madeP l a b i j), true) by
              rw [← Hres.out, made_sorted' Hp.out H4.out hai hbj]
              exact exch_yes Hp.out H4.out (by simp [canX, hx.1, hx.2, hai, hbj]))
            have hle : ((madeP l a b i j).length : Int) = (l.length : Int) := by omega
            have Rel := Lib.hid rel
            have Ho := Lib.hid ho
            have Hlen := Lib.hid hlen
            clear rel ho hml hno hlen hx
            rw [Hlen.out] at q1
            clear hle
            go_wp2_with fail
            have hs := sortP_any (madeP l a b i j) A3 c3 gb wr (by omega) Ho.out
            rw [Hlen.out] at hs
            refine hs.mono ?_
            clear hs
            rintro e w4 ⟨rfl, own4, _, s4, gr4⟩
            have bx := (gr4.block g Rel.out.lt (fun e => hng (by rw [Hlen.out]; exact e.symm))).trans Rel.out.box
            have g4 : Below W.heap.size W w4 := Rel.out.below.grown gr4 Rel.out.le (fun q hq => by have := hlo q (by rw [Hlen.out]; exact hq); have h1 := Rel.out.tB; have h2 := Rel.out.tg; omega)
            have o0 : w4.cell? ⟨g, 0, none⟩ = some (.int .i64 p) := by rw [cell_of_row _ _ _ _ _ _ bx]; rfl
            have o1 : w4.cell? ⟨g, 1, none⟩ = some (.slice A3 l.length c3) := by rw [cell_of_row _ _ _ _ _ _ bx, Hlen.out]; rfl
            have y0 := carry g4 X0 sW2
            have y1 := carry g4 X1 sW2
            have y2 := (g4.frozen (p := ⟨w.heap.size + 1, 0, none⟩) sW2).trans Z0
            have y3 := (g4.frozen (p := ⟨w.heap.size + 1, 1, none⟩) sW2).trans Z1
            have k4 := kW.trans (g4.mono kW.size)
            have hsl : (sortP (madeP l a b i j)).length = l.length := by rw [sortP_length, Hlen.out]
            have Hsl := Lib.hid hsl
            have Own4 := Lib.hid own4
            have hgb : W.heap.size ≤ gb := by have h1 := Rel.out.tB; have h2 := Rel.out.tg; omega
            clear q0 q1 p1 bx gr4 hsl own4 X0 X1 Z0 Z1
            go_wp2
            refine bodyPost_ret (v := .tuple #[.agg #[.int .i64 p, .slice A3 l.length c3], .bool true]) (by simp [results, Try.results29, go_sem, y0, y1]) rfl ?_
            rw [Er.out]
            refine ⟨A3, c3, by rw [Hsl.out], ?_, (k4.setCell (p := ⟨w.heap.size + 1, 0, none⟩) (by simp) _).setCell (p := ⟨w.heap.size + 1, 1, none⟩) (by simp) _⟩
            rw [Hsl.out]
            exact own_lower (ownsRow_setCell_below (ownsRow_setCell_below Own4.out (a := ⟨w.heap.size + 1, 0, none⟩) (by show w.heap.size + 1 < gb; omega) _) (a := ⟨w.heap.size + 1, 1, none⟩) (by show w.heap.size + 1 < gb; omega) _) (by omega)
          · have Er := Lib.hid (show r = (0, [], false) by
              rw [← Hres.out]
              refine exch_not (.inr ?_)
              unfold canX
              rw [Bool.eq_false_iff]
              intro h
              simp only [Bool.and_eq_true] at h
              exact hlen (hml.2 h.1))
            have y0 := carry rel.below X0 sW2
            have y1 := carry rel.below X1 sW2
            have y2 := (rel.below.frozen (p := ⟨w.heap.size + 1, 0, none⟩) sW2).trans Z0
            have y3 := (rel.below.frozen (p := ⟨w.heap.size + 1, 1, none⟩) sW2).trans Z1
            have hle : ¬ (((madeP l a b i j).length : Int) = (l.length : Int)) := by omega
            have hle2 : ((((madeP l a b i j).length : Int) == (l.length : Int))) = false := beq_eq_false_iff_ne.2 hle
            clear rel ho hml hno hlen
            go_wp2
            refine bodyPost_ret (v := .tuple #[.agg #[.int .i64 0, .slice none 0 0], .bool false]) (by simp [results, Try.results29, go_sem, y0, y1]) rfl ?_
            rw [Er.out]
            exact ⟨none, 0, rfl, World.ownsRow_nil _ _ _ _, (kX.setCell (p := ⟨w.heap.size + 1, 0, none⟩) (by simp) _).setCell (p := ⟨w.heap.size + 1, 1, none⟩) (by simp) _⟩
end Go.Proofs.Ytaemodpolopcfaa
