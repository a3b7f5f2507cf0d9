/-
  Texts put together for the claims of 'Cols' (pack 6): ColN, ColO, Head, Facts, Ints.
-/
import Derived.Test.YthddlpghjkiioaaColsP1
import Derived.Test.YthddlpghjkiioaaColsP5
import Derived.Test.YthddlpghjkiioaaRows
/-
  THE FIRST COLOURING WITH THE FEWEST COLOURS: 'firstColouring', 'FewestColours', 'FirstColouring' of the program, by their contracts.
-/
namespace Go.Proofs.Ythddlpghjkiioaa
open Go.RowKit Go.Shelf
attribute [local go_sem] Oper.semAt_some

/-- A range over an iterator of two values; its variables are assigned ahead of the body. -/
theorem wp_rangeFunc_asg2 {P : Program} {α : Type} {g : Operand} {p p' : Tmp} {assign body : Code} {Q : Exit → Act → World → Prop} {a : Act} {w : World} {gf : Nat} {lb : Array Value} (hg : a.eval g = .func (.func gf) #[] lb)
    (eg : ∀ args w, (callFunc gf args).run P w = .ok (.enter gf args) w) {R : Nat → Prop} {Rd : (Nat → Prop) → α → Array Value → World → Prop} {xs : List α} (hseq : Seq P gf lb R Rd xs w) (hR : ∀ j, R j → j < w.heap.size)
    (hRd : ∀ T x args A C, Rd T x args A → Stays T A C → Rd T x args C) (hps : ∀ T x args W, Rd T x args W → args.size = 2)
    (I : (Nat → Prop) → List α → World → Prop) (Ix : Code → List α → World → Prop) (hI : Held I) (hIx : ∀ c pre A C, Ix c pre A → Apart (fun j => j = w.heap.size + 1) A C → Ix c pre C) (h0 : I (fun _ => False) [] w)
    (a₁ : Value → Value → Act)
    (hassign : ∀ (l : Nat) (v v' : Value) (W : World) (K : Act → World → Prop), K (a₁ v v') W → assign.wpIn (Fence.wide.inRound l) 3 P (Exit.then K (fun _ _ _ => False)) { tmps := (a.tmps.setIfInBounds p v).setIfInBounds p' v', defers := [] } W)
    (hbody : ∀ (l : Nat) (T S : Nat → Prop) (pre : List α) (x : α) (v v' : Value) (W : World), I S pre W → Rd T x #[v, v'] W → (∀ j, T j → S j) → w.heap.size + 2 ≤ W.heap.size → (∀ j, T j → j < w.heap.size ∨ w.heap.size + 2 ≤ j) → pre ++ [x] <+: xs →
      body.wpIn (Fence.wide.inRound l) 3 P (iterPost w.heap.size S R I Ix (pre ++ [x]) W) (a₁ v v') W)
    (hdone : ∀ (S : Nat → Prop) (W : World), I S xs W → W.heap[w.heap.size]? = some (.deferred (some [])) → Q .normal { a with defers := { target := .collected w.heap.size, args := #[] } :: a.defers } W)
    (hstop : ∀ (c : Code) (pre : List α) (x : α) (W : World), pre ++ [x] <+: xs → Ix c (pre ++ [x]) W → W.heap[w.heap.size]? = some (.deferred (some [])) → c.wp P Q { a with defers := { target := .collected w.heap.size, args := #[] } :: a.defers } W) :
    (Code.rangeFunc g #[p, p'] assign body).wp P Q a w := by
  refine (wpIn_wide (n := 3)).1 ?_
  have htwo : ∀ args : Array Value, args.size = 2 → ∃ v v', args = #[v, v'] := fun args h => by
    obtain ⟨l⟩ := args
    match l, h with
    | [v, v'], _ => exact ⟨v, v', rfl⟩
  refine wpIn_rangeFunc_iterG hg eg hseq (Below.refl _ _) hR hRd (fun T x args W h => hps T x args W h) I Ix hI hIx h0 (fun args => a₁ (args[0]?.getD undef) (args[1]?.getD undef)) ?_ ?_ hdone (fun c pre x W h1 h2 h3 => (wpIn_wide (n := 3)).2 (hstop c pre x W h1 h2 h3))
  · intro l T x args W K hrd hK
    obtain ⟨v, v', rfl⟩ := htwo args (hps T x args W hrd)
    have e : (#[p, p'].zip #[v, v']).foldl (fun (t : Array Value) (x : Tmp × Value) => t.setIfInBounds x.1 x.2) a.tmps = (a.tmps.setIfInBounds p v).setIfInBounds p' v' := by simp
    have h := hassign l v v' W K hK
    rw [← e] at h
    exact h
  · intro l T S pre x args W hi hrd hTS hz hT hpx
    obtain ⟨v, v', rfl⟩ := htwo args (hps T x args W hrd)
    exact hbody l T S pre x v v' W hi hrd hTS hz hT hpx
theorem growC_len (t : Nat → Nat → Bool) (most : Nat) : ∀ (k : Nat) (q r : List Int), r ∈ growC t most k q → r.length = q.length + k := by
  intro k
  induction k with
  | zero =>
    intro q r h
    have : r = q := by simpa [growC] using h
    rw [this, Nat.add_zero]
  | succ k ih =>
    intro q r h
    unfold growC at h
    rw [List.mem_flatMap] at h
    obtain ⟨c, _, hc⟩ := h
    split at hc
    · cases hc
    · have := ih _ _ hc
      rw [List.length_append, List.length_singleton] at this
      omega
set_option maxHeartbeats 8000000 in
set_option maxRecDepth 100000 in
theorem firstColouring_any {n : Nat} {pl : PL} {A0 : Option Addr} {c0 : Nat} (hpl : pl.length ≤ 1048576) (hp : isP n pl = true) (hn12 : n ≤ 12) (w : World) (hr : CRead w w.heap.size A0 (pcells pl)) :
    Calls Try.prog 56 #[.agg #[.int .i64 n, .slice A0 pl.length c0]] w fun e w' => ∃ A c, e = .returned (.tuple #[.slice A (fewestC (adj pl) n).1.length c, .int .i64 ((fewestC (adj pl) n).2 : Nat)]) ∧ w'.ownsRow w.heap.size 3 1 (.slice A (fewestC (adj pl) n).1.length c) (fewestC (adj pl) n).1.length (icells (fewestC (adj pl) n).1) ∧ Below w.heap.size w w' := by
  have got := fun (m : Nat) (hm : m ≤ 12) (X : World) (hX : Below w.heap.size w X) => allColourings_got (most := m) (A0 := A0) (c0 := c0) hpl hp hn12 hm (B0 := w.heap.size) X hX.size (hr.below hX (Nat.le_refl _))
  have hfew := fun (m : Nat) (hno : ∀ m', m' < m → growC (adj pl) m' n [] = []) (r : List Int) (rest : List (List Int)) (he : growC (adj pl) m n [] = r :: rest) => fewest_grow hno he
  have hsome := grow_some (adj pl) n
  have hlen := fun (m : Nat) (r : List Int) (h : r ∈ growC (adj pl) m n []) => growC_len (adj pl) m n [] r h
  obtain ⟨GR, hGR⟩ : ∃ GR : Nat → List (List Int), (fun m => growC (adj pl) m n []) = GR := ⟨_, rfl⟩
  have hG0 : ∀ m, growC (adj pl) m n [] = GR m := fun m => by rw [← hGR]
  simp only [hG0] at got hfew hsome hlen
  obtain ⟨F1, hF1⟩ : ∃ F1, (fewestC (adj pl) n).1 = F1 := ⟨_, rfl⟩
  obtain ⟨F2, hF2⟩ : ∃ F2, (fewestC (adj pl) n).2 = F2 := ⟨_, rfl⟩
  have hans : ∀ (m : Nat), (∀ m', m' < m → GR m' = []) → ∀ (r : List Int) (rest : List (List Int)), r :: rest = GR m → r = F1 ∧ usedC r = F2 := fun m h1 r rest h2 => by
    have h3 := (hfew m h1 r rest h2.symm).1
    rw [h3] at hF1 hF2
    exact ⟨hF1, hF2⟩
  rw [hF1, hF2]
  refine (callsIn_wide (n := 5)).1 ?_
  refine callsIn_of_wp_marks Try.func56 rfl trivial ?_
  simp only [Try.ntmps56, List.size_toArray, List.length_cons, List.length_nil, Nat.reduceAdd, Nat.reduceSub, Array.replicate_succ, Array.replicate_zero, List.push_toArray, List.append_toArray, List.nil_append, List.cons_append]
  refine wpIn_wide.2 ?_
  have Got := Lib.hid got
  have Hans := Lib.hid hans
  have Hsome := Lib.hid hsome
  have Hlen := Lib.hid hlen
  clear got hans hsome hlen hfew hG0 hGR hF1 hF2 hr
  go_wp2_with fail
  obtain ⟨W, hW⟩ : ∃ W, (((w.alloc (Obj.cells #[.int .i64 n, .slice A0 pl.length c0] 25)).alloc (Obj.cells #[.slice none 0 0] 22)).alloc (Obj.cells #[.int .i64 0] 3)) = W := ⟨_, rfl⟩
  have kW : Below w.heap.size w W := by rw [← hW]; go_grown
  have zW : W.heap.size = w.heap.size + 3 := by rw [← hW]; simp
  have bP : W.heap[w.heap.size]? = some (Obj.cells #[.int .i64 n, .slice A0 pl.length c0] 25) := by
    rw [← hW, Below.heap_alloc _ _ _ (by simp; omega), Below.heap_alloc _ _ _ (by simp)]; exact heap_alloc_new w _
  have bS : W.heap[w.heap.size + 1]? = some (Obj.cells #[.slice none 0 0] 22) := by
    rw [← hW, Below.heap_alloc _ _ _ (by simp)]; have h := heap_alloc_new (w.alloc (Obj.cells #[.int .i64 n, .slice A0 pl.length c0] 25)) (Obj.cells #[.slice none 0 0] 22); rwa [World.size_alloc] at h
  have bB : W.heap[w.heap.size + 2]? = some (Obj.cells #[.int .i64 0] 3) := by
    rw [← hW]; have h := heap_alloc_new ((w.alloc (Obj.cells #[.int .i64 n, .slice A0 pl.length c0] 25)).alloc (Obj.cells #[.slice none 0 0] 22)) (Obj.cells #[.int .i64 0] 3); rwa [World.size_alloc, World.size_alloc] at h
  rw [hW]
  clear hW
  have KW := Lib.hid kW
  have ZW := Lib.hid zW
  have BP := Lib.hid bP
  have BS := Lib.hid bS
  have BB := Lib.hid bB
  clear kW zW bP bS bB
  refine wp_loop (fun a X => ∃ (s : Nat) (D : List Deferred) (u5 u6 u7 u8 u9 u10 u11 u12 u13 u14 u15 u16 : Value), a = { tmps := #[.agg #[.int .i64 n, .slice A0 pl.length c0], .pointer (some ⟨w.heap.size, 0, none⟩), .pointer (some ⟨w.heap.size + 1, 0, none⟩), .pointer (some ⟨w.heap.size + 1 + 1, 0, none⟩), .int .i64 (s : Nat), u5, u6, u7, u8, u9, u10, u11, u12, u13, u14, u15, u16], defers := D } ∧ s ≤ n ∧ (∀ m', m' < s → GR m' = []) ∧ Marks D X ∧ (∀ j, isMark D j → W.heap.size ≤ j) ∧ Below W.heap.size W X) (fun a _ => n - (intOf (a.tmps.getD 4 undef)).toNat) ?start ?round
  case start => exact ⟨0, [], _, _, _, _, _, _, _, _, _, _, _, _, rfl, Nat.zero_le _, (fun m' h => absurd h (Nat.not_lt_zero _)), Marks.nil _, (fun j hj => by obtain ⟨d, hd, _⟩ := hj; cases hd), Below.refl _ _⟩
  case round =>
    rintro a X ⟨s, D, u5, u6, u7, u8, u9, u10, u11, u12, u13, u14, u15, u16, rfl, hs, hFs, hM, hMW, hb⟩
    have sX := hb.size
    have zW := ZW.out
    have HM := Lib.hid hM
    have HMW := Lib.hid hMW
    have HB := Lib.hid hb
    have HFs := Lib.hid hFs
    have kX := KW.out.trans (hb.mono (by omega))
    have got := Got.out s (by omega) X kX
    have bX := (hb.block _ (show w.heap.size < W.heap.size by omega)).trans BP.out
    have x0 : X.cell? ⟨w.heap.size, 0, none⟩ = some (.int .i64 n) := by rw [cell_of_row _ _ _ _ _ _ bX]; rfl
    have x1 : X.cell? ⟨w.heap.size, 1, none⟩ = some (.slice A0 pl.length c0) := by rw [cell_of_row _ _ _ _ _ _ bX]; rfl
    have Got1 := Lib.hid got
    have KX := Lib.hid kX
    clear hM hMW hFs got hb bX kX
    go_wp2_with fail
    refine Got1.out.mono ?_
    rintro e w1 ⟨lb, rfl, g1, z1, hseq⟩
    have s1 := g1.size
    have bW : Below W.heap.size W w1 := HB.out.trans (g1.mono HB.out.size)
    have k1 := KX.out.trans (g1.mono KX.out.size)
    have mk1 := HM.out.below g1
    have mlt : ∀ j, isMark D j → j < w1.heap.size := fun j hj => by have := (Array.getElem?_eq_some_iff.1 (mk1.block hj)).1; exact this
    have bS1 := (bW.block _ (show w.heap.size + 1 < W.heap.size by omega)).trans BS.out
    have bB1 := (bW.block _ (show w.heap.size + 2 < W.heap.size by omega)).trans BB.out
    have Seq1 := Lib.hid hseq
    have Mk1 := Lib.hid mk1
    have Mlt := Lib.hid mlt
    have BS1 := Lib.hid bS1
    have BB1 := Lib.hid bB1
    have K1 := Lib.hid k1
    have BW := Lib.hid bW
    clear hseq mk1 mlt bS1 bB1 k1 bW x0 x1 g1 Got1
    go_wp2_with fail
    refine wp_rangeFunc_asg2 rfl (enters_of Try.func80 (by kernel_rfl) rfl) Seq1.out (fun j hj => by omega) (fun T x args A C h hs => h.stays hs) (fun T x args W h => h.two)
      (fun S pre Y => (∀ j, S j → w1.heap.size ≤ j) ∧ Below w1.heap.size w1 Y ∧ pre = [])
      (fun c pre Y => c = .ret ∧ ∃ (q : List Int) (A : Option Addr) (c' : Nat), pre = [q] ∧ Y.cell? ⟨w.heap.size + 1, 0, none⟩ = some (.slice A q.length c') ∧ Y.cell? ⟨w.heap.size + 1 + 1, 0, none⟩ = some (.int .i64 (usedC q : Nat)) ∧ Y.ownsRow w.heap.size 3 1 (.slice A q.length c') q.length (icells q) ∧ (∀ k, (Value.slice A q.length c').ownBlock = some k → w1.heap.size + 2 ≤ k) ∧ Below w.heap.size w Y ∧ w1.heap.size ≤ Y.heap.size ∧ Marks D Y)
      ?held ?heldx ⟨fun _ h => h.elim, Below.refl _ _, rfl⟩ (fun v v' => { tmps := #[.agg #[.int .i64 n, .slice A0 pl.length c0], .pointer (some ⟨w.heap.size, 0, none⟩), .pointer (some ⟨w.heap.size + 1, 0, none⟩), .pointer (some ⟨w.heap.size + 1 + 1, 0, none⟩), .int .i64 (s : Nat), v, v', u7, u8, .agg #[.int .i64 n, .slice A0 pl.length c0], .int .i64 (s : Nat), .func (.func 80) #[] lb, v, v', u14, u15, u16], defers := [] }) ?assign ?body ?done ?stop
    case held =>
      rintro S S' pre A C ⟨a1, a2, a3⟩ hap hS'
      exact ⟨fun j hj => (hS' j hj).elim (a1 j) (by have := a2.size; omega), a2.trans (hap.below_of a2.size fun j hj => a1 j hj), a3⟩
    case heldx =>
      rintro c pre A C ⟨hc, q, Aq, cq, a1, a2, a2', a3, a4, a5, a6, a7⟩ hap
      refine ⟨hc, q, Aq, cq, a1, hap.cell a2 (by simp; omega), hap.cell a2' (by simp; omega), ?_, a4, a5.trans (hap.below_of (by omega) fun j hj => by omega), Nat.le_trans a6 hap.below.size, a7.same fun j hj => hap.same j ?_ ?_⟩
      · obtain ⟨h1, h2⟩ := a3
        rcases h2 with ⟨hv, h0⟩ | ⟨g, cap, cur, hv, hb, hg, hrest⟩
        · exact ⟨h1, .inl ⟨hv, h0⟩⟩
        · have hk := a4 g (by rw [hv]; rfl)
          exact ⟨h1, .inr ⟨g, cap, cur, hv, hb, (hap.same g (Array.getElem?_eq_some_iff.1 hg).1 (by omega)).trans hg, hrest⟩⟩
      · exact (Array.getElem?_eq_some_iff.1 (a7.block hj)).1
      · have := Mlt.out j hj; omega
    case assign =>
      intro l v v' Y K hK
      gi_wp2
      exact hK
    case body =>
      rintro l S' S pre x v v' Y ⟨a1, a2, rfl⟩ hrd hTS hz hS' _
      obtain ⟨A, c, hv, told, hTb, hx100⟩ := hrd
      obtain ⟨rfl, rfl⟩ : v = .slice A x.length c ∧ v' = .int .i64 (usedC x : Nat) := by simpa using hv
      have Told := Lib.hid told
      have sY := a2.size
      have cY := cell_in ((a2.block _ (show w.heap.size + 1 < w1.heap.size by omega)).trans BS1.out)
      have fY := frozen_of_row _ _ 0 _ _ ((a2.block _ (show w.heap.size + 1 < w1.heap.size by omega)).trans BS1.out)
      have cY2 := cell_in ((a2.block _ (show w.heap.size + 2 < w1.heap.size by omega)).trans BB1.out)
      have fY2 := frozen_of_row _ _ 0 _ _ ((a2.block _ (show w.heap.size + 2 < w1.heap.size by omega)).trans BB1.out)
      have mY := Mk1.out.below a2
      have MY := Lib.hid mY
      have A2 := Lib.hid a2
      clear told mY a2 hTb hv
      gi_wp2_with fail
      refine ⟨trivial, (((callsIn_wide (n := 2)).2 (cloneI_any x A c Y (by omega) (CRead.of_own Told.out))).inRound l).mono ?_⟩
      rintro e w2 ⟨Ac, cc, rfl, own2, hb2⟩
      have c2 := carry hb2 cY (by omega)
      have f2 := (hb2.frozen (p := ⟨w.heap.size + 1, 0, none⟩) (by simp; omega)).trans fY
      have d2 : w2.cell? ⟨w.heap.size + 1 + 1, 0, none⟩ = some (.int .i64 0) := carry hb2 cY2 (by omega)
      have g2 : w2.frozen? ⟨w.heap.size + 1 + 1, 0, none⟩ = false := (hb2.frozen (p := ⟨w.heap.size + 1 + 1, 0, none⟩) (by simp; omega)).trans fY2
      have s2 := hb2.size
      have Own2 := Lib.hid own2
      have Hb2 := Lib.hid hb2
      clear own2 hb2 cY fY cY2 fY2
      gi_wp2
      have kY := K1.out.trans (A2.out.mono (by omega))
      have k2 := kY.trans (Hb2.out.mono (by omega))
      refine ⟨((Stays.of_below Hb2.out).trans (Stays.setCell (p := ⟨w.heap.size + 1, 0, none⟩) (by simp; omega) w2 _)).trans (Stays.setCell (p := ⟨w.heap.size + 1 + 1, 0, none⟩) (by simp; omega) _ _), rfl, x, Ac, cc, rfl, ?_, World.cell?_setCell_same' _ _ _ (by rw [World.cell?_setCell_other _ _ _ _ (by simp), d2]; rfl), own_lower (ownsRow_setCell_below (ownsRow_setCell_below Own2.out (a := ⟨w.heap.size + 1, 0, none⟩) (by simp; omega) _) (a := ⟨w.heap.size + 1 + 1, 0, none⟩) (by simp; omega) _) (by omega), fun k hk => ?_, (k2.setCell (p := ⟨w.heap.size + 1, 0, none⟩) (by simp) _).setCell (p := ⟨w.heap.size + 1 + 1, 0, none⟩) (by simp; omega) _, by simp; omega, ((MY.out.below Hb2.out).same fun j hj => Below.heap_setCell w2 _ _ _ ?_).same fun j hj => Below.heap_setCell _ _ _ _ ?_⟩
      · rw [World.cell?_setCell_other _ _ _ _ (by simp)]
        exact World.cell?_setCell_same' _ _ _ (by rw [c2]; rfl)
      · have := (own_lies Own2.out k hk).1; omega
      · have := HMW.out j hj; simp; omega
      · have := HMW.out j hj; simp; omega
    case done =>
      rintro S Y ⟨a1, a2, hpre⟩ hD
      have hsn : s < n := by
        rcases Nat.lt_or_ge s n with h | h
        · exact h
        · have : s = n := by omega
          subst this
          exact absurd hpre Hsome.out
      have hwr : IntKind.i64.wrap ((s : Int) + 1) = ((s + 1 : Nat) : Int) := by rw [wrap_le (by omega) (by omega)]; omega
      have Hpre := Lib.hid hpre
      have Hwr := Lib.hid hwr
      have A2 := Lib.hid a2
      clear hpre hwr a2
      go_wp2
      first | rw [Hwr.out] | skip
      refine ⟨⟨s + 1, _, _, _, _, _, _, _, _, _, _, _, _, _, by first | rfl | go_num, by omega, fun m' h => ?_, (Mk1.out.below A2.out).cons hD fun j hj => by have := Mlt.out j hj; omega, fun j hj => ?_, BW.out.trans (A2.out.mono (by omega))⟩, ?_⟩
      · by_cases he : m' = s
        · rw [he]; exact Hpre.out
        · exact HFs.out m' (by omega)
      · obtain ⟨d, hd, ht⟩ := hj
        rcases List.mem_cons.1 hd with rfl | hd
        · simp only [Target.collected.injEq] at ht; omega
        · exact HMW.out j ⟨d, hd, ht⟩
      · simp [intOf]; omega
    case stop =>
      rintro c pre x Y hpre ⟨rfl, q, A, c', hq, cell, cell2, own, hblk, kY, sY, mY⟩ hD
      have hRq : q = F1 ∧ usedC q = F2 := by
        obtain ⟨L, hL⟩ := hpre
        rw [hq] at hL
        exact Hans.out s HFs.out q L hL
      obtain ⟨rfl, rfl⟩ := hRq
      have Own := Lib.hid own
      clear own
      go_wp2
      have mk2 := mY.cons hD fun j hj => by have := Mlt.out j hj; omega
      have hge : ∀ j, isMark ({ target := .collected w1.heap.size, args := #[] } :: D) j → W.heap.size ≤ j := fun j ⟨d, hd, ht⟩ => by
        rcases List.mem_cons.1 hd with rfl | hd
        · simp only [Target.collected.injEq] at ht; omega
        · exact HMW.out j ⟨d, hd, ht⟩
      refine leaves_marks _ _ mk2 fun W' ha => ⟨.tuple #[.slice A q.length c', .int .i64 (usedC q : Nat)], ?_, ?_⟩
      · have c10 := ha.cell cell (fun h => by have := hge _ h; simp at this; omega)
        have c11 := ha.cell cell2 (fun h => by have := hge _ h; simp at this; omega)
        simp [results, Try.results56, go_sem, c10, c11]
      · exact ⟨A, c', rfl, own_at Own.out (mk2.rows ha), kY.trans (ha.below_of (by omega) fun j hj => by have := hge _ hj; omega)⟩
end Go.Proofs.Ythddlpghjkiioaa
/-
  'FewestColours', 'FirstColouring' of the program, by their contracts (written by program after XColsD).
-/
namespace Go.Proofs.Ythddlpghjkiioaa
open Go.RowKit
set_option maxHeartbeats 1000000 in
set_option maxRecDepth 100000 in
theorem implFewestColours_any (p : Int) (l : PL) (A : Option Addr) (c : Nat) (w : World) (hl : l.length ≤ 1048576) (hA : CRead w w.heap.size A (pcells l)) :
    Calls Try.prog 22 #[.agg #[.int .i64 p, .slice A l.length c]] w fun e w' => e = .returned (.tuple #[.int .i64 (resFewestColours p l).1, .bool (resFewestColours p l).2]) ∧ Below w.heap.size w w' := by
  have RA : CRead (w.alloc (Obj.cells #[.int .i64 p, .slice A l.length c] 25)) (w.alloc (Obj.cells #[.int .i64 p, .slice A l.length c] 25)).heap.size A (pcells l) := (hA.below (B' := w.heap.size) (by go_grown) (Nat.le_refl _)).more (by go_size)
  cases hf : isFew p l with
  | false =>
    have e : resFewestColours p l = (0, false) := by simp [resFewestColours, hf]
    rw [e]
    have Hf := Lib.hid hf
    clear hf e
    go_enter Try.func22, Try.ntmps22
    go_wp2_with fail
    refine (isColoured_any _ _ _ _ _ hl RA).mono ?_
    rw [Hf.out]
    rintro e w2 ⟨rfl, hb2⟩
    simp only [World.size_alloc] at hb2
    have k2 : Below w.heap.size w w2 := Below.trans (b := _) (by go_grown) (hb2.mono (by omega))
    go_wp2
    go_ret2
    exact ⟨rfl, k2⟩
  | true =>
    have e : resFewestColours p l = ((((fewestC (adj l) p.toNat).2 : Nat) : Int), true) := by simp [resFewestColours, hf]
    have hp : isP p l = true := by unfold isFew at hf; simp at hf; exact hf.1
    have hn := isP_range hp
    obtain ⟨n, rfl⟩ : ∃ n : Nat, p = n := ⟨p.toNat, by omega⟩
    rw [e]
    simp only [Int.toNat_natCast]
    have Hf := Lib.hid hf
    have Hp := Lib.hid hp
    clear hf hp e
    go_enter Try.func22, Try.ntmps22
    go_wp2_with fail
    refine (isColoured_any _ _ _ _ _ hl RA).mono ?_
    rw [Hf.out]
    rintro e w2 ⟨rfl, hb2⟩
    simp only [World.size_alloc] at hb2
    have a0 : w2.cell? ⟨w.heap.size, 0, none⟩ = some (.int .i64 n) := carry hb2 (by simp) (by omega)
    have a1 : w2.cell? ⟨w.heap.size, 1, none⟩ = some (.slice A l.length c) := carry hb2 (by simp) (by omega)
    have k2 : Below w.heap.size w w2 := Below.trans (b := _) (by go_grown) (hb2.mono (by omega))
    clear hb2
    go_wp2_with fail
    refine (firstColouring_any hl Hp.out (by omega) w2 ((hA.below k2 (Nat.le_refl _)).more k2.size)).mono ?_
    rintro e w3 ⟨A3, c3, rfl, own3, hb3⟩
    have K := Lib.hid (k2.trans (hb3.mono k2.size))
    clear own3 hb3 k2 a0 a1
    go_wp2
    go_ret2
    exact ⟨rfl, K.out⟩
set_option maxHeartbeats 1000000 in
set_option maxRecDepth 100000 in
theorem implFirstColouring_any (p : Int) (l : PL) (A : Option Addr) (c : Nat) (w : World) (hl : l.length ≤ 1048576) (hA : CRead w w.heap.size A (pcells l)) :
    Calls Try.prog 24 #[.agg #[.int .i64 p, .slice A l.length c]] w (GotIntsOk w (resFirstColouring p l).1 (resFirstColouring p l).2) := by
  have RA : CRead (w.alloc (Obj.cells #[.int .i64 p, .slice A l.length c] 25)) (w.alloc (Obj.cells #[.int .i64 p, .slice A l.length c] 25)).heap.size A (pcells l) := (hA.below (B' := w.heap.size) (by go_grown) (Nat.le_refl _)).more (by go_size)
  cases hf : isFew p l with
  | false =>
    have e : resFirstColouring p l = ([], false) := by simp [resFirstColouring, hf]
    rw [e]
    have Hf := Lib.hid hf
    clear hf e
    go_enter Try.func24, Try.ntmps24
    go_wp2_with fail
    refine (isColoured_any _ _ _ _ _ hl RA).mono ?_
    rw [Hf.out]
    rintro e w2 ⟨rfl, hb2⟩
    simp only [World.size_alloc] at hb2
    have k2 : Below w.heap.size w w2 := Below.trans (b := _) (by go_grown) (hb2.mono (by omega))
    go_wp2
    go_ret2
    exact ⟨none, 0, rfl, World.ownsRow_nil _ _ _ _, k2⟩
  | true =>
    have e : resFirstColouring p l = ((fewestC (adj l) p.toNat).1, true) := by simp [resFirstColouring, hf]
    have hp : isP p l = true := by unfold isFew at hf; simp at hf; exact hf.1
    have hn := isP_range hp
    obtain ⟨n, rfl⟩ : ∃ n : Nat, p = n := ⟨p.toNat, by omega⟩
    rw [e]
    simp only [Int.toNat_natCast]
    have Hf := Lib.hid hf
    have Hp := Lib.hid hp
    clear hf hp e
    go_enter Try.func24, Try.ntmps24
    go_wp2_with fail
    refine (isColoured_any _ _ _ _ _ hl RA).mono ?_
    rw [Hf.out]
    rintro e w2 ⟨rfl, hb2⟩
    simp only [World.size_alloc] at hb2
    have a0 : w2.cell? ⟨w.heap.size, 0, none⟩ = some (.int .i64 n) := carry hb2 (by simp) (by omega)
    have a1 : w2.cell? ⟨w.heap.size, 1, none⟩ = some (.slice A l.length c) := carry hb2 (by simp) (by omega)
    have k2 : Below w.heap.size w w2 := Below.trans (b := _) (by go_grown) (hb2.mono (by omega))
    clear hb2
    go_wp2_with fail
    refine (firstColouring_any hl Hp.out (by omega) w2 ((hA.below k2 (Nat.le_refl _)).more k2.size)).mono ?_
    rintro e w3 ⟨A3, c3, rfl, own3, hb3⟩
    have K := Lib.hid (k2.trans (hb3.mono k2.size))
    have Own := Lib.hid (own_lower own3 k2.size)
    clear own3 hb3 k2 a0 a1
    go_wp2
    go_ret2
    exact ⟨_, _, rfl, Own.out, K.out⟩
theorem resFirstColouring_len (p : Int) (l : PL) : (resFirstColouring p l).1.length ≤ 1048576 := by
  unfold resFirstColouring
  cases hf : isFew p l with
  | false => simp
  | true =>
    have h8 : p ≤ 8 := by unfold isFew at hf; simp at hf; exact hf.2
    simp only [if_true, fewestC_length]
    omega
end Go.Proofs.Ythddlpghjkiioaa
/-
  THE PROGRAM's HEAD, LOOKED AT ONCE: which make it is, and that a call may enter it. (The head's text is long: the kernel must not read it twice.)
-/
namespace Go.Proofs.Ythddlpghjkiioaa

theorem make_of {P : Program} {rest : List (List Char)} (h : behindMainWord (wordsSigns P.initOrder.toList) = "cut".toList :: rest) : P.make = some .cut := by
  unfold Program.make
  rw [h]
  rfl
theorem strip_cut (rest : List (List Char)) : stripLifts liftWords ("cut".toList :: rest) = ([], "cut".toList :: rest) := rfl
theorem lifts_of {P : Program} {rest : List (List Char)} (h : behindMainWord (wordsSigns P.initOrder.toList) = "cut".toList :: rest) : P.headLifts = [] := by
  unfold Program.headLifts
  rw [h, strip_cut]
  rfl
theorem final_of {P : Program} {rest : List (List Char)} (h : behindMainWord (wordsSigns P.initOrder.toList) = "cut".toList :: rest) : P.liftsFinal = false := by
  unfold Program.liftsFinal
  rw [lifts_of h, h]
  rfl
theorem enter_of {P : Program} {rest : List (List Char)} (h : behindMainWord (wordsSigns P.initOrder.toList) = "cut".toList :: rest) (h1 : P.laysLater = false) (h2 : P.bearsReflect = false) (h3 : P.doorFits [] = true) : P.mayEnter = true := by
  unfold Program.mayEnter
  rw [h]
  show (_ || _ || _) = true
  rw [strip_cut, h1, h2, h3]
  rfl
end Go.Proofs.Ythddlpghjkiioaa
/-
  THE PROGRAM's CLOSED FACTS, EACH ONCE; and how a row's facts are put together out of them.
-/
namespace Go.Proofs.Ythddlpghjkiioaa
open Go.ChangeShapes Go.WideShapes Go.ChangeAt Go.RowKit

def headSigns : List Char := ([104, 97, 114, 110, 101, 115, 115, 32, 56, 99, 49, 98, 48, 55, 52, 50, 97, 97, 50, 57, 102, 50, 97, 52, 101, 54, 98, 49, 51, 53, 52, 100, 54, 51, 51, 102, 101, 97, 54, 55, 101, 51, 48, 54, 97, 53, 49, 97, 51, 100, 49, 99, 52, 54, 99, 54, 48, 52, 50, 48, 53, 48, 53, 52, 48, 54, 50, 50, 54, 102, 54, 54, 32, 99, 117, 116, 32, 97, 116, 32, 108, 111, 111, 112, 46, 101, 120, 97, 109, 112, 108, 101, 47, 103, 48, 49, 50, 53, 55, 47, 108, 97, 119, 115, 46, 70, 110, 69, 120, 97, 99, 116, 70, 105, 114, 115, 116, 79, 102, 78, 117, 109, 98, 101, 114, 115, 32, 108, 111, 111, 112, 46, 101, 120, 97, 109, 112, 108, 101, 47, 103, 48, 49, 50, 53, 55, 47, 108, 97, 119, 115, 46, 70, 110, 69, 120, 97, 99, 116, 70, 101, 119, 101, 115, 116, 67, 111, 108, 111, 117, 114, 115, 32, 108, 111, 111, 112, 46, 101, 120, 97, 109, 112, 108, 101, 47, 103, 48, 49, 50, 53, 55, 47, 108, 97, 119, 115, 46, 70, 110, 69, 120, 97, 99, 116, 70, 105, 114, 115, 116, 67, 111, 108, 111, 117, 114, 105, 110, 103, 32, 108, 111, 111, 112, 46, 101, 120, 97, 109, 112, 108, 101, 47, 103, 48, 49, 50, 53, 55, 47, 108, 97, 119, 115, 46, 70, 110, 69, 120, 97, 99, 116, 67, 111, 117, 110, 116, 67, 111, 108, 111, 117, 114, 105, 110, 103, 115, 32, 108, 111, 111, 112, 46, 101, 120, 97, 109, 112, 108, 101, 47, 103, 48, 49, 50, 53, 55, 47, 108, 97, 119, 115, 46, 70, 110, 69, 120, 97, 99, 116, 70, 101, 119, 101, 115, 116, 71, 114, 111, 117, 112, 115, 32, 108, 111, 111, 112, 46, 101, 120, 97, 109, 112, 108, 101, 47, 103, 48, 49, 50, 53, 55, 47, 108, 97, 119, 115, 46, 70, 110, 69, 120, 97, 99, 116, 71, 114, 111, 117, 112, 115, 79, 102, 80, 97, 114, 116, 121, 32, 108, 111, 111, 112, 46, 101, 120, 97, 109, 112, 108, 101, 47, 103, 48, 49, 50, 53, 55, 47, 108, 97, 119, 115, 46, 70, 110, 69, 120, 97, 99, 116, 70, 105, 114, 115, 116, 65, 118, 111, 105, 100, 105, 110, 103, 32, 108, 111, 111, 112, 46, 101, 120, 97, 109, 112, 108, 101, 47, 103, 48, 49, 50, 53, 55, 47, 108, 97, 119, 115, 46, 70, 110, 69, 120, 97, 99, 116, 67, 111, 117, 110, 116, 65, 118, 111, 105, 100, 105, 110, 103] : List Nat).map Char.ofNat
set_option maxRecDepth 100000 in
theorem Try.initOrder_is : Try.prog.initOrder = String.ofList headSigns := by kernel_rfl
theorem Try.initOrder_signs : Try.prog.initOrder.toList = headSigns := by rw [Try.initOrder_is]; exact String.toList_ofList
set_option maxRecDepth 100000 in
theorem head_words : (behindMainWord (wordsSigns headSigns)).take 1 = ["cut".toList] := by kernel_rfl
theorem Try.words : ∃ rest, behindMainWord (wordsSigns Try.prog.initOrder.toList) = "cut".toList :: rest := by
  rw [Try.initOrder_signs]
  have h := List.take_append_drop 1 (behindMainWord (wordsSigns headSigns))
  rw [head_words] at h
  exact ⟨_, h.symm⟩
theorem Try.make : Try.prog.make = some .cut := by obtain ⟨_, h⟩ := Try.words; exact make_of h
theorem Try.liftsFinal : Try.prog.liftsFinal = false := by obtain ⟨_, h⟩ := Try.words; exact final_of h
theorem Try.laysLater : Try.prog.laysLater = false := by kernel_rfl
theorem Try.bearsReflect : Try.prog.bearsReflect = false := by kernel_rfl
theorem Try.doorFits : Try.prog.doorFits [] = true := by kernel_rfl
theorem Try.mayEnter : Try.prog.mayEnter = true := by obtain ⟨_, h⟩ := Try.words; exact enter_of h Try.laysLater Try.bearsReflect Try.doorFits
theorem Try.mapsRowed : mapsRowed Try.prog = true := by kernel_rfl
theorem Try.stops : (Try.prog.stops == []) = true := by kernel_rfl
theorem Try.stopKnobs : (Try.prog.stopKnobs == []) = true := by kernel_rfl
theorem Try.plainKeys : Try.prog.plainKeys = true := by kernel_rfl
theorem Try.stopsHeard : Try.prog.stopsHeard = true := by kernel_rfl

/-- What the types of one law give: closed facts on its parameters and its result. -/
def typeFacts (P : Program) (fn : Func) (s : ChangeSpec) (c : OpenClaim) : Bool :=
  fn.params.all (P.readableRec ·) && namedTie P c.named s.vars && (c.stops == []) && (c.knobs == []) &&
  (c.maps == (fn.params.toList ++ s.plain.varTypes P).any (P.mapsRec ·)) && (c.ifaces == (fn.params.toList ++ s.plain.varTypes P).any (P.ifacesRec ·)) && (c.mapsOut == P.mapsAmong fn.resultTypes.toList) &&
  (c.loops == (fn.params.toList ++ s.plain.varTypes P).any (P.loopsFrom ·)) && (c.wideKeys == (fn.params.toList ++ s.plain.varTypes P ++ fn.resultTypes.toList).any (P.wideKeysFrom ·)) &&
  s.vars.all (P.varReadable ·) && fn.resultTypes.all (fun t => P.readableRec t && decide (t < P.types.size)) && (c.ifacesOut == fn.resultTypes.toList.any (P.ifacesRec ·)) && (c.loopsOut == fn.resultTypes.toList.any (P.loopsFrom ·)) && c.shortTexts.isNone &&
  (c.kinds == (if c.domain.isEmpty then [] else fn.params.toList.map fun t => match P.underlying t with | some (.int k) => some k | _ => none)) && (c.pinned == c.pinnedBy) &&
  (c.veiled == (fn.params.toList ++ s.plain.varTypes P ++ fn.resultTypes.toList).any (P.veiledRec ·)) && c.veiledFits P fn.params.toList (fn.params.toList ++ s.plain.varTypes P ++ fn.resultTypes.toList)
theorem joined_all {P : Program} {f : FuncId} {fn : Func} {s : ChangeSpec} {c : OpenClaim} (k1 : c.wf (OpenSpec.ofChange s) = true) (kt : typeFacts P fn s c = true)
    (k10 : (c.inPlace == P.inPlace f) = true) (k11 : (c.unfollowed == P.unfollowed f) = true) (k12 : (c.recurses == P.recurses f) = true) (k13 : (c.named == P.varsNamed f) = true)
    (e2 : laidOutB P = true) (e3 : mapsRowed P = true) (e7 : (P.stops == []) = true) (e9 : (P.stopKnobs == []) = true) (e22 : (c.plainKeys == P.plainKeys) = true) (e23 : P.stopsHeard = true) (e24 : P.mayEnter = true)
    (e24b : (c.lifted == P.liftsFinal) = true) (e24c : (P.make == some c.make) = true) : joinedFacts P f fn s c = true := by
  unfold typeFacts at kt
  unfold joinedFacts
  simp only [Bool.and_eq_true] at kt ⊢
  obtain ⟨⟨⟨⟨⟨⟨⟨⟨⟨⟨⟨⟨⟨⟨⟨⟨⟨t1, t2⟩, t3⟩, t4⟩, t5⟩, t6⟩, t7⟩, t8⟩, t9⟩, t10⟩, t11⟩, t12⟩, t13⟩, t14⟩, t15⟩, t16⟩, t17⟩, t18⟩ := kt
  exact ⟨⟨⟨⟨⟨⟨⟨⟨⟨⟨⟨⟨⟨⟨⟨⟨⟨⟨⟨⟨⟨⟨⟨⟨⟨⟨⟨⟨⟨⟨⟨k1, e2⟩, e3⟩, t1⟩, t2⟩, t3⟩, e7⟩, t4⟩, e9⟩, k10⟩, k11⟩, k12⟩, k13⟩, t5⟩, t6⟩, t7⟩, t8⟩, t9⟩, t10⟩, t11⟩, t12⟩, t13⟩, e22⟩, t14⟩, e23⟩, e24⟩, e24b⟩, e24c⟩, t15⟩, t16⟩, t17⟩, t18⟩
theorem joined_of {f : FuncId} {fn : Func} {s : ChangeSpec} {c : OpenClaim} (k1 : c.wf (OpenSpec.ofChange s) = true) (kt : typeFacts Try.prog fn s c = true)
    (k10 : (c.inPlace == Try.prog.inPlace f) = true) (k11 : (c.unfollowed == Try.prog.unfollowed f) = true) (k12 : (c.recurses == Try.prog.recurses f) = true) (k13 : (c.named == Try.prog.varsNamed f) = true)
    (k22 : c.plainKeys = true) (k24b : c.lifted = false) (k24c : c.make = .cut) : joinedFacts Try.prog f fn s c = true :=
  joined_all k1 kt k10 k11 k12 k13 Try.laidOut Try.mapsRowed Try.stops Try.stopKnobs (by rw [k22, Try.plainKeys]; rfl) Try.stopsHeard Try.mayEnter (by rw [k24b, Try.liftsFinal]; rfl) (by rw [k24c, Try.make]; rfl)
end Go.Proofs.Ythddlpghjkiioaa
/-
  THE LAWS' COPY OF A LIST OF NUMBERS, by its contract.
-/
namespace Go.Proofs.Ythddlpghjkiioaa
open Go.RowKit

set_option maxHeartbeats 1000000 in
set_option maxRecDepth 100000 in
theorem toIntS_any (l : List Int) (A : Option Addr) (c : Nat) (w : World) (hl : l.length ≤ 1048576) (hA : CRead w w.heap.size A (icells l)) :
    Calls Try.prog 12 #[.slice A l.length c] w fun e w' =>
      e = .returned (.slice (some ⟨w.heap.size, 0, none⟩) l.length l.length) ∧ w'.ownsRow w.heap.size 3 1 (.slice (some ⟨w.heap.size, 0, none⟩) l.length l.length) l.length (icells l) ∧ Below w.heap.size w w' := by
  obtain ⟨i0, hi, hz0, hz1, hz2⟩ := info_parts Try.infoInt
  generalize hn : l.length = n at *
  have Hn := Lib.hid hn
  clear hn
  generalize hg : w.heap.size = g at *
  have Hg := Lib.hid hg
  clear hg
  go_enter Try.func12, Try.ntmps12
  go_wp2_with (at_make; refine wpList_make_full _ rfl _ _ 22 rfl g 3 i0 _ 1 Try.underlying22 hi hz0 hz1 _ _ _ _ n rfl rfl (by omega) (by omega) (by rw [hz2]; omega) (by unfold maxLen; omega) (by rw [Hg.out]; exact Nat.le_refl _) ?_; rw [Hg.out]; intro w1 hown1 hgr1)
  have hs1 : g < w1.heap.size := (own_lt hown1).2
  have hb1 : Below g w w1 := (Below.refl _ _).grown hgr1 (by rw [Hg.out]; exact Nat.le_refl _) (by simp)
  rw [show Value.cells (.int .i64 0) = #[.int .i64 0] from rfl, made_ints] at hown1
  go_loopw [4] (fun i wr => ∃ k : Nat, k ≤ n ∧ i = .int .i64 k ∧ wr.ownsRow g 3 1 (.slice (some ⟨g, 0, none⟩) n n) n (icells (l.take k ++ List.replicate (n - k) 0)) ∧ Below g w wr) (fun i _ => n - (intOf i).toNat)
  case atStart => exact ⟨0, Nat.zero_le _, rfl, by simpa using hown1, hb1⟩
  case round =>
    obtain ⟨k, hk, rfl, hown, hb⟩ := hrel
    have hs := own_lt hown
    by_cases hlt : k < n
    · obtain ⟨x, hx⟩ := getSome l k (by rw [Hn.out]; exact hlt)
      obtain ⟨b, off, rfl, hbb, c0⟩ := (hA.below hb (Nat.le_refl _)).int hx
      have hlt' : (k : Int) < n := by omega
      have f0 := hown.frozenAt k
      have hz : (l.take k ++ List.replicate (n - k) 0)[k]? = some 0 := by
        rw [List.getElem?_append_right (by simp; omega)]
        have h1 : min k l.length = k := Nat.min_eq_left (by rw [Hn.out]; exact hk)
        simp only [List.length_take, h1, Nat.sub_self]
        rw [List.getElem?_replicate, if_pos (by omega)]
      have d0 := own_intAt hown hz
      clear hz
      have Hx := Lib.hid hx
      clear hx
      go_wp2
      go_roundw
      case rel =>
        refine ⟨k + 1, by omega, by go_num, ?_, hb.setCell (p := ⟨g, k, none⟩) (Nat.le_refl _) _⟩
        have h2 := own_setInt hown k x
        rwa [take_set_replicate l 0 n k x Hn.out Hx.out] at h2
      case measure => simp [intOf]; omega
    · have hkl : k = n := by omega
      subst hkl
      have hge : ¬ ((k : Int) < k) := by omega
      go_wp2
      go_ret
      refine ⟨rfl, ?_, hb⟩
      rwa [Nat.sub_self, List.replicate_zero, List.append_nil, List.take_of_length_le (by rw [Hn.out]; exact Nat.le_refl _)] at hown
theorem toIntS_got (l : List Int) (A : Option Addr) (c : Nat) (w : World) (hl : l.length ≤ 1048576) (hA : CRead w w.heap.size A (icells l)) :
    Calls Try.prog 12 #[.slice A l.length c] w fun e w' => ∃ A' c', e = .returned (.slice A' l.length c') ∧ w'.ownsRow w.heap.size 3 1 (.slice A' l.length c') l.length (icells l) ∧ Below w.heap.size w w' :=
  (toIntS_any l A c w hl hA).mono fun _ _ h => ⟨_, _, h⟩
end Go.Proofs.Ythddlpghjkiioaa
