/-
  Texts put together for the claims of 'CountColourings' (pack 6): ColN, Join, Join2, ColG, Own, LRows, Mats, GopP, WayP, SzI, Ints, FameH.
-/
import Derived.Test.YthddlpghjkiioaaCountColouringsP1
import Derived.Test.YthddlpghjkiioaaCountColouringsP2
import Derived.Test.YthddlpghjkiioaaCountColouringsP3
import Derived.Test.YthddlpghjkiioaaCountColouringsP4
import Derived.Test.YthddlpghjkiioaaCountColouringsP5
import Derived.ArgAppend
import Derived.Laws.AppendOwnNone
/-
  THE FIRST COLOURING WITH THE FEWEST COLOURS: 'firstColouring', 'FewestColours', 'FirstColouring' of the program, by their contracts.
-/
namespace Go.Proofs.Ythddlpghjkiioaa
open Go.RowKit Go.Shelf
attribute [local go_sem] Oper.semAt_some

/-- A range over an iterator of two values; its variables are assigned ahead of the body. -/
theorem wp_rangeFunc_asg2 {P : Program} {α : Type} {g : Operand} {p p' : Tmp} {assign body : Code} {Q : Exit → Act → World → Prop} {a : Act} {w : World} {gf : Nat} {lb : Array Value} (hg : a.eval g = .func (.func gf) #[] lb)
    (eg : ∀ args w, (callFunc gf args).run P w = .ok (.enter gf args) w) {R : Nat → Prop} {Rd : (Nat → Prop) → α → Array Value → World → Prop} {xs : List α} (hseq : Seq P gf lb R Rd xs w) (hR : ∀ j, R j → j < w.heap.size)
    (hRd : ∀ T x args A C, Rd T x args A → Stays T A C → Rd T x args C) (hps : ∀ T x args W, Rd T x args W → args.size = 2)
    (I : (Nat → Prop) → List α → World → Prop) (Ix : Code → List α → World → Prop) (hI : Held I) (hIx : ∀ c pre A C, Ix c pre A → Apart (fun j => j = w.heap.size + 1) A C → Ix c pre C) (h0 : I (fun _ => False) [] w)
    (a₁ : Value → Value → Act)
    (hassign : ∀ (l : Nat) (v v' : Value) (W : World) (K : Act → World → Prop), K (a₁ v v') W → assign.wpIn (Fence.wide.inRound l) 3 P (Exit.then K (fun _ _ _ => False)) { tmps := (a.tmps.setIfInBounds p v).setIfInBounds p' v', defers := [] } W)
    (hbody : ∀ (l : Nat) (T S : Nat → Prop) (pre : List α) (x : α) (v v' : Value) (W : World), I S pre W → Rd T x #[v, v'] W → (∀ j, T j → S j) → w.heap.size + 2 ≤ W.heap.size → (∀ j, T j → j < w.heap.size ∨ w.heap.size + 2 ≤ j) → pre ++ [x] <+: xs →
      body.wpIn (Fence.wide.inRound l) 3 P (iterPost w.heap.size S R I Ix (pre ++ [x]) W) (a₁ v v') W)
    (hdone : ∀ (S : Nat → Prop) (W : World), I S xs W → W.heap[w.heap.size]? = some (.deferred (some [])) → Q .normal { a with defers := { target := .collected w.heap.size, args := #[] } :: a.defers } W)
    (hstop : ∀ (c : Code) (pre : List α) (x : α) (W : World), pre ++ [x] <+: xs → Ix c (pre ++ [x]) W → W.heap[w.heap.size]? = some (.deferred (some [])) → c.wp P Q { a with defers := { target := .collected w.heap.size, args := #[] } :: a.defers } W) :
    (Code.rangeFunc g #[p, p'] assign body).wp P Q a w := by
  refine (wpIn_wide (n := 3)).1 ?_
  have htwo : ∀ args : Array Value, args.size = 2 → ∃ v v', args = #[v, v'] := fun args h => by
    obtain ⟨l⟩ := args
    match l, h with
    | [v, v'], _ => exact ⟨v, v', rfl⟩
  refine wpIn_rangeFunc_iterG hg eg hseq (Below.refl _ _) hR hRd (fun T x args W h => hps T x args W h) I Ix hI hIx h0 (fun args => a₁ (args[0]?.getD undef) (args[1]?.getD undef)) ?_ ?_ hdone (fun c pre x W h1 h2 h3 => (wpIn_wide (n := 3)).2 (hstop c pre x W h1 h2 h3))
  · intro l T x args W K hrd hK
    obtain ⟨v, v', rfl⟩ := htwo args (hps T x args W hrd)
    have e : (#[p, p'].zip #[v, v']).foldl (fun (t : Array Value) (x : Tmp × Value) => t.setIfInBounds x.1 x.2) a.tmps = (a.tmps.setIfInBounds p v).setIfInBounds p' v' := by simp
    have h := hassign l v v' W K hK
    rw [← e] at h
    exact h
  · intro l T S pre x args W hi hrd hTS hz hT hpx
    obtain ⟨v, v', rfl⟩ := htwo args (hps T x args W hrd)
    exact hbody l T S pre x v v' W hi hrd hTS hz hT hpx
theorem growC_len (t : Nat → Nat → Bool) (most : Nat) : ∀ (k : Nat) (q r : List Int), r ∈ growC t most k q → r.length = q.length + k := by
  intro k
  induction k with
  | zero =>
    intro q r h
    have : r = q := by simpa [growC] using h
    rw [this, Nat.add_zero]
  | succ k ih =>
    intro q r h
    unfold growC at h
    rw [List.mem_flatMap] at h
    obtain ⟨c, _, hc⟩ := h
    split at hc
    · cases hc
    · have := ih _ _ hc
      rw [List.length_append, List.length_singleton] at this
      omega
set_option maxHeartbeats 8000000 in
set_option maxRecDepth 100000 in
theorem firstColouring_any {n : Nat} {pl : PL} {A0 : Option Addr} {c0 : Nat} (hpl : pl.length ≤ 1048576) (hp : isP n pl = true) (hn12 : n ≤ 12) (w : World) (hr : CRead w w.heap.size A0 (pcells pl)) :
    Calls Try.prog 56 #[.agg #[.int .i64 n, .slice A0 pl.length c0]] w fun e w' => ∃ A c, e = .returned (.tuple #[.slice A (fewestC (adj pl) n).1.length c, .int .i64 ((fewestC (adj pl) n).2 : Nat)]) ∧ w'.ownsRow w.heap.size 3 1 (.slice A (fewestC (adj pl) n).1.length c) (fewestC (adj pl) n).1.length (icells (fewestC (adj pl) n).1) ∧ Below w.heap.size w w' := by
  have got := fun (m : Nat) (hm : m ≤ 12) (X : World) (hX : Below w.heap.size w X) => allColourings_got (most := m) (A0 := A0) (c0 := c0) hpl hp hn12 hm (B0 := w.heap.size) X hX.size (hr.below hX (Nat.le_refl _))
  have hfew := fun (m : Nat) (hno : ∀ m', m' < m → growC (adj pl) m' n [] = []) (r : List Int) (rest : List (List Int)) (he : growC (adj pl) m n [] = r :: rest) => fewest_grow hno he
  have hsome := grow_some (adj pl) n
  have hlen := fun (m : Nat) (r : List Int) (h : r ∈ growC (adj pl) m n []) => growC_len (adj pl) m n [] r h
  obtain ⟨GR, hGR⟩ : ∃ GR : Nat → List (List Int), (fun m => growC (adj pl) m n []) = GR := ⟨_, rfl⟩
  have hG0 : ∀ m, growC (adj pl) m n [] = GR m := fun m => by rw [← hGR]
  simp only [hG0] at got hfew hsome hlen
  obtain ⟨F1, hF1⟩ : ∃ F1, (fewestC (adj pl) n).1 = F1 := ⟨_, rfl⟩
  obtain ⟨F2, hF2⟩ : ∃ F2, (fewestC (adj pl) n).2 = F2 := ⟨_, rfl⟩
  have hans : ∀ (m : Nat), (∀ m', m' < m → GR m' = []) → ∀ (r : List Int) (rest : List (List Int)), r :: rest = GR m → r = F1 ∧ usedC r = F2 := fun m h1 r rest h2 => by
    have h3 := (hfew m h1 r rest h2.symm).1
    rw [h3] at hF1 hF2
    exact ⟨hF1, hF2⟩
  rw [hF1, hF2]
  refine (callsIn_wide (n := 5)).1 ?_
  refine callsIn_of_wp_marks Try.func56 rfl trivial ?_
  simp only [Try.ntmps56, List.size_toArray, List.length_cons, List.length_nil, Nat.reduceAdd, Nat.reduceSub, Array.replicate_succ, Array.replicate_zero, List.push_toArray, List.append_toArray, List.nil_append, List.cons_append]
  refine wpIn_wide.2 ?_
  have Got := Lib.hid got
  have Hans := Lib.hid hans
  have Hsome := Lib.hid hsome
  have Hlen := Lib.hid hlen
  clear got hans hsome hlen hfew hG0 hGR hF1 hF2 hr
  go_wp2_with fail
  obtain ⟨W, hW⟩ : ∃ W, (((w.alloc (Obj.cells #[.int .i64 n, .slice A0 pl.length c0] 25)).alloc (Obj.cells #[.slice none 0 0] 22)).alloc (Obj.cells #[.int .i64 0] 3)) = W := ⟨_, rfl⟩
  have kW : Below w.heap.size w W := by rw [← hW]; go_grown
  have zW : W.heap.size = w.heap.size + 3 := by rw [← hW]; simp
  have bP : W.heap[w.heap.size]? = some (Obj.cells #[.int .i64 n, .slice A0 pl.length c0] 25) := by
    rw [← hW, Below.heap_alloc _ _ _ (by simp; omega), Below.heap_alloc _ _ _ (by simp)]; exact heap_alloc_new w _
  have bS : W.heap[w.heap.size + 1]? = some (Obj.cells #[.slice none 0 0] 22) := by
    rw [← hW, Below.heap_alloc _ _ _ (by simp)]; have h := heap_alloc_new (w.alloc (Obj.cells #[.int .i64 n, .slice A0 pl.length c0] 25)) (Obj.cells #[.slice none 0 0] 22); rwa [World.size_alloc] at h
  have bB : W.heap[w.heap.size + 2]? = some (Obj.cells #[.int .i64 0] 3) := by
    rw [← hW]; have h := heap_alloc_new ((w.alloc (Obj.cells #[.int .i64 n, .slice A0 pl.length c0] 25)).alloc (Obj.cells #[.slice none 0 0] 22)) (Obj.cells #[.int .i64 0] 3); rwa [World.size_alloc, World.size_alloc] at h
  rw [hW]
  clear hW
  have KW := Lib.hid kW
  have ZW := Lib.hid zW
  have BP := Lib.hid bP
  have BS := Lib.hid bS
  have BB := Lib.hid bB
  clear kW zW bP bS bB
  refine wp_loop (fun a X => ∃ (s : Nat) (D : List Deferred) (u5 u6 u7 u8 u9 u10 u11 u12 u13 u14 u15 u16 : Value), a = { tmps := #[.agg #[.int .i64 n, .slice A0 pl.length c0], .pointer (some ⟨w.heap.size, 0, none⟩), .pointer (some ⟨w.heap.size + 1, 0, none⟩), .pointer (some ⟨w.heap.size + 1 + 1, 0, none⟩), .int .i64 (s : Nat), u5, u6, u7, u8, u9, u10, u11, u12, u13, u14, u15, u16], defers := D } ∧ s ≤ n ∧ (∀ m', m' < s → GR m' = []) ∧ Marks D X ∧ (∀ j, isMark D j → W.heap.size ≤ j) ∧ Below W.heap.size W X) (fun a _ => n - (intOf (a.tmps.getD 4 undef)).toNat) ?start ?round
  case start => exact ⟨0, [], _, _, _, _, _, _, _, _, _, _, _, _, rfl, Nat.zero_le _, (fun m' h => absurd h (Nat.not_lt_zero _)), Marks.nil _, (fun j hj => by obtain ⟨d, hd, _⟩ := hj; cases hd), Below.refl _ _⟩
  case round =>
    rintro a X ⟨s, D, u5, u6, u7, u8, u9, u10, u11, u12, u13, u14, u15, u16, rfl, hs, hFs, hM, hMW, hb⟩
    have sX := hb.size
    have zW := ZW.out
    have HM := Lib.hid hM
    have HMW := Lib.hid hMW
    have HB := Lib.hid hb
    have HFs := Lib.hid hFs
    have kX := KW.out.trans (hb.mono (by omega))
    have got := Got.out s (by omega) X kX
    have bX := (hb.block _ (show w.heap.size < W.heap.size by omega)).trans BP.out
    have x0 : X.cell? ⟨w.heap.size, 0, none⟩ = some (.int .i64 n) := by rw [cell_of_row _ _ _ _ _ _ bX]; rfl
    have x1 : X.cell? ⟨w.heap.size, 1, none⟩ = some (.slice A0 pl.length c0) := by rw [cell_of_row _ _ _ _ _ _ bX]; rfl
    have Got1 := Lib.hid got
    have KX := Lib.hid kX
    clear hM hMW hFs got hb bX kX
    go_wp2_with fail
    refine Got1.out.mono ?_
    rintro e w1 ⟨lb, rfl, g1, z1, hseq⟩
    have s1 := g1.size
    have bW : Below W.heap.size W w1 := HB.out.trans (g1.mono HB.out.size)
    have k1 := KX.out.trans (g1.mono KX.out.size)
    have mk1 := HM.out.below g1
    have mlt : ∀ j, isMark D j → j < w1.heap.size := fun j hj => by have := (Array.getElem?_eq_some_iff.1 (mk1.block hj)).1; exact this
    have bS1 := (bW.block _ (show w.heap.size + 1 < W.heap.size by omega)).trans BS.out
    have bB1 := (bW.block _ (show w.heap.size + 2 < W.heap.size by omega)).trans BB.out
    have Seq1 := Lib.hid hseq
    have Mk1 := Lib.hid mk1
    have Mlt := Lib.hid mlt
    have BS1 := Lib.hid bS1
    have BB1 := Lib.hid bB1
    have K1 := Lib.hid k1
    have BW := Lib.hid bW
    clear hseq mk1 mlt bS1 bB1 k1 bW x0 x1 g1 Got1
    go_wp2_with fail
    refine wp_rangeFunc_asg2 rfl (enters_of Try.func80 (by kernel_rfl) rfl) Seq1.out (fun j hj => by omega) (fun T x args A C h hs => h.stays hs) (fun T x args W h => h.two)
      (fun S pre Y => (∀ j, S j → w1.heap.size ≤ j) ∧ Below w1.heap.size w1 Y ∧ pre = [])
      (fun c pre Y => c = .ret ∧ ∃ (q : List Int) (A : Option Addr) (c' : Nat), pre = [q] ∧ Y.cell? ⟨w.heap.size + 1, 0, none⟩ = some (.slice A q.length c') ∧ Y.cell? ⟨w.heap.size + 1 + 1, 0, none⟩ = some (.int .i64 (usedC q : Nat)) ∧ Y.ownsRow w.heap.size 3 1 (.slice A q.length c') q.length (icells q) ∧ (∀ k, (Value.slice A q.length c').ownBlock = some k → w1.heap.size + 2 ≤ k) ∧ Below w.heap.size w Y ∧ w1.heap.size ≤ Y.heap.size ∧ Marks D Y)
      ?held ?heldx ⟨fun _ h => h.elim, Below.refl _ _, rfl⟩ (fun v v' => { tmps := #[.agg #[.int .i64 n, .slice A0 pl.length c0], .pointer (some ⟨w.heap.size, 0, none⟩), .pointer (some ⟨w.heap.size + 1, 0, none⟩), .pointer (some ⟨w.heap.size + 1 + 1, 0, none⟩), .int .i64 (s : Nat), v, v', u7, u8, .agg #[.int .i64 n, .slice A0 pl.length c0], .int .i64 (s : Nat), .func (.func 80) #[] lb, v, v', u14, u15, u16], defers := [] }) ?assign ?body ?done ?stop
    case held =>
      rintro S S' pre A C ⟨a1, a2, a3⟩ hap hS'
      exact ⟨fun j hj => (hS' j hj).elim (a1 j) (by have := a2.size; omega), a2.trans (hap.below_of a2.size fun j hj => a1 j hj), a3⟩
    case heldx =>
      rintro c pre A C ⟨hc, q, Aq, cq, a1, a2, a2', a3, a4, a5, a6, a7⟩ hap
      refine ⟨hc, q, Aq, cq, a1, hap.cell a2 (by simp; omega), hap.cell a2' (by simp; omega), ?_, a4, a5.trans (hap.below_of (by omega) fun j hj => by omega), Nat.le_trans a6 hap.below.size, a7.same fun j hj => hap.same j ?_ ?_⟩
      · obtain ⟨h1, h2⟩ := a3
        rcases h2 with ⟨hv, h0⟩ | ⟨g, cap, cur, hv, hb, hg, hrest⟩
        · exact ⟨h1, .inl ⟨hv, h0⟩⟩
        · have hk := a4 g (by rw [hv]; rfl)
          exact ⟨h1, .inr ⟨g, cap, cur, hv, hb, (hap.same g (Array.getElem?_eq_some_iff.1 hg).1 (by omega)).trans hg, hrest⟩⟩
      · exact (Array.getElem?_eq_some_iff.1 (a7.block hj)).1
      · have := Mlt.out j hj; omega
    case assign =>
      intro l v v' Y K hK
      gi_wp2
      exact hK
    case body =>
      rintro l S' S pre x v v' Y ⟨a1, a2, rfl⟩ hrd hTS hz hS' _
      obtain ⟨A, c, hv, told, hTb, hx100⟩ := hrd
      obtain ⟨rfl, rfl⟩ : v = .slice A x.length c ∧ v' = .int .i64 (usedC x : Nat) := by simpa using hv
      have Told := Lib.hid told
      have sY := a2.size
      have cY := cell_in ((a2.block _ (show w.heap.size + 1 < w1.heap.size by omega)).trans BS1.out)
      have fY := frozen_of_row _ _ 0 _ _ ((a2.block _ (show w.heap.size + 1 < w1.heap.size by omega)).trans BS1.out)
      have cY2 := cell_in ((a2.block _ (show w.heap.size + 2 < w1.heap.size by omega)).trans BB1.out)
      have fY2 := frozen_of_row _ _ 0 _ _ ((a2.block _ (show w.heap.size + 2 < w1.heap.size by omega)).trans BB1.out)
      have mY := Mk1.out.below a2
      have MY := Lib.hid mY
      have A2 := Lib.hid a2
      clear told mY a2 hTb hv
      gi_wp2_with fail
      refine ⟨trivial, (((callsIn_wide (n := 2)).2 (cloneI_any x A c Y (by omega) (CRead.of_own Told.out))).inRound l).mono ?_⟩
      rintro e w2 ⟨Ac, cc, rfl, own2, hb2⟩
      have c2 := carry hb2 cY (by omega)
      have f2 := (hb2.frozen (p := ⟨w.heap.size + 1, 0, none⟩) (by simp; omega)).trans fY
      have d2 : w2.cell? ⟨w.heap.size + 1 + 1, 0, none⟩ = some (.int .i64 0) := carry hb2 cY2 (by omega)
      have g2 : w2.frozen? ⟨w.heap.size + 1 + 1, 0, none⟩ = false := (hb2.frozen (p := ⟨w.heap.size + 1 + 1, 0, none⟩) (by simp; omega)).trans fY2
      have s2 := hb2.size
      have Own2 := Lib.hid own2
      have Hb2 := Lib.hid hb2
      clear own2 hb2 cY fY cY2 fY2
      gi_wp2
      have kY := K1.out.trans (A2.out.mono (by omega))
      have k2 := kY.trans (Hb2.out.mono (by omega))
      refine ⟨((Stays.of_below Hb2.out).trans (Stays.setCell (p := ⟨w.heap.size + 1, 0, none⟩) (by simp; omega) w2 _)).trans (Stays.setCell (p := ⟨w.heap.size + 1 + 1, 0, none⟩) (by simp; omega) _ _), rfl, x, Ac, cc, rfl, ?_, World.cell?_setCell_same' _ _ _ (by rw [World.cell?_setCell_other _ _ _ _ (by simp), d2]; rfl), own_lower (ownsRow_setCell_below (ownsRow_setCell_below Own2.out (a := ⟨w.heap.size + 1, 0, none⟩) (by simp; omega) _) (a := ⟨w.heap.size + 1 + 1, 0, none⟩) (by simp; omega) _) (by omega), fun k hk => ?_, (k2.setCell (p := ⟨w.heap.size + 1, 0, none⟩) (by simp) _).setCell (p := ⟨w.heap.size + 1 + 1, 0, none⟩) (by simp; omega) _, by simp; omega, ((MY.out.below Hb2.out).same fun j hj => Below.heap_setCell w2 _ _ _ ?_).same fun j hj => Below.heap_setCell _ _ _ _ ?_⟩
      · rw [World.cell?_setCell_other _ _ _ _ (by simp)]
        exact World.cell?_setCell_same' _ _ _ (by rw [c2]; rfl)
      · have := (own_lies Own2.out k hk).1; omega
      · have := HMW.out j hj; simp; omega
      · have := HMW.out j hj; simp; omega
    case done =>
      rintro S Y ⟨a1, a2, hpre⟩ hD
      have hsn : s < n := by
        rcases Nat.lt_or_ge s n with h | h
        · exact h
        · have : s = n := by omega
          subst this
          exact absurd hpre Hsome.out
      have hwr : IntKind.i64.wrap ((s : Int) + 1) = ((s + 1 : Nat) : Int) := by rw [wrap_le (by omega) (by omega)]; omega
      have Hpre := Lib.hid hpre
      have Hwr := Lib.hid hwr
      have A2 := Lib.hid a2
      clear hpre hwr a2
      go_wp2
      first | rw [Hwr.out] | skip
      refine ⟨⟨s + 1, _, _, _, _, _, _, _, _, _, _, _, _, _, by first | rfl | go_num, by omega, fun m' h => ?_, (Mk1.out.below A2.out).cons hD fun j hj => by have := Mlt.out j hj; omega, fun j hj => ?_, BW.out.trans (A2.out.mono (by omega))⟩, ?_⟩
      · by_cases he : m' = s
        · rw [he]; exact Hpre.out
        · exact HFs.out m' (by omega)
      · obtain ⟨d, hd, ht⟩ := hj
        rcases List.mem_cons.1 hd with rfl | hd
        · simp only [Target.collected.injEq] at ht; omega
        · exact HMW.out j ⟨d, hd, ht⟩
      · simp [intOf]; omega
    case stop =>
      rintro c pre x Y hpre ⟨rfl, q, A, c', hq, cell, cell2, own, hblk, kY, sY, mY⟩ hD
      have hRq : q = F1 ∧ usedC q = F2 := by
        obtain ⟨L, hL⟩ := hpre
        rw [hq] at hL
        exact Hans.out s HFs.out q L hL
      obtain ⟨rfl, rfl⟩ := hRq
      have Own := Lib.hid own
      clear own
      go_wp2
      have mk2 := mY.cons hD fun j hj => by have := Mlt.out j hj; omega
      have hge : ∀ j, isMark ({ target := .collected w1.heap.size, args := #[] } :: D) j → W.heap.size ≤ j := fun j ⟨d, hd, ht⟩ => by
        rcases List.mem_cons.1 hd with rfl | hd
        · simp only [Target.collected.injEq] at ht; omega
        · exact HMW.out j ⟨d, hd, ht⟩
      refine leaves_marks _ _ mk2 fun W' ha => ⟨.tuple #[.slice A q.length c', .int .i64 (usedC q : Nat)], ?_, ?_⟩
      · have c10 := ha.cell cell (fun h => by have := hge _ h; simp at this; omega)
        have c11 := ha.cell cell2 (fun h => by have := hge _ h; simp at this; omega)
        simp [results, Try.results56, go_sem, c10, c11]
      · exact ⟨A, c', rfl, own_at Own.out (mk2.rows ha), kY.trans (ha.below_of (by omega) fun j hj => by have := hge _ hj; omega)⟩
end Go.Proofs.Ythddlpghjkiioaa
/-
  TWO PARTIES BESIDE EACH OTHER, as lists and as tables.
-/
namespace Go.Proofs.Ythddlpghjkiioaa
open Go.RowKit

def shifted (p : Int) (l : PL) : PL := l.map fun q => (q.1 + p, q.2 + p)
def besideP (p : Int) (l m : PL) : PL := l ++ shifted p m
theorem mem_shifted {p : Int} {l : PL} {q : Int × Int} : q ∈ shifted p l ↔ (q.1 - p, q.2 - p) ∈ l := by
  unfold shifted
  rw [List.mem_map]
  constructor
  · rintro ⟨r, hr, rfl⟩
    have e : (r.1 + p - p, r.2 + p - p) = r := Prod.ext (by simp) (by simp)
    rw [e]
    exact hr
  · intro h
    exact ⟨_, h, Prod.ext (by simp) (by simp)⟩
theorem beside_list {p s : Int} {l m : PL} (hl : isP p l = true) (hm : isP s m = true) (h : p + s ≤ 12) : IsList (p + s) (besideP p l m) := by
  obtain ⟨a0, a1, a2, a3⟩ := isP_list hl
  obtain ⟨b0, b1, b2, b3⟩ := isP_list hm
  refine ⟨by omega, h, fun q hq => ?_, ?_⟩
  · unfold besideP at hq
    rcases List.mem_append.1 hq with hq | hq
    · have := a2 q hq
      omega
    · have := b2 _ (mem_shifted.1 hq)
      simp only at this
      omega
  · unfold besideP
    rw [List.pairwise_append]
    refine ⟨a3, ?_, ?_⟩
    · unfold shifted
      rw [List.pairwise_map]
      exact b3.imp fun {x y} h => by unfold plt at *; simp only; omega
    · intro x hx y hy
      have h1 := a2 x hx
      have h2 := b2 _ (mem_shifted.1 hy)
      unfold plt
      simp only at h2
      omega
/-- the table of both: each one's own, and x between them -/
def joinT (p : Nat) (t t' : Nat → Nat → Bool) (x : Bool) : Nat → Nat → Bool := fun i j => if i < p then (if j < p then t i j else x) else if j < p then x else t' (i - p) (j - p)
theorem joinT_adj {p s : Nat} {l m : PL} (hl : isP p l = true) (hm : isP s m = true) {i j : Nat} (hij : i < j) : joinT p (adj l) (adj m) false i j = true ↔ ((i : Int), (j : Int)) ∈ besideP p l m := by
  have a2 := (isP_list hl).2.2.1
  have b2 := (isP_list hm).2.2.1
  unfold joinT besideP
  rw [List.mem_append, mem_shifted]
  by_cases hj : j < p
  · rw [if_pos (by omega), if_pos hj, adj_pair hl hij, List.contains_iff_mem]
    refine ⟨.inl, fun h => h.elim id fun h => ?_⟩
    have := b2 _ h
    simp only at this
    omega
  · have hn : ¬ ((i : Int), (j : Int)) ∈ l := fun h => by
      have := a2 _ h
      simp only at this
      omega
    by_cases hi : i < p
    · rw [if_pos hi, if_neg hj]
      refine ⟨fun h => (by cases h), fun h => ?_⟩
      rcases h with h | h
      · exact absurd h hn
      · have := b2 _ h
        simp only at this
        omega
    · rw [if_neg hi, if_neg hj, adj_pair hm (by omega), List.contains_iff_mem]
      have e1 : ((i - p : Nat) : Int) = (i : Int) - p := by omega
      have e2 : ((j - p : Nat) : Int) = (j : Int) - p := by omega
      rw [e1, e2]
      exact ⟨.inr, fun h => h.elim (fun h => absurd h hn) id⟩
theorem tabP_beside {p s : Nat} {l m : PL} (hl : isP p l = true) (hm : isP s m = true) (h : p + s ≤ 12) : tabP (p + s) (joinT p (adj l) (adj m) false) = besideP p l m := by
  have hb := beside_list hl hm (by omega)
  refine sorted_ext (filter_list h _).2.2.2 hb.2.2.2 fun q => ?_
  unfold tabP
  rw [List.mem_filter, mem_allP]
  constructor
  · rintro ⟨⟨h0, h1, h2⟩, ht⟩
    have e : q = (((q.1.toNat : Nat) : Int), ((q.2.toNat : Nat) : Int)) := Prod.ext (by simp; omega) (by simp; omega)
    rw [e]
    exact (joinT_adj hl hm (by omega)).1 ht
  · intro hq
    have h3 := hb.2.2.1 q hq
    have e : q = (((q.1.toNat : Nat) : Int), ((q.2.toNat : Nat) : Int)) := Prod.ext (by simp; omega) (by simp; omega)
    refine ⟨by omega, (joinT_adj hl hm (by omega)).2 ?_⟩
    rw [← e]
    exact hq
end Go.Proofs.Ythddlpghjkiioaa
/-
  TWO PARTIES TOGETHER: all of the one friends of all of the other, as lists and as tables; a table of both in the middle of being filled.
-/
namespace Go.Proofs.Ythddlpghjkiioaa
open Go.RowKit

theorem other_isP {n : Nat} {l : PL} (h : isP n l = true) : isP n (otherP n l) = true := by
  have h12 := (isP_range h).2
  exact filter_isP (by omega) _
theorem adj_other {n : Nat} {l : PL} (h : isP n l = true) {i j : Nat} (hij : i < j) (hj : j < n) : adj (otherP n l) i j = !adj l i j := by
  rw [adj_pair (other_isP h) hij, adj_pair h hij, Bool.eq_iff_iff, List.contains_iff_mem]
  unfold otherP
  rw [List.mem_filter, mem_allP]
  constructor
  · intro h; exact h.2
  · intro h; exact ⟨⟨by simp only; omega, by simp only; omega, by simp only; omega⟩, h⟩
def togetherP (p s : Nat) (l m : PL) : PL := otherP (p + s) (besideP p (otherP p l) (otherP s m))
theorem beside_isP {p s : Nat} {l m : PL} (hl : isP p l = true) (hm : isP s m = true) (h : p + s ≤ 12) : isP ((p + s : Nat) : Int) (besideP p l m) = true := by
  have := beside_list (p := p) (s := s) hl hm (by omega)
  have e : ((p + s : Nat) : Int) = (p : Int) + s := by omega
  rw [e]
  exact isP_of_list this
theorem tabP_together {p s : Nat} {l m : PL} (hl : isP p l = true) (hm : isP s m = true) (h : p + s ≤ 12) : tabP (p + s) (joinT p (adj l) (adj m) true) = togetherP p s l m := by
  have ho := other_isP hl
  have ho' := other_isP hm
  unfold togetherP
  rw [← tabP_other (beside_isP ho ho' h)]
  refine tabP_congr fun i j hij hj => ?_
  have hB := beside_isP ho ho' h
  rw [adj_pair hB hij]
  have e := joinT_adj ho ho' hij
  have e' : (besideP (p : Int) (otherP p l) (otherP s m)).contains ((i : Int), (j : Int)) = joinT p (adj (otherP p l)) (adj (otherP s m)) false i j := by
    rw [Bool.eq_iff_iff, List.contains_iff_mem, e]
  rw [e']
  unfold joinT
  by_cases hj' : j < p
  · rw [if_pos (show i < p by omega), if_pos hj', if_pos (show i < p by omega), if_pos hj', adj_other hl hij hj', Bool.not_not]
  · by_cases hi' : i < p
    · simp [hi', hj']
    · rw [if_neg hi', if_neg hj', if_neg hi', if_neg hj', adj_other hm (by omega) (by omega), Bool.not_not]

/-! ## The table of both, in the middle of being filled -/
/-- the first a rows of the one, its first p cells -/
def fillA (p : Nat) (t : Nat → Nat → Bool) (a : Nat) : Nat → Nat → Bool := fun i j => if i < a ∧ j < p then t i j else false
/-- the other one's too, its first a rows -/
def fillB (p : Nat) (t t' : Nat → Nat → Bool) (a : Nat) : Nat → Nat → Bool := fun i j => if i < p ∧ j < p then t i j else if p ≤ i ∧ i < p + a ∧ p ≤ j then t' (i - p) (j - p) else false
/-- what is between them: the first a rows, and of the next one up to b -/
def fillC (p : Nat) (t t' : Nat → Nat → Bool) (x : Bool) (a b : Nat) : Nat → Nat → Bool := fun i j =>
  if i < p ∧ j < p then t i j else if p ≤ i ∧ p ≤ j then t' (i - p) (j - p) else if i < p then (if i < a ∨ i = a ∧ j < b then x else false) else if j < a ∨ j = a ∧ i < b then x else false
theorem fillC_next (p : Nat) (t t' : Nat → Nat → Bool) (x : Bool) {a b : Nat} (ha : a < p) (hb : p ≤ b) : upd (upd (fillC p t t' x a b) a b x) b a x = fillC p t t' x a (b + 1) := by
  funext i j
  unfold upd fillC
  by_cases h1 : i = b ∧ j = a
  · obtain ⟨rfl, rfl⟩ := h1
    rw [if_pos ⟨rfl, rfl⟩, if_neg (by omega), if_neg (by omega), if_neg (by omega), if_pos (by omega)]
  · rw [if_neg h1]
    by_cases h2 : i = a ∧ j = b
    · obtain ⟨rfl, rfl⟩ := h2
      rw [if_pos ⟨rfl, rfl⟩, if_neg (by omega), if_neg (by omega), if_pos (by omega), if_pos (by omega)]
    · rw [if_neg h2]
      by_cases c1 : i < p ∧ j < p
      · rw [if_pos c1, if_pos c1]
      · rw [if_neg c1, if_neg c1]
        by_cases c2 : p ≤ i ∧ p ≤ j
        · rw [if_pos c2, if_pos c2]
        · rw [if_neg c2, if_neg c2]
          by_cases c3 : i < p
          · rw [if_pos c3, if_pos c3]
            have : (i < a ∨ i = a ∧ j < b) ↔ (i < a ∨ i = a ∧ j < b + 1) := by omega
            simp only [this]
          · rw [if_neg c3, if_neg c3]
            have : (j < a ∨ j = a ∧ i < b) ↔ (j < a ∨ j = a ∧ i < b + 1) := by omega
            simp only [this]
theorem fillC_row {n : Nat} (p : Nat) (t t' : Nat → Nat → Bool) (x : Bool) (a : Nat) : ∀ i j, i < n → j < n → fillC p t t' x a n i j = fillC p t t' x (a + 1) p i j := by
  intro i j hi hj
  unfold fillC
  by_cases c1 : i < p ∧ j < p
  · rw [if_pos c1, if_pos c1]
  · rw [if_neg c1, if_neg c1]
    by_cases c2 : p ≤ i ∧ p ≤ j
    · rw [if_pos c2, if_pos c2]
    · rw [if_neg c2, if_neg c2]
      by_cases c3 : i < p
      · rw [if_pos c3, if_pos c3]
        have : (i < a ∨ i = a ∧ j < n) ↔ (i < a + 1 ∨ i = a + 1 ∧ j < p) := by omega
        simp only [this]
      · rw [if_neg c3, if_neg c3]
        have : (j < a ∨ j = a ∧ i < n) ↔ (j < a + 1 ∨ j = a + 1 ∧ i < p) := by omega
        simp only [this]
theorem fillC_start {n : Nat} (p s : Nat) (t t' : Nat → Nat → Bool) (x : Bool) (hn : n = p + s) : ∀ i j, i < n → j < n → fillB p t t' s i j = fillC p t t' x 0 p i j := by
  intro i j hi hj
  unfold fillB fillC
  by_cases c1 : i < p ∧ j < p
  · rw [if_pos c1, if_pos c1]
  · rw [if_neg c1, if_neg c1]
    by_cases c2 : p ≤ i ∧ p ≤ j
    · rw [if_pos c2, if_pos (by omega)]
    · rw [if_neg c2, if_neg (by omega)]
      by_cases c3 : i < p
      · rw [if_pos c3, if_neg (by omega)]
      · rw [if_neg c3, if_neg (by omega)]
theorem fillC_all {n : Nat} (p : Nat) (t t' : Nat → Nat → Bool) (x : Bool) (b : Nat) : ∀ i j, i < n → j < n → fillC p t t' x p b i j = joinT p t t' x i j := by
  intro i j hi hj
  unfold fillC joinT
  by_cases c1 : i < p
  · by_cases c2 : j < p
    · simp [c1, c2]
    · rw [if_neg (by omega), if_neg (by omega), if_pos c1, if_pos (by omega), if_pos c1, if_neg c2]
  · by_cases c2 : j < p
    · rw [if_neg (by omega), if_neg (by omega), if_neg c1, if_pos (by omega), if_neg c1, if_pos c2]
    · rw [if_neg (by omega), if_pos (by omega), if_neg c1, if_neg c2]
theorem fillA_start (p : Nat) (t : Nat → Nat → Bool) : fillA p t 0 = fun _ _ => false := by funext i j; simp [fillA]
theorem fillB_start (p : Nat) (t t' : Nat → Nat → Bool) : fillB p t t' 0 = fillA p t p := by
  funext i j
  unfold fillB fillA
  by_cases c : i < p ∧ j < p
  · rw [if_pos c, if_pos c]
  · rw [if_neg c, if_neg c, if_neg (by omega)]
end Go.Proofs.Ythddlpghjkiioaa
/-
  'FewestGroups' of both sides, by their contracts (written by program after XColsD).
-/
namespace Go.Proofs.Ythddlpghjkiioaa
open Go.RowKit

def resFewestGroups (p : Int) (l : PL) : Int × Bool := if isFew p l then ((((fewestC (adj (otherP p.toNat l)) p.toNat).2 : Nat) : Int), true) else (0, false)
theorem otherP_few {n : Nat} (h : n ≤ 12) (l : PL) : (otherP n l).length ≤ 66 := Nat.le_trans (List.length_filter_le _ _) (allP_length_le h)
set_option maxHeartbeats 1000000 in
set_option maxRecDepth 100000 in
theorem specFewestGroups_any (p : Int) (l : PL) (A : Option Addr) (c : Nat) (w : World) (hl : l.length ≤ 1048576) (hA : CRead w w.heap.size A (pcells l)) :
    Calls Try.prog 28 #[.agg #[.int .i64 p, .slice A l.length c]] w fun e w' => e = .returned (.tuple #[.int .i64 (resFewestGroups p l).1, .bool (resFewestGroups p l).2]) ∧ Below w.heap.size w w' := by
  have RA : CRead (w.alloc (Obj.cells #[.int .i64 p, .slice A l.length c] 25)) (w.alloc (Obj.cells #[.int .i64 p, .slice A l.length c] 25)).heap.size A (pcells l) := (hA.below (B' := w.heap.size) (by go_grown) (Nat.le_refl _)).more (by go_size)
  cases hf : isFew p l with
  | false =>
    have e : resFewestGroups p l = (0, false) := by simp [resFewestGroups, hf]
    rw [e]
    have Hf := Lib.hid hf
    clear hf e
    go_enter Try.func28, Try.ntmps28
    go_wp2_with fail
    refine (grFew_any _ _ _ _ _ hl RA).mono ?_
    rw [Hf.out]
    rintro e w2 ⟨rfl, hb2⟩
    simp only [World.size_alloc] at hb2
    have k2 : Below w.heap.size w w2 := Below.trans (b := _) (by go_grown) (hb2.mono (by omega))
    go_wp2
    go_ret2
    exact ⟨rfl, k2⟩
  | true =>
    have e : resFewestGroups p l = ((((fewestC (adj (otherP p.toNat l)) p.toNat).2 : Nat) : Int), true) := by simp [resFewestGroups, hf]
    have hp : isP p l = true := by unfold isFew at hf; simp at hf; exact hf.1
    have hn := isP_range hp
    obtain ⟨n, rfl⟩ : ∃ n : Nat, p = n := ⟨p.toNat, by omega⟩
    rw [e]
    simp only [Int.toNat_natCast]
    have Hf := Lib.hid hf
    have Hp := Lib.hid hp
    clear hf hp e
    go_enter Try.func28, Try.ntmps28
    go_wp2_with fail
    refine (grFew_any _ _ _ _ _ hl RA).mono ?_
    rw [Hf.out]
    rintro e w2 ⟨rfl, hb2⟩
    simp only [World.size_alloc] at hb2
    have a0 : w2.cell? ⟨w.heap.size, 0, none⟩ = some (.int .i64 n) := carry hb2 (by simp) (by omega)
    have a1 : w2.cell? ⟨w.heap.size, 1, none⟩ = some (.slice A l.length c) := carry hb2 (by simp) (by omega)
    have k2 : Below w.heap.size w w2 := Below.trans (b := _) (by go_grown) (hb2.mono (by omega))
    have hof : (otherP n l).length ≤ 66 := otherP_few (by omega) l
    clear hb2
    go_wp2_with fail
    refine (paOther_any n l A c w2 Hp.out ((hA.below k2 (Nat.le_refl _)).more k2.size)).mono ?_
    rintro e w3 ⟨A3, c3, rfl, own3, hb3⟩
    rw [Int.toNat_natCast] at own3
    simp only [Int.toNat_natCast]
    have k3 := k2.trans (hb3.mono k2.size)
    have call := grFewest_any n (otherP n l) A3 c3 w3 (by omega) (other_isP Hp.out) (CRead.of_own own3)
    have Call := Lib.hid call
    have K3 := Lib.hid k3
    clear hb3 k2 a0 a1 call own3 k3
    go_wp2_with fail
    refine Call.out.mono ?_
    rintro e w4 ⟨A4, c4, rfl, own4, hb4⟩
    have K := Lib.hid (K3.out.trans (hb4.mono K3.out.size))
    clear own4 hb4
    go_wp2
    go_ret2
    exact ⟨rfl, K.out⟩
set_option maxHeartbeats 1000000 in
set_option maxRecDepth 100000 in
theorem implFewestGroups_any (p : Int) (l : PL) (A : Option Addr) (c : Nat) (w : World) (hl : l.length ≤ 1048576) (hA : CRead w w.heap.size A (pcells l)) :
    Calls Try.prog 29 #[.agg #[.int .i64 p, .slice A l.length c]] w fun e w' => e = .returned (.tuple #[.int .i64 (resFewestGroups p l).1, .bool (resFewestGroups p l).2]) ∧ Below w.heap.size w w' := by
  have RA : CRead (w.alloc (Obj.cells #[.int .i64 p, .slice A l.length c] 25)) (w.alloc (Obj.cells #[.int .i64 p, .slice A l.length c] 25)).heap.size A (pcells l) := (hA.below (B' := w.heap.size) (by go_grown) (Nat.le_refl _)).more (by go_size)
  cases hf : isFew p l with
  | false =>
    have e : resFewestGroups p l = (0, false) := by simp [resFewestGroups, hf]
    rw [e]
    have Hf := Lib.hid hf
    clear hf e
    go_enter Try.func29, Try.ntmps29
    go_wp2_with fail
    refine (isColoured_any _ _ _ _ _ hl RA).mono ?_
    rw [Hf.out]
    rintro e w2 ⟨rfl, hb2⟩
    simp only [World.size_alloc] at hb2
    have k2 : Below w.heap.size w w2 := Below.trans (b := _) (by go_grown) (hb2.mono (by omega))
    go_wp2
    go_ret2
    exact ⟨rfl, k2⟩
  | true =>
    have e : resFewestGroups p l = ((((fewestC (adj (otherP p.toNat l)) p.toNat).2 : Nat) : Int), true) := by simp [resFewestGroups, hf]
    have hp : isP p l = true := by unfold isFew at hf; simp at hf; exact hf.1
    have hn := isP_range hp
    obtain ⟨n, rfl⟩ : ∃ n : Nat, p = n := ⟨p.toNat, by omega⟩
    rw [e]
    simp only [Int.toNat_natCast]
    have Hf := Lib.hid hf
    have Hp := Lib.hid hp
    clear hf hp e
    go_enter Try.func29, Try.ntmps29
    go_wp2_with fail
    refine (isColoured_any _ _ _ _ _ hl RA).mono ?_
    rw [Hf.out]
    rintro e w2 ⟨rfl, hb2⟩
    simp only [World.size_alloc] at hb2
    have a0 : w2.cell? ⟨w.heap.size, 0, none⟩ = some (.int .i64 n) := carry hb2 (by simp) (by omega)
    have a1 : w2.cell? ⟨w.heap.size, 1, none⟩ = some (.slice A l.length c) := carry hb2 (by simp) (by omega)
    have k2 : Below w.heap.size w w2 := Below.trans (b := _) (by go_grown) (hb2.mono (by omega))
    have hof : (otherP n l).length ≤ 66 := otherP_few (by omega) l
    clear hb2
    go_wp2_with fail
    refine (other_any n l A c w2 Hp.out ((hA.below k2 (Nat.le_refl _)).more k2.size)).mono ?_
    rintro e w3 ⟨A3, c3, rfl, own3, hb3⟩
    rw [Int.toNat_natCast] at own3
    simp only [Int.toNat_natCast]
    have k3 := k2.trans (hb3.mono k2.size)
    have call := firstColouring_any (n := n) (pl := otherP n l) (A0 := A3) (c0 := c3) (by omega) (other_isP Hp.out) (by omega) w3 (CRead.of_own own3)
    have Call := Lib.hid call
    have K3 := Lib.hid k3
    clear hb3 k2 a0 a1 call own3 k3
    go_wp2_with fail
    refine Call.out.mono ?_
    rintro e w4 ⟨A4, c4, rfl, own4, hb4⟩
    have K := Lib.hid (K3.out.trans (hb4.mono K3.out.size))
    clear own4 hb4
    go_wp2
    go_ret2
    exact ⟨rfl, K.out⟩
end Go.Proofs.Ythddlpghjkiioaa
/-
  'spec.l1Own': a copy of a list of numbers, by its contract.
-/
namespace Go.Proofs.Ythddlpghjkiioaa
open Go.RowKit

set_option maxHeartbeats 1000000 in
set_option maxRecDepth 100000 in
theorem l1Own_any (q : List Int) (A : Option Addr) (c : Nat) (w : World) (hq : q.length ≤ 1048576) (h0 : 0 < q.length) (hA : CRead w w.heap.size A (icells q)) :
    Calls Try.prog 70 #[.slice A q.length c] w fun e w' => ∃ A' c', e = .returned (.slice A' q.length c') ∧ w'.ownsRow w.heap.size 3 1 (.slice A' q.length c') q.length (icells q) ∧ Below w.heap.size w w' := by
  obtain ⟨i0, hi, hz0, hz1, hz2⟩ := info_parts Try.infoInt
  obtain ⟨b, off, rfl, hb, hr⟩ := hA.ints h0
  go_enter Try.func70, Try.ntmps70
  have hc : ∀ j u, (icells q)[j]? = some u → (w.alloc (Obj.cells #[] 3)).cell? ((⟨b, off, none⟩ : Addr).add j) = some u := fun j u hu => by
    rw [Addr.add_lit]
    obtain ⟨b', off', e, _, hcell⟩ := hA j u hu
    simp only [Option.some.injEq, Addr.mk.injEq, and_true] at e
    obtain ⟨rfl, rfl⟩ := e
    exact (World.cell?_alloc_lt _ _ _ hb).trans hcell
  clear hr
  go_wp2_with (at_builtin; refine wpList_append_grows _ rfl _ _ 22 rfl 3 i0 _ 1 8 Try.underlying22 hi hz0 hz1 hz2 rfl (by decide) (some ⟨w.heap.size, 0, none⟩) 0 0 [] rfl (fun h => by cases h) rfl (fun b' hb' m u hu => by simp at hu) ⟨b, off, none⟩ q.length c (icells q) rfl (by simp [icells]) hc (icells_one q) (by omega) (by unfold maxLen; omega) (by omega) ?_; intro v1 w4 own4 gr4; simp only [Nat.zero_add, List.nil_append] at own4; obtain ⟨A4, d4, rfl, _⟩ := own_shape own4)
  go_ret
  exact ⟨A4, d4, rfl, own_lower own4 (by simp), below_of_gb (gb_trans (World.grownBy_alloc w _ none) gr4) (Nat.le_refl _)⟩
end Go.Proofs.Ythddlpghjkiioaa
/-
  LISTS OF NUMBERS UNDER ONE SLICE, each row in a block of the call's own; 'spec.l1Own' of any list; 'spec.trGroups' as a plain list.
-/
namespace Go.Proofs.Ythddlpghjkiioaa
open Go.RowKit

structure LRows (w : World) (B : Nat) (v : Value) (LL : List (List Int)) (hs : List Value) : Prop where
  own : w.ownsRow B 22 1 v LL.length hs
  row : ∀ (i : Nat) (l : List Int), LL[i]? = some l → ∃ A c, hs[i]? = some (Value.slice A l.length c) ∧ w.ownsRow B 3 1 (Value.slice A l.length c) l.length (icells l)
  nil : LL = [] → v = Value.slice none 0 0
section
variable {w w' : World} {B B' : Nat} {v v' v2 : Value} {LL L2 : List (List Int)} {hs hs2 : List Value}
theorem LRows.none (w : World) (B : Nat) : LRows w B (Value.slice Option.none 0 0) [] [] := ⟨World.ownsRow_nil _ _ _ _, fun i l h => by simp at h, fun _ => rfl⟩
theorem LRows.below (h : LRows w B v LL hs) (hb : Below w.heap.size w w') : LRows w' B v LL hs :=
  ⟨own_below h.own hb (Nat.le_refl _), fun i l hi => by obtain ⟨A, c, e, o⟩ := h.row i l hi; exact ⟨A, c, e, own_below o hb (Nat.le_refl _)⟩, h.nil⟩
theorem LRows.lower (h : LRows w B v LL hs) (hB : B' ≤ B) : LRows w B' v LL hs :=
  ⟨own_lower h.own hB, fun i l hi => by obtain ⟨A, c, e, o⟩ := h.row i l hi; exact ⟨A, c, e, own_lower o hB⟩, h.nil⟩
theorem LRows.length (h : LRows w B v LL hs) : hs.length = LL.length := by have := h.own.1; omega
theorem LRows.one (h : LRows w B v LL hs) : ∀ u ∈ hs, u.oneCell' = true := by
  intro u hu
  obtain ⟨i, hi, rfl⟩ := List.getElem_of_mem hu
  have hl := h.length
  obtain ⟨A, c, e, _⟩ := h.row i LL[i] (List.getElem?_eq_getElem (by omega))
  rw [List.getElem?_eq_getElem hi] at e
  simp only [Option.some.injEq] at e
  rw [e]
  rfl
theorem blocks_apart {e e' : TypeId} {size size' n m : Nat} {xs ys : List Value} (h : w.ownsRow B e size v n xs) (h' : w.ownsRow B' e' size' v' m ys) (hne : e ≠ e') : v'.ownBlock = .none ∨ v'.ownBlock ≠ v.ownBlock := by
  rcases h'.2 with ⟨rfl, _⟩ | ⟨g, cap, cur, rfl, _, hg, _⟩
  · exact .inl rfl
  · refine .inr fun e => ?_
    rcases h.2 with ⟨rfl, _⟩ | ⟨g2, cap2, cur2, rfl, _, hg2, _⟩
    · simp [Value.ownBlock] at e
    · have : g = g2 := by simpa [Value.ownBlock] using e
      subst this
      rw [hg] at hg2
      simp only [Option.some.injEq, Obj.cells.injEq] at hg2
      exact hne hg2.2.1.symm
/-- rows appended to rows -/
theorem LRows.append (h : LRows w B v LL hs) (h2 : LRows w B v2 L2 hs2) (hown : w'.ownsRow B 22 1 v' (LL.length + L2.length) (hs ++ hs2)) (hg : w.grownBy w' v.ownBlock) (hn : L2 ≠ []) : LRows w' B v' (LL ++ L2) (hs ++ hs2) := by
  have keep : ∀ A c l, w.ownsRow B 3 1 (.slice A l.length c) l.length (icells l) → w'.ownsRow B 3 1 (.slice A l.length c) l.length (icells l) := fun A c l o => o.kept hg (blocks_apart h.own o (show (22 : TypeId) ≠ 3 by decide))
  refine ⟨by rw [List.length_append]; exact hown, fun i l hi => ?_, fun e => ?_⟩
  · have hl := h.length
    by_cases hlt : i < LL.length
    · rw [List.getElem?_append_left hlt] at hi
      obtain ⟨A, c, e, o⟩ := h.row i l hi
      exact ⟨A, c, by rw [List.getElem?_append_left (by omega)]; exact e, keep A c l o⟩
    · rw [List.getElem?_append_right (by omega)] at hi
      obtain ⟨A, c, e, o⟩ := h2.row _ l hi
      exact ⟨A, c, by rw [List.getElem?_append_right (by omega), hl]; exact e, keep A c l o⟩
  · simp at e
    exact absurd e.2 hn
end
/-- A call came back with lists of numbers. -/
def GotLL (w : World) (LL : List (List Int)) (e : Ending) (w' : World) : Prop := ∃ A c hs, e = .returned (.slice A LL.length c) ∧ LRows w' w.heap.size (.slice A LL.length c) LL hs ∧ Below w.heap.size w w'

set_option maxHeartbeats 1000000 in
set_option maxRecDepth 100000 in
theorem l1Own_all (q : List Int) (A : Option Addr) (c : Nat) (w : World) (hq : q.length ≤ 1048576) (hA : CRead w w.heap.size A (icells q)) (h0 : q = [] → A = none ∧ c = 0) :
    Calls Try.prog 70 #[.slice A q.length c] w fun e w' => ∃ A' c', e = .returned (.slice A' q.length c') ∧ w'.ownsRow w.heap.size 3 1 (.slice A' q.length c') q.length (icells q) ∧ Below w.heap.size w w' := by
  by_cases hz : q = []
  · obtain ⟨rfl, rfl⟩ := h0 hz
    subst hz
    obtain ⟨i0, hi, hz0, hz1, hz2⟩ := info_parts Try.infoInt
    have h1 : (w.alloc (.cells #[] 3)).ownsRow w.heap.size 3 1 (.slice (some ⟨w.heap.size, 0, none⟩) 0 0) 0 [] := World.ownsRow_made w #[] 0 (Nat.le_refl _) (Nat.zero_le _) rfl
    go_enter Try.func70, Try.ntmps70
    go_wp2_with (at_builtin; refine wpList_append_own_none rfl _ _ 22 rfl w.heap.size 3 i0 1 Try.underlying22 hi (.slice (some ⟨w.heap.size, 0, none⟩) 0 0) 0 [] rfl h1 rfl ?_)
    go_ret
    exact ⟨_, _, rfl, h1, by go_grown⟩
  · have hpos : 0 < q.length := by cases q with | nil => exact absurd rfl hz | cons x q => simp
    exact l1Own_any q A c w hq hpos hA

/-! ## The model's candidates -/
def fromQ (q : List Int) : Nat := match q.getLast? with | none => 0 | some x => x.toNat + 1
def candR (t : Nat → Nat → Bool) (n : Nat) (q : List Int) (a : Nat) : List Nat := (List.range' a (n - a)).filter fun b => q.all fun y => t b y.toNat
theorem candR_end (t : Nat → Nat → Bool) (n : Nat) (q : List Int) {a : Nat} (h : n ≤ a) : candR t n q a = [] := by unfold candR; rw [Nat.sub_eq_zero_of_le h]; rfl
theorem candR_no {t : Nat → Nat → Bool} {n : Nat} {q : List Int} {a : Nat} (h : a < n) (hk : (q.all fun y => t a y.toNat) = false) : candR t n q a = candR t n q (a + 1) := by
  unfold candR
  rw [show n - a = (n - (a + 1)) + 1 from by omega, List.range'_succ, List.filter_cons_of_neg (by simp [hk])]
theorem candR_yes {t : Nat → Nat → Bool} {n : Nat} {q : List Int} {a : Nat} (h : a < n) (hk : (q.all fun y => t a y.toNat) = true) : candR t n q a = a :: candR t n q (a + 1) := by
  unfold candR
  rw [show n - a = (n - (a + 1)) + 1 from by omega, List.range'_succ, List.filter_cons_of_pos (by simpa using hk)]
theorem candR_tied {t : Nat → Nat → Bool} (hs : ∀ i j, t i j = t j i) (n : Nat) (q : List Int) (a : Nat) : (candR t n q (a + 1)).filter (t a) = candR t n (q ++ [(a : Int)]) (fromQ (q ++ [(a : Int)])) := by
  unfold candR fromQ
  simp only [List.getLast?_append, List.getLast?_singleton, Option.some_or, Int.toNat_natCast]
  rw [List.filter_filter]
  refine List.filter_congr fun b _ => ?_
  rw [List.all_append]
  simp [hs a b, Bool.and_comm]
end Go.Proofs.Ythddlpghjkiioaa
/-
  LISTS OF LISTS OF NUMBERS AS RESULTS: rows of the call's own, apart from each other; what the laws' marking and counting need of them.
-/
namespace Go.Proofs.Ythddlpghjkiioaa
open Go.RowKit

/-- the rows of a list of lists, each in a block of its own -/
def RowsL (w : World) (B : Nat) (v : Value) (LL : List (List Int)) (R : Nat → Option Addr) (C : Nat → Nat) : Prop :=
  RowsG w B v LL.length R C (fun i => (LL.getD i []).length) (fun i => LL.getD i [])
section
variable {w w' : World} {B n : Nat} {v v' : Value} {R : Nat → Option Addr} {C N : Nat → Nat} {F F' : Nat → List Int} {LL : List (List Int)}
theorem RowsG.below (h : RowsG w B v n R C N F) (hb : Below w.heap.size w w') : RowsG w' B v n R C N F :=
  ⟨own_below h.own hb (Nat.le_refl _), fun i hi => ⟨(h.row i hi).1, own_below (h.row i hi).2 hb (Nat.le_refl _)⟩, h.apart⟩
theorem RowsG.lower {B' : Nat} (h : RowsG w B v n R C N F) (hB : B' ≤ B) : RowsG w B' v n R C N F :=
  ⟨own_lower h.own hB, fun i hi => ⟨(h.row i hi).1, own_lower (h.row i hi).2 hB⟩, h.apart⟩
theorem own_from {e : TypeId} {s m : Nat} {u : Value} {xs : List Value} (h : w.ownsRow B e s u m xs) {x : Value} {lo hi : Nat} (hl : Lies x lo hi) (hB : hi ≤ B) : u.ownBlock = none ∨ u.ownBlock ≠ x.ownBlock := by
  cases e1 : u.ownBlock with
  | none => exact .inl rfl
  | some k =>
    right
    intro e2
    have h1 := (h.lt k e1).1
    have h2 := (hl k e2.symm).2
    omega
theorem RowsG.keptG (h : RowsG w B v n R C N F) {x : Value} {lo hi : Nat} (hg : w.grownBy w' x.ownBlock) (hl : Lies x lo hi) (hB : hi ≤ B) : RowsG w' B v n R C N F :=
  ⟨h.own.kept hg (own_from h.own hl hB), fun i hi => ⟨(h.row i hi).1, (h.row i hi).2.kept hg (own_from (h.row i hi).2 hl hB)⟩, h.apart⟩
theorem RowsL.none (w : World) (B : Nat) : RowsL w B (Value.slice Option.none 0 0) [] (fun _ => Option.none) (fun _ => 0) :=
  ⟨World.ownsRow_nil _ _ _ _, fun _ hi => absurd hi (Nat.not_lt_zero _), fun _ _ hi => absurd hi (Nat.not_lt_zero _)⟩
theorem getD_of {i : Nat} {l : List Int} (h : LL[i]? = some l) : LL.getD i [] = l := by rw [List.getD_eq_getElem?_getD, h]; rfl
theorem RowsL.below (h : RowsL w B v LL R C) (hb : Below w.heap.size w w') : RowsL w' B v LL R C := RowsG.below h hb
theorem RowsL.lower {B' : Nat} (h : RowsL w B v LL R C) (hB : B' ≤ B) : RowsL w B' v LL R C := RowsG.lower h hB
theorem RowsL.keptG (h : RowsL w B v LL R C) {x : Value} {lo hi : Nat} (hg : w.grownBy w' x.ownBlock) (hl : Lies x lo hi) (hB : hi ≤ B) : RowsL w' B v LL R C := RowsG.keptG h hg hl hB
theorem SRead.more {A : Option Addr} {B' : Nat} (h : SRead w B A LL) (hB : B ≤ B') : SRead w B' A LL := by
  intro i l hi
  obtain ⟨b, off, A', c', e, hlt, hc, hr⟩ := h i l hi
  exact ⟨b, off, A', c', e, by omega, hc, hr.more hB⟩
theorem RowsL.read {A : Option Addr} {c : Nat} (h : RowsL w B (.slice A LL.length c) LL R C) : SRead w w.heap.size A LL := RowsG.read h rfl fun _ _ hi => getD_of hi
/-- a row of its own put behind them, and its header -/
theorem RowsL.push (h : RowsL w B v LL R C) {l : List Int} {A : Option Addr} {c : Nat} (hr : w.ownsRow B 3 1 (.slice A l.length c) l.length (icells l))
    (hap : ∀ i, i < LL.length → (Value.slice (R i) (LL.getD i []).length (C i)).ownBlock = Option.none ∨ (Value.slice (R i) (LL.getD i []).length (C i)).ownBlock ≠ (Value.slice A l.length c).ownBlock)
    (hg : w.grownBy w' v.ownBlock) (ho : w'.ownsRow B 22 1 v' (LL.length + 1) (((List.range LL.length).map fun i => Value.slice (R i) (LL.getD i []).length (C i)) ++ [.slice A l.length c])) :
    RowsL w' B v' (LL ++ [l]) (upN R LL.length A) (upN C LL.length c) := by
  have hne : ∀ i, i < LL.length → (LL ++ [l]).getD i [] = LL.getD i [] := fun i hi => by
    rw [List.getD_eq_getElem?_getD, List.getD_eq_getElem?_getD, List.getElem?_append_left hi]
  have heq : (LL ++ [l]).getD LL.length [] = l := by rw [List.getD_eq_getElem?_getD]; simp
  unfold RowsL
  rw [List.length_append, List.length_singleton]
  refine ⟨?_, fun i hi => ?_, fun i j hi hj hij => ?_⟩
  · rw [List.range_succ, List.map_append, List.map_singleton, upN_self, upN_self, heq]
    rw [List.map_congr_left (g := fun i => Value.slice (R i) (LL.getD i []).length (C i)) fun i hi => by
      have := List.mem_range.1 hi
      rw [upN_ne _ _ (by omega), upN_ne _ _ (by omega), hne i this]]
    exact ho
  · by_cases e : i = LL.length
    · subst e
      simp only [upN_self, heq]
      exact ⟨trivial, hr.kept hg (own_apart hr h.own (by decide))⟩
    · have hin : i < LL.length := by omega
      simp only [upN_ne _ _ e, hne i hin]
      exact ⟨trivial, (h.row i hin).2.kept hg (own_apart (h.row i hin).2 h.own (by decide))⟩
  · by_cases e : i = LL.length
    · subst e
      have hjn : j < LL.length := by omega
      simp only [upN_self, upN_ne _ _ (show j ≠ LL.length by omega), heq, hne j hjn]
      cases hq : (Value.slice A l.length c).ownBlock with
      | none => exact .inl rfl
      | some b =>
        right
        intro e2
        rcases hap j hjn with h3 | h3
        · rw [h3] at e2; cases e2
        · rw [hq] at h3; exact h3 e2.symm
    · have hin : i < LL.length := by omega
      by_cases e2 : j = LL.length
      · subst e2
        simp only [upN_self, upN_ne _ _ e, heq, hne i hin]
        exact hap i hin
      · have hjn : j < LL.length := by omega
        simp only [upN_ne _ _ e, upN_ne _ _ e2, hne i hin, hne j hjn]
        exact h.apart i j hin hjn hij
/-- a row made behind a world is apart from the rows of that world -/
theorem RowsL.fresh (h : RowsL w B v LL R C) {x : Value} {lo hi : Nat} (hx : Lies x lo hi) (hlo : w.heap.size ≤ lo) : ∀ i, i < LL.length → (Value.slice (R i) (LL.getD i []).length (C i)).ownBlock = Option.none ∨ (Value.slice (R i) (LL.getD i []).length (C i)).ownBlock ≠ x.ownBlock := by
  intro i hi
  cases e1 : (Value.slice (R i) (LL.getD i []).length (C i)).ownBlock with
  | none => exact .inl rfl
  | some k =>
    right
    intro e2
    have h1 := ((h.row i hi).2.lt k e1).2
    have h2 := (hx k e2.symm).1
    omega
theorem LRows.read {A : Option Addr} {c : Nat} {hs : List Value} (h : LRows w B (.slice A LL.length c) LL hs) : SRead w w.heap.size A LL := by
  intro i l hi
  have hin : i < LL.length := (List.getElem?_eq_some_iff.1 hi).1
  obtain ⟨g, rfl⟩ := own_form h.own (by omega)
  obtain ⟨A', c', e, o⟩ := h.row i l hi
  refine ⟨g, 0, A', c', rfl, (own_lt h.own).2, ?_, CRead.of_own o⟩
  rw [Nat.zero_add, h.own.cellAt i (by omega)]
  exact e
end
/-- how many numbers lie in all rows -/
def sumL (LL : List (List Int)) : Nat := (LL.map List.length).sum
theorem sumL_row {LL : List (List Int)} {l : List Int} (h : l ∈ LL) : l.length ≤ sumL LL := by
  unfold sumL
  induction LL with
  | nil => cases h
  | cons x LL ih =>
    simp only [List.map_cons, List.sum_cons]
    rcases List.mem_cons.1 h with rfl | h
    · omega
    · have := ih h; omega
theorem sumL_le {LL : List (List Int)} {m : Nat} (h : ∀ l ∈ LL, l.length ≤ m) : sumL LL ≤ LL.length * m := by
  unfold sumL
  induction LL with
  | nil => simp
  | cons x LL ih =>
    simp only [List.map_cons, List.sum_cons, List.length_cons]
    have h1 := h x List.mem_cons_self
    have h2 := ih fun l hl => h l (List.mem_cons_of_mem _ hl)
    rw [Nat.add_mul]
    omega
theorem lens_at (LL : List (List Int)) (i : Nat) : (LL.map List.length).getD i 0 = (LL.getD i []).length := by
  rw [List.getD_eq_getElem?_getD, List.getD_eq_getElem?_getD, List.getElem?_map]
  cases LL[i]? <;> rfl
/-- the rows are marked, counted on from k0 -/
def MarkedL (w : World) (B : Nat) (v : Value) (LL : List (List Int)) (k0 : Int) (R : Nat → Option Addr) (C : Nat → Nat) : Prop :=
  RowsG w B v LL.length R C (fun i => (LL.getD i []).length) (fun i => imarks (k0 + lens (LL.map List.length) i) (LL.getD i []).length)
theorem MarkedL.below {w w' : World} {B : Nat} {v : Value} {LL : List (List Int)} {k0 : Int} {R : Nat → Option Addr} {C : Nat → Nat} (h : MarkedL w B v LL k0 R C) (hb : Below w.heap.size w w') : MarkedL w' B v LL k0 R C := RowsG.below h hb
theorem markIntSS_rows (LL : List (List Int)) (A : Option Addr) (c : Nat) (k0 : Int) (B : Nat) (R : Nat → Option Addr) (C : Nat → Nat) (w : World) (hl : LL.length ≤ 1048576) (hs : sumL LL ≤ 1048576) (hk0 : 0 ≤ k0 ∧ k0 ≤ 8388608) (hB : B ≤ w.heap.size)
    (h : RowsL w B (.slice A LL.length c) LL R C) :
    Calls Try.prog 33 #[.slice A LL.length c, .int .i64 k0] w fun e w' => e = .returned (.int .i64 (k0 + sumL LL)) ∧ MarkedL w' B (.slice A LL.length c) LL k0 R C ∧ Below B w w' := by
  have g := markIntSS_any (LL.map List.length) A c k0 B R C (fun i => LL.getD i []) w (by simpa using hl) hs hk0 hB (by simp only [List.length_map, lens_at]; exact h)
  simp only [List.length_map, lens_at] at g
  exact g
theorem heldIntSS_rows (LL : List (List Int)) (A : Option Addr) (c : Nat) (k0 : Int) (B : Nat) (R : Nat → Option Addr) (C : Nat → Nat) (w : World) (hl : LL.length ≤ 1048576) (hs : sumL LL ≤ 1048576) (hk0 : 0 ≤ k0 ∧ k0 ≤ 8388608)
    (h : MarkedL w B (.slice A LL.length c) LL k0 R C) :
    Calls Try.prog 34 #[.slice A LL.length c, .int .i64 k0] w fun e w' => e = .returned (.int .i64 (k0 + sumL LL)) ∧ w = w' := by
  have g := heldIntSS_any (LL.map List.length) A c k0 w (by simpa using hl) hs hk0 (RowsG.read (LL := rowMarks k0 (LL.map List.length)) h (by simp [rowMarks_length]) fun i l hi => by
    have hlt := (List.getElem?_eq_some_iff.1 hi).1
    rw [rowMarks_length, List.length_map] at hlt
    have e := rowMarks_at (k0 := k0) (ns := LL.map List.length) (k := i) (n := (LL.getD i []).length) (by rw [List.getElem?_map, List.getD_eq_getElem?_getD, List.getElem?_eq_getElem hlt]; rfl)
    rw [e] at hi
    exact (Option.some.inj hi))
  simp only [List.length_map] at g
  exact g
/-- A call came back with lists of numbers, and whether it did. -/
def GotRowsOk (w : World) (LL : List (List Int)) (ok : Bool) (e : Ending) (w' : World) : Prop :=
  ∃ A c R C, e = .returned (.tuple #[.slice A LL.length c, .bool ok]) ∧ RowsL w' w.heap.size (.slice A LL.length c) LL R C ∧ Below w.heap.size w w'
/-- the same of the model's: that they can be read is enough -/
def ReadRowsOk (w : World) (LL : List (List Int)) (ok : Bool) (e : Ending) (w' : World) : Prop :=
  ∃ A c, e = .returned (.tuple #[.slice A LL.length c, .bool ok]) ∧ SRead w' w'.heap.size A LL ∧ Below w.heap.size w w'
theorem SRead.nil (w : World) (B : Nat) (A : Option Addr) : SRead w B A [] := fun i l h => by simp at h
end Go.Proofs.Ythddlpghjkiioaa
/-
  THE GROUPS OF A PARTY out of a first colouring of the other party. Nothing here speaks of the program.
-/
namespace Go.Proofs.Ythddlpghjkiioaa
open Go.RowKit

/-- the first a people that have a colour -/
def grpC (q : List Int) (a k : Nat) : List Int := ((List.range a).filter fun b => decide (q.getD b 0 = (k : Int))).map fun b : Nat => (b : Int)
def groupsC (q : List Int) : List (List Int) := (List.range (usedC q)).map (grpC q q.length)
theorem grpC_zero (q : List Int) (k : Nat) : grpC q 0 k = [] := rfl
theorem grpC_succ (q : List Int) (a k : Nat) : grpC q (a + 1) k = grpC q a k ++ (if q.getD a 0 = (k : Int) then [(a : Int)] else []) := by
  unfold grpC
  rw [List.range_succ, List.filter_append, List.map_append]
  congr 1
  by_cases h : q.getD a 0 = (k : Int)
  · rw [if_pos h, List.filter_cons_of_pos (by rw [h]; exact decide_eq_true rfl)]
    rfl
  · rw [if_neg h, List.filter_cons_of_neg (by simpa only [decide_eq_true_eq] using h)]
    rfl
theorem grpC_len (q : List Int) (a k : Nat) : (grpC q a k).length ≤ a := by
  unfold grpC
  rw [List.length_map]
  exact Nat.le_trans (List.length_filter_le _ _) (by simp)
/-- each colour comes after the lesser ones -/
def GoodC (q : List Int) : Prop := ∀ a, a < q.length → 0 ≤ q.getD a 0 ∧ (q.getD a 0).toNat ≤ usedC (q.take a)
theorem goodC_nil : GoodC [] := fun a h => by simp at h
theorem goodC_snoc {q : List Int} {c : Nat} (h : GoodC q) (hc : c ≤ usedC q) : GoodC (q ++ [(c : Int)]) := by
  intro a ha
  rw [List.length_append, List.length_singleton] at ha
  by_cases he : a < q.length
  · have h1 := h a he
    rw [List.take_append_of_le_length (by omega)]
    rw [List.getD_eq_getElem?_getD, List.getElem?_append_left he, ← List.getD_eq_getElem?_getD]
    exact h1
  · have he : a = q.length := by omega
    subst he
    rw [List.take_left' rfl, List.getD_eq_getElem?_getD, List.getElem?_concat_length]
    simp only [Option.getD_some]
    exact ⟨by omega, by simpa using hc⟩
theorem growC_good {t : Nat → Nat → Bool} {most : Nat} : ∀ (k : Nat) (q r : List Int), r ∈ growC t most k q → GoodC q → GoodC r := by
  intro k
  induction k with
  | zero =>
    intro q r h hq
    have : r = q := by simpa [growC] using h
    rw [this]; exact hq
  | succ k ih =>
    intro q r h hq
    unfold growC at h
    rw [List.mem_flatMap] at h
    obtain ⟨c, hcr, hc⟩ := h
    have hcm := List.mem_range.1 hcr
    split at hc
    · cases hc
    · exact ih _ _ hc (goodC_snoc hq (by omega))
theorem take_succ {q : List Int} {a : Nat} (h : a < q.length) : q.take (a + 1) = q.take a ++ [q.getD a 0] := by
  rw [List.take_add_one, List.getD_eq_getElem?_getD, List.getElem?_eq_getElem h]
  rfl
theorem goodC_all {q : List Int} (h : GoodC q) : ∀ a, a ≤ q.length → ∀ k, k < usedC (q.take a) → (k : Int) ∈ q.take a := by
  intro a
  induction a with
  | zero => intro _ k hk; simp [usedC_nil] at hk
  | succ a ih =>
    intro ha k hk
    have h1 := h a (by omega)
    rw [take_succ (by omega)] at hk ⊢
    rw [usedC_snoc] at hk
    rw [List.mem_append]
    by_cases hl : k < usedC (q.take a)
    · exact .inl (ih (by omega) k hl)
    · refine .inr (List.mem_singleton.2 ?_)
      omega
/-- a colour has come iff it is less than the number of those that have come -/
theorem goodC_has {q : List Int} (h : GoodC q) {a : Nat} (ha : a < q.length) : q.getD a 0 ∈ q.take a ↔ (q.getD a 0).toNat < usedC (q.take a) := by
  have h1 := h a ha
  constructor
  · exact usedC_lt
  · intro hk
    have h2 := goodC_all h a (by omega) _ hk
    rwa [Int.toNat_of_nonneg h1.1] at h2
theorem goodC_old {q : List Int} {a : Nat} (ha : a < q.length) (h1 : (q.getD a 0).toNat < usedC (q.take a)) : usedC (q.take (a + 1)) = usedC (q.take a) := by
  rw [take_succ ha, usedC_snoc]
  omega
theorem goodC_new {q : List Int} (h : GoodC q) {a : Nat} (ha : a < q.length) (h1 : ¬ (q.getD a 0).toNat < usedC (q.take a)) : usedC (q.take (a + 1)) = usedC (q.take a) + 1 ∧ q.getD a 0 = ((usedC (q.take a) : Nat) : Int) := by
  have h2 := h a ha
  rw [take_succ ha, usedC_snoc]
  constructor <;> omega
theorem goodC_lt {q : List Int} (h : GoodC q) {a : Nat} (ha : a < q.length) : 0 ≤ q.getD a 0 ∧ (q.getD a 0).toNat < usedC q := by
  refine ⟨(h a ha).1, usedC_lt ?_⟩
  rw [List.getD_eq_getElem?_getD, List.getElem?_eq_getElem ha]
  exact List.getElem_mem ha
theorem least_grow (t : Nat → Nat → Bool) (n : Nat) : ∀ N, growC t N n [] ≠ [] → ∃ m, growC t m n [] ≠ [] ∧ ∀ m', m' < m → growC t m' n [] = [] := by
  intro N
  induction N using Nat.strongRecOn with
  | ind N ih =>
    intro h
    by_cases h2 : ∀ m', m' < N → growC t m' n [] = []
    · exact ⟨N, h, h2⟩
    · have h3 : ∃ m', m' < N ∧ growC t m' n [] ≠ [] := by
        refine Classical.byContradiction fun hn => h2 fun m' hm => ?_
        refine Classical.byContradiction fun he => hn ⟨m', hm, he⟩
      obtain ⟨m', hm, he⟩ := h3
      exact ih m' hm he
/-- the first colouring with the fewest colours is a good one, and these are so many -/
theorem fewest_good (t : Nat → Nat → Bool) (n : Nat) : GoodC (fewestC t n).1 ∧ (fewestC t n).2 = usedC (fewestC t n).1 := by
  obtain ⟨m, h1, h2⟩ := least_grow t n n (grow_some t n)
  cases hr : growC t m n [] with
  | nil => exact absurd hr h1
  | cons r rest =>
    have h3 := (fewest_grow h2 hr).1
    rw [h3]
    exact ⟨growC_good n [] r (by rw [hr]; exact List.mem_cons_self) goodC_nil, rfl⟩
theorem groupsC_len (q : List Int) : (groupsC q).length = usedC q := by simp [groupsC]
/-- the rows ahead of person a -/
def rowsC (q : List Int) (m a : Nat) : List (List Int) := (List.range m).map (grpC q a)
theorem rowsC_len (q : List Int) (m a : Nat) : (rowsC q m a).length = m := by simp [rowsC]
theorem rowsC_at (q : List Int) {m k : Nat} (a : Nat) (hk : k < m) : (rowsC q m a).getD k [] = grpC q a k := by
  unfold rowsC
  rw [List.getD_eq_getElem?_getD, List.getElem?_map, List.getElem?_range hk]
  rfl
theorem rowsC_next {q : List Int} {m a k : Nat} (hk : k < m) (hq : q.getD a 0 = (k : Int)) : rowsC q m (a + 1) = (rowsC q m a).set k ((rowsC q m a).getD k [] ++ [(a : Int)]) := by
  rw [rowsC_at q a hk]
  apply List.ext_getElem?
  intro i
  by_cases hi : i = k
  · subst hi
    rw [List.getElem?_set_self (by rw [rowsC_len]; exact hk)]
    unfold rowsC
    rw [List.getElem?_map, List.getElem?_range hk, Option.map_some, grpC_succ, if_pos hq]
  · rw [List.getElem?_set_ne (Ne.symm hi)]
    unfold rowsC
    rw [List.getElem?_map, List.getElem?_map]
    by_cases hm : i < m
    · rw [List.getElem?_range hm, Option.map_some, Option.map_some, grpC_succ, if_neg (by rw [hq]; omega), List.append_nil]
    · rw [List.getElem?_eq_none (by simp; omega)]
      rfl
def resGroupsOfParty (p : Int) (l : PL) : List (List Int) × Bool := if isFew p l then (groupsC (fewestC (adj (otherP p.toNat l)) p.toNat).1, true) else ([], false)
theorem usedC_le {q : List Int} (h : GoodC q) : ∀ a, a ≤ q.length → usedC (q.take a) ≤ a := by
  intro a
  induction a with
  | zero => intro _; simp [usedC_nil]
  | succ a ih =>
    intro ha
    have h1 := h a (by omega)
    have h2 := ih (by omega)
    rw [take_succ (by omega), usedC_snoc]
    omega
theorem resGroupsOfParty_len (p : Int) (l : PL) : (resGroupsOfParty p l).1.length ≤ 1048576 ∧ sumL (resGroupsOfParty p l).1 ≤ 1048576 := by
  unfold resGroupsOfParty
  cases hf : isFew p l with
  | false => simp [sumL]
  | true =>
    have h8 : p ≤ 8 := by unfold isFew at hf; simp at hf; exact hf.2
    simp only [if_true]
    have hq := (fewest_good (adj (otherP p.toNat l)) p.toNat).1
    have hl := fewestC_length (adj (otherP p.toNat l)) p.toNat
    generalize (fewestC (adj (otherP p.toNat l)) p.toNat).1 = q at hq hl ⊢
    have hu := usedC_le hq q.length (Nat.le_refl _)
    rw [List.take_length] at hu
    have hg := groupsC_len q
    have hs := sumL_le (LL := groupsC q) (m := 8) (fun r hr => by
      unfold groupsC at hr
      rw [List.mem_map] at hr
      obtain ⟨k, _, rfl⟩ := hr
      have := grpC_len q q.length k
      omega)
    have h9 : (groupsC q).length ≤ 8 := by omega
    have h10 : (groupsC q).length * 8 ≤ 8 * 8 := Nat.mul_le_mul_right 8 h9
    constructor
    · omega
    · omega
end Go.Proofs.Ythddlpghjkiioaa
/-
  HOW MANY COLOURINGS A PARTY HAS: counted by the sets of those alike, and by the lists in which each colour comes after the lesser ones. Nothing here speaks of the program.
-/
namespace Go.Proofs.Ythddlpghjkiioaa
open Go.RowKit

def sumN (f : Nat → Nat) : Nat → Nat
  | 0 => 0
  | m + 1 => sumN f m + f m
theorem sumN_le {f : Nat → Nat} {b : Nat} : ∀ {m : Nat}, (∀ c, c < m → f c ≤ b) → sumN f m ≤ m * b := by
  intro m
  induction m with
  | zero => intro _; simp [sumN]
  | succ m ih =>
    intro h
    have h1 := ih fun c hc => h c (by omega)
    have h2 := h m (by omega)
    have e : (m + 1) * b = m * b + b := Nat.succ_mul m b
    show sumN f m + f m ≤ _
    omega
/-- in how many ways k more people are coloured, a new colour having as many choices as colours are left -/
def wayC (t : Nat → Nat → Bool) (cols : Nat) : Nat → List Int → Nat
  | 0, _ => 1
  | k + 1, q => sumN (fun c : Nat => if hasTo t (ofTold q) q.length q.length (c : Int) then 0 else wayC t cols k (q ++ [(c : Int)])) (usedC q) + (if usedC q < cols then (cols - usedC q) * wayC t cols k (q ++ [((usedC q : Nat) : Int)]) else 0)
theorem used_old {q : List Int} {c : Nat} (h : c < usedC q) : usedC (q ++ [(c : Int)]) = usedC q := by
  rw [usedC_snoc, Int.toNat_natCast]
  omega
theorem used_new (q : List Int) : usedC (q ++ [((usedC q : Nat) : Int)]) = usedC q + 1 := by
  rw [usedC_snoc, Int.toNat_natCast]
  omega
theorem wayC_le (t : Nat → Nat → Bool) (cols : Nat) : ∀ (k : Nat) (q : List Int), usedC q ≤ cols → wayC t cols k q ≤ cols ^ k := by
  intro k
  induction k with
  | zero => intro q _; simp [wayC]
  | succ k ih =>
    intro q hq
    have e : cols ^ (k + 1) = cols * cols ^ k := by rw [Nat.pow_succ, Nat.mul_comm]
    have h1 : sumN (fun c : Nat => if hasTo t (ofTold q) q.length q.length (c : Int) then 0 else wayC t cols k (q ++ [(c : Int)])) (usedC q) ≤ usedC q * cols ^ k := sumN_le fun c hc => by
      show (if _ then 0 else _) ≤ _
      split
      · exact Nat.zero_le _
      · exact ih _ (by rw [used_old hc]; exact hq)
    unfold wayC
    rw [e]
    split
    · rename_i hlt
      have h2 := ih (q ++ [((usedC q : Nat) : Int)]) (by rw [used_new]; omega)
      have h3 : (cols - usedC q) * wayC t cols k (q ++ [((usedC q : Nat) : Int)]) ≤ (cols - usedC q) * cols ^ k := Nat.mul_le_mul_left _ h2
      have h4 : cols * cols ^ k = usedC q * cols ^ k + (cols - usedC q) * cols ^ k := by rw [← Nat.add_mul]; congr 1; omega
      omega
    · have h5 : usedC q * cols ^ k ≤ cols * cols ^ k := Nat.mul_le_mul_right _ hq
      omega
def tellAll (n : Int) : List (List Int) → Int
  | [] => 0
  | r :: L => tellI n (usedC r) + tellAll n L
theorem tellAll_append (n : Int) (L M : List (List Int)) : tellAll n (L ++ M) = tellAll n L + tellAll n M := by
  induction L with
  | nil => simp [tellAll]
  | cons r L ih => simp only [List.cons_append, tellAll, ih]; omega
theorem tellAll_range {n x : Int} {G : Nat → List (List Int)} {f : Nat → Nat} : ∀ {m : Nat}, (∀ c, c < m → tellAll n (G c) = x * (f c : Int)) → tellAll n ((List.range m).flatMap G) = x * ((sumN f m : Nat) : Int) := by
  intro m
  induction m with
  | zero => intro _; simp [tellAll, sumN]
  | succ m ih =>
    intro h
    rw [List.range_succ, List.flatMap_append, tellAll_append, ih fun c hc => h c (by omega), List.flatMap_cons, List.flatMap_nil, List.append_nil, h m (by omega)]
    show _ = x * ((sumN f m + f m : Nat) : Int)
    rw [← Int.mul_add]
    push_cast
    rfl
/-- both counts are one -/
theorem tell_ways (t : Nat → Nat → Bool) (cols : Nat) : ∀ (k : Nat) (q : List Int), (∀ x ∈ q, 0 ≤ x) → usedC q ≤ cols → tellAll cols (growC t cols k q) = tellI cols (usedC q) * ((wayC t cols k q : Nat) : Int) := by
  intro k
  induction k with
  | zero => intro q _ _; simp [growC, wayC, tellAll]
  | succ k ih =>
    intro q hq hu
    have hnn : ∀ (c : Nat), ∀ x ∈ q ++ [(c : Int)], 0 ≤ x := fun c x hx => by
      rcases List.mem_append.1 hx with h | h
      · exact hq x h
      · have := List.mem_singleton.1 h; omega
    have hold : ∀ c, c < usedC q → tellAll cols (if hasTo t (ofTold q) q.length q.length (c : Int) then [] else growC t cols k (q ++ [(c : Int)])) = tellI cols (usedC q) * (((if hasTo t (ofTold q) q.length q.length (c : Int) then 0 else wayC t cols k (q ++ [(c : Int)]) : Nat)) : Int) := fun c hc => by
      split
      · simp [tellAll]
      · rw [ih _ (hnn c) (by rw [used_old hc]; exact hu), used_old hc]
    unfold growC wayC
    by_cases hlt : usedC q < cols
    · rw [if_pos hlt, show min (usedC q + 1) cols = usedC q + 1 by omega, List.range_succ, List.flatMap_append, tellAll_append, tellAll_range hold, List.flatMap_cons, List.flatMap_nil, List.append_nil,
        if_neg (by rw [free_new (fun h => nat_not hq (Nat.le_refl (usedC q)) _ h rfl)]; simp), ih _ (hnn _) (by rw [used_new]; omega), used_new]
      show _ + tellI cols (usedC q) * ((cols : Int) - (usedC q : Nat)) * _ = _
      rw [Int.mul_assoc, ← Int.mul_add]
      congr 1
      push_cast
      rw [Int.ofNat_sub (by omega)]
    · rw [if_neg hlt, show min (usedC q + 1) cols = usedC q by omega, tellAll_range hold, Nat.add_zero]
/-- rows of the people coloured till now -/
theorem grpC_told (q : List Int) (c : Int) (k : Nat) : grpC (q ++ [c]) q.length k = grpC q q.length k := by
  unfold grpC
  congr 1
  refine List.filter_congr fun b hb => ?_
  have hb := List.mem_range.1 hb
  rw [List.getD_eq_getElem?_getD, List.getD_eq_getElem?_getD, List.getElem?_append_left hb]
theorem rowsC_told (q : List Int) (c : Int) (m : Nat) : rowsC (q ++ [c]) m q.length = rowsC q m q.length := by
  unfold rowsC
  exact List.map_congr_left fun k _ => grpC_told q c k
theorem getD_last (q : List Int) (c : Int) : (q ++ [c]).getD q.length 0 = c := by
  rw [List.getD_eq_getElem?_getD, List.getElem?_concat_length]
  rfl
theorem rowsC_old {q : List Int} {m k : Nat} (hk : k < m) : rowsC (q ++ [(k : Int)]) m (q ++ [(k : Int)]).length = (rowsC q m q.length).set k (grpC q q.length k ++ [(q.length : Int)]) := by
  rw [List.length_append, List.length_singleton, rowsC_next hk (getD_last q _), rowsC_told, rowsC_at q q.length hk]
theorem grpC_none {q : List Int} (hu : ∀ b, b < q.length → (q.getD b 0).toNat < usedC q ∧ 0 ≤ q.getD b 0) : grpC q q.length (usedC q) = [] := by
  unfold grpC
  rw [List.map_eq_nil_iff, List.filter_eq_nil_iff]
  intro b hb
  have := hu b (List.mem_range.1 hb)
  simp only [decide_eq_true_eq]
  omega
theorem rowsC_new {q : List Int} (hg : GoodC q) : rowsC (q ++ [((usedC q : Nat) : Int)]) (usedC q + 1) (q ++ [((usedC q : Nat) : Int)]).length = rowsC q (usedC q) q.length ++ [[(q.length : Int)]] := by
  rw [List.length_append, List.length_singleton]
  unfold rowsC
  rw [List.range_succ, List.map_append]
  congr 1
  · refine List.map_congr_left fun k hk => ?_
    have hk := List.mem_range.1 hk
    rw [grpC_succ, getD_last, grpC_told, if_neg (by omega), List.append_nil]
  · show [grpC _ _ _] = _
    rw [grpC_succ, getD_last, if_pos rfl, grpC_told, grpC_none fun b hb => ⟨(goodC_lt hg hb).2, (goodC_lt hg hb).1⟩]
    rfl
theorem grpC_pos {q : List Int} (hg : GoodC q) {k : Nat} (hk : k < usedC q) : 0 < (grpC q q.length k).length := by
  have h := goodC_all hg q.length (Nat.le_refl _) k (by rw [List.take_length]; exact hk)
  rw [List.take_length] at h
  obtain ⟨b, hb, he⟩ := List.getElem_of_mem h
  refine List.length_pos_iff.2 fun e => ?_
  have hm : (b : Int) ∈ grpC q q.length k := by
    unfold grpC
    refine List.mem_map.2 ⟨b, List.mem_filter.2 ⟨List.mem_range.2 hb, ?_⟩, rfl⟩
    rw [List.getD_eq_getElem?_getD, List.getElem?_eq_getElem hb, Option.getD_some, he]
    exact decide_eq_true rfl
  rw [e] at hm
  cases hm
theorem grpC_mem {q : List Int} {a k : Nat} {y : Int} (h : y ∈ grpC q a k) : 0 ≤ y ∧ y.toNat < a ∧ y = (y.toNat : Int) := by
  unfold grpC at h
  obtain ⟨b, hb, rfl⟩ := List.mem_map.1 h
  have := List.mem_range.1 (List.mem_filter.1 hb).1
  refine ⟨by omega, by omega, by omega⟩
/-- the first j of a list are not tied to a person -/
def apartJ (t : Nat → Nat → Bool) (l : List Int) (a j : Nat) : Bool := (l.take j).all fun y => !t a y.toNat
theorem apartJ_zero (t : Nat → Nat → Bool) (l : List Int) (a : Nat) : apartJ t l a 0 = true := rfl
theorem apartJ_succ {t : Nat → Nat → Bool} {l : List Int} {a j : Nat} {y : Int} (h : l[j]? = some y) : apartJ t l a (j + 1) = (apartJ t l a j && !t a y.toNat) := by
  unfold apartJ
  rw [List.take_add_one, h, List.all_append]
  simp
theorem apartJ_all (t : Nat → Nat → Bool) (q : List Int) (k : Nat) : apartJ t (grpC q q.length k) q.length (grpC q q.length k).length = !hasTo t (ofTold q) q.length q.length (k : Int) := by
  unfold apartJ
  rw [List.take_length]
  unfold grpC hasTo
  rw [List.all_map]
  cases h : (List.range q.length).any (fun b => t q.length b && decide (ofTold q b = (k : Int))) with
  | true =>
    rw [List.any_eq_true] at h
    obtain ⟨b, hb, hx⟩ := h
    rw [Bool.and_eq_true, decide_eq_true_eq] at hx
    rw [Bool.not_true, Bool.eq_false_iff, ne_eq, List.all_eq_true]
    intro hall
    have := hall b (List.mem_filter.2 ⟨hb, decide_eq_true hx.2⟩)
    simp [hx.1] at this
  | false =>
    rw [Bool.not_false, List.all_eq_true]
    intro b hb
    obtain ⟨hb, hk⟩ := List.mem_filter.1 hb
    rw [List.any_eq_false] at h
    have := h b hb
    have hk : ofTold q b = (k : Int) := of_decide_eq_true hk
    simp only [hk, decide_true, Bool.and_true, Bool.not_eq_true] at this
    simp [this]
theorem growC_count (t : Nat → Nat → Bool) {most : Nat} (hm : most ≤ 12) : ∀ (k : Nat) (q : List Int), (growC t most k q).length ≤ 12 ^ k := by
  intro k
  induction k with
  | zero => intro q; simp [growC]
  | succ k ih =>
    intro q
    have key : ∀ m, ((List.range m).flatMap fun c : Nat => if hasTo t (ofTold q) q.length q.length (c : Int) then [] else growC t most k (q ++ [(c : Int)])).length ≤ m * 12 ^ k := by
      intro m
      induction m with
      | zero => simp
      | succ m ihm =>
        rw [List.range_succ, List.flatMap_append, List.length_append, List.flatMap_cons, List.flatMap_nil, List.append_nil, Nat.succ_mul]
        refine Nat.add_le_add ihm ?_
        split
        · simp
        · exact ih _
    unfold growC
    refine Nat.le_trans (key _) ?_
    rw [Nat.pow_succ, Nat.mul_comm]
    exact Nat.mul_le_mul_left _ (by omega)
end Go.Proofs.Ythddlpghjkiioaa
/-
  THE SIZE OF A LIST OF NUMBERS, by the contract of the laws' helper.
-/
namespace Go.Proofs.Ythddlpghjkiioaa
open Go.RowKit

end Go.Proofs.Ythddlpghjkiioaa
/-
  THE LAWS' COPY OF A LIST OF NUMBERS, by its contract.
-/
namespace Go.Proofs.Ythddlpghjkiioaa
open Go.RowKit

set_option maxHeartbeats 1000000 in
set_option maxRecDepth 100000 in
theorem toIntS_any (l : List Int) (A : Option Addr) (c : Nat) (w : World) (hl : l.length ≤ 1048576) (hA : CRead w w.heap.size A (icells l)) :
    Calls Try.prog 12 #[.slice A l.length c] w fun e w' =>
      e = .returned (.slice (some ⟨w.heap.size, 0, none⟩) l.length l.length) ∧ w'.ownsRow w.heap.size 3 1 (.slice (some ⟨w.heap.size, 0, none⟩) l.length l.length) l.length (icells l) ∧ Below w.heap.size w w' := by
  obtain ⟨i0, hi, hz0, hz1, hz2⟩ := info_parts Try.infoInt
  generalize hn : l.length = n at *
  have Hn := Lib.hid hn
  clear hn
  generalize hg : w.heap.size = g at *
  have Hg := Lib.hid hg
  clear hg
  go_enter Try.func12, Try.ntmps12
  go_wp2_with (at_make; refine wpList_make_full _ rfl _ _ 22 rfl g 3 i0 _ 1 Try.underlying22 hi hz0 hz1 _ _ _ _ n rfl rfl (by omega) (by omega) (by rw [hz2]; omega) (by unfold maxLen; omega) (by rw [Hg.out]; exact Nat.le_refl _) ?_; rw [Hg.out]; intro w1 hown1 hgr1)
  have hs1 : g < w1.heap.size := (own_lt hown1).2
  have hb1 : Below g w w1 := (Below.refl _ _).grown hgr1 (by rw [Hg.out]; exact Nat.le_refl _) (by simp)
  rw [show Value.cells (.int .i64 0) = #[.int .i64 0] from rfl, made_ints] at hown1
  go_loopw [4] (fun i wr => ∃ k : Nat, k ≤ n ∧ i = .int .i64 k ∧ wr.ownsRow g 3 1 (.slice (some ⟨g, 0, none⟩) n n) n (icells (l.take k ++ List.replicate (n - k) 0)) ∧ Below g w wr) (fun i _ => n - (intOf i).toNat)
  case atStart => exact ⟨0, Nat.zero_le _, rfl, by simpa using hown1, hb1⟩
  case round =>
    obtain ⟨k, hk, rfl, hown, hb⟩ := hrel
    have hs := own_lt hown
    by_cases hlt : k < n
    · obtain ⟨x, hx⟩ := getSome l k (by rw [Hn.out]; exact hlt)
      obtain ⟨b, off, rfl, hbb, c0⟩ := (hA.below hb (Nat.le_refl _)).int hx
      have hlt' : (k : Int) < n := by omega
      have f0 := hown.frozenAt k
      have hz : (l.take k ++ List.replicate (n - k) 0)[k]? = some 0 := by
        rw [List.getElem?_append_right (by simp; omega)]
        have h1 : min k l.length = k := Nat.min_eq_left (by rw [Hn.out]; exact hk)
        simp only [List.length_take, h1, Nat.sub_self]
        rw [List.getElem?_replicate, if_pos (by omega)]
      have d0 := own_intAt hown hz
      clear hz
      have Hx := Lib.hid hx
      clear hx
      go_wp2
      go_roundw
      case rel =>
        refine ⟨k + 1, by omega, by go_num, ?_, hb.setCell (p := ⟨g, k, none⟩) (Nat.le_refl _) _⟩
        have h2 := own_setInt hown k x
        rwa [take_set_replicate l 0 n k x Hn.out Hx.out] at h2
      case measure => simp [intOf]; omega
    · have hkl : k = n := by omega
      subst hkl
      have hge : ¬ ((k : Int) < k) := by omega
      go_wp2
      go_ret
      refine ⟨rfl, ?_, hb⟩
      rwa [Nat.sub_self, List.replicate_zero, List.append_nil, List.take_of_length_le (by rw [Hn.out]; exact Nat.le_refl _)] at hown
theorem toIntS_got (l : List Int) (A : Option Addr) (c : Nat) (w : World) (hl : l.length ≤ 1048576) (hA : CRead w w.heap.size A (icells l)) :
    Calls Try.prog 12 #[.slice A l.length c] w fun e w' => ∃ A' c', e = .returned (.slice A' l.length c') ∧ w'.ownsRow w.heap.size 3 1 (.slice A' l.length c') l.length (icells l) ∧ Below w.heap.size w w' :=
  (toIntS_any l A c w hl hA).mono fun _ _ h => ⟨_, _, h⟩
end Go.Proofs.Ythddlpghjkiioaa
/-
  LISTS OF LISTS OF NUMBERS AS ARGUMENTS: their size, a copy of one's own (its rows in blocks apart), by contracts of the laws' helpers.
-/
namespace Go.Proofs.Ythddlpghjkiioaa
open Go.RowKit

def foldSz (l : Int) : List Nat → Int
  | [] => l
  | n :: ns => if szI l n < 0 then -1 else foldSz (szI l n) ns
def szLL (left : Int) (ns : List Nat) : Int := if szI left ns.length < 0 then -1 else foldSz (szI left ns.length) ns
theorem foldSz_ok {ns : List Nat} : ∀ {l : Int}, 0 ≤ l → ¬ foldSz l ns < 0 → (ns.sum : Int) ≤ l := by
  induction ns with
  | nil => intro l h _; simpa using h
  | cons n ns ih =>
    intro l h h2
    unfold foldSz at h2
    split at h2
    · exact absurd (by omega) h2
    · rename_i h3
      have h4 := ih (by omega) h2
      have h5 := szI_len l n h3
      have h6 : szI l n = l - n := by unfold szI; rw [if_neg (by omega)]
      simp only [List.sum_cons]
      omega
theorem szLL_ok {ns : List Nat} (h : ¬ szLL 1048576 ns < 0) : ns.length ≤ 1048576 ∧ ns.sum ≤ 1048576 := by
  unfold szLL at h
  split at h
  · exact absurd (by omega) h
  · rename_i h3
    have h5 := szI_len 1048576 ns.length h3
    have h6 := foldSz_ok (by omega) h
    have h7 := szI_hi 1048576 ns.length (by omega)
    omega
theorem foldSz_hi {ns : List Nat} : ∀ {l : Int}, 0 ≤ l → foldSz l ns ≤ l ∧ -1 ≤ foldSz l ns := by
  induction ns with
  | nil => intro l h; unfold foldSz; omega
  | cons n ns ih =>
    intro l h
    unfold foldSz
    split
    · omega
    · rename_i h3
      have := ih (l := szI l n) (by omega)
      have := szI_hi l n h
      omega
/-! ## A row put under a header that was nil -/
section
variable {w : World} {B n : Nat} {R : Nat → Option Addr} {C N : Nat → Nat} {F : Nat → List Int}
theorem RowsG.put {g c : Nat} (h : RowsG w B (.slice (some ⟨g, 0, none⟩) n c) n R C N F) {k : Nat} (hk : k < n) {l : List Int} {A : Option Addr} {d : Nat}
    (hr : w.ownsRow B 3 1 (.slice A l.length d) l.length (icells l))
    (hap : ∀ i, i < n → i ≠ k → (Value.slice (R i) (N i) (C i)).ownBlock = none ∨ (Value.slice (R i) (N i) (C i)).ownBlock ≠ (Value.slice A l.length d).ownBlock) :
    RowsG (w.setCell ⟨g, k, none⟩ (.slice A l.length d)) B (.slice (some ⟨g, 0, none⟩) n c) n (upN R k A) (upN C k d) (upN N k l.length) (upN F k l) := by
  have hst := h.own.stored k (.slice A l.length d)
  have hob : (Value.slice (some ⟨g, 0, none⟩) n c).ownBlock = some g := by simp [Value.ownBlock]
  refine ⟨?_, fun i hi => ?_, fun i j hi hj hij => ?_⟩
  · have h1 := hst.1
    rw [map_range_set] at h1
    rw [List.map_congr_left (g := upN (fun i => Value.slice (R i) (N i) (C i)) k (.slice A l.length d)) fun i _ => by
      by_cases e : i = k
      · subst e; simp only [upN_self]
      · simp only [upN_ne _ _ e]]
    exact h1
  · by_cases e : i = k
    · subst e
      simp only [upN_self]
      refine ⟨trivial, World.ownsRow.kept hr hst.2 ?_⟩
      rw [← hob]
      exact own_apart hr h.own (by decide)
    · simp only [upN_ne _ _ e]
      refine ⟨(h.row i hi).1, (h.row i hi).2.kept hst.2 ?_⟩
      rw [← hob]
      exact own_apart (h.row i hi).2 h.own (by decide)
  · by_cases e : i = k
    · subst e
      simp only [upN_self, upN_ne _ _ (fun h => hij h.symm)]
      rcases hap j hj (fun h => hij h.symm) with h2 | h2
      · cases hq : (Value.slice A l.length d).ownBlock with
        | none => exact .inl rfl
        | some m => right; rw [h2]; intro e3; cases e3
      · cases hq : (Value.slice A l.length d).ownBlock with
        | none => exact .inl rfl
        | some m => right; intro e3; exact h2 (e3.symm.trans hq.symm)
    · by_cases e2 : j = k
      · subst e2
        simp only [upN_self, upN_ne _ _ e]
        exact hap i hi e
      · simp only [upN_ne _ _ e, upN_ne _ _ e2]
        exact h.apart i j hi hj hij
theorem RowsG.congrN {N' : Nat → Nat} {v : Value} (h : RowsG w B v n R C N F) (e : ∀ i, i < n → N i = N' i) : RowsG w B v n R C N' F := by
  refine ⟨?_, fun i hi => by rw [← e i hi]; exact h.row i hi, fun i j hi hj hij => by rw [← e i hi, ← e j hj]; exact h.apart i j hi hj hij⟩
  rw [List.map_congr_left (g := fun i => Value.slice (R i) (N i) (C i)) fun i hi => by rw [e i (List.mem_range.1 hi)]]
  exact h.own
/-- a row made behind a world is apart from its rows -/
theorem RowsG.fresh {v : Value} (h : RowsG w B v n R C N F) {x : Value} {lo hi : Nat} (hx : Lies x lo hi) (hlo : w.heap.size ≤ lo) : ∀ i, i < n → (Value.slice (R i) (N i) (C i)).ownBlock = none ∨ (Value.slice (R i) (N i) (C i)).ownBlock ≠ x.ownBlock := by
  intro i hi
  cases e1 : (Value.slice (R i) (N i) (C i)).ownBlock with
  | none => exact .inl rfl
  | some k =>
    right
    intro e2
    have h1 := ((h.row i hi).2.lt k e1).2
    have h2 := (hx k e2.symm).1
    omega
theorem RowsG.headAt {g c : Nat} (h : RowsG w B (.slice (some ⟨g, 0, none⟩) n c) n R C N F) {k : Nat} (hk : k < n) : w.cell? ⟨g, k, none⟩ = some (.slice (R k) (N k) (C k)) := by
  rw [h.own.cellAt k (by omega)]
  simp [hk]
end
theorem Try.infoRowI : (Try.prog.info? 22).map (fun i => (i.zero, i.size, i.bytes)) = some (some (.slice none 0 0), 1, 24) := by kernel_rfl
theorem made_rows (n : Nat) : (madeCells #[.slice none 0 0] (n * 1)).toList = (List.range n).map fun _ => Value.slice none 0 0 := by
  rw [Nat.mul_one, toList_madeCells_one]
  apply List.ext_getElem (by simp)
  intro j h1 h2
  simp
/-- the first k rows are those of the list, the others nil -/
def upTo2 (LL : List (List Int)) (k : Nat) : Nat → List Int := fun i => if i < k then LL.getD i [] else []
end Go.Proofs.Ythddlpghjkiioaa
