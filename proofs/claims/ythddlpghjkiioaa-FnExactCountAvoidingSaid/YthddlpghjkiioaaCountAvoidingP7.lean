/-
  Texts put together for the claims of 'CountAvoiding' (pack 7): AvK, IterG, Marks, CountT, AvW, LawCountAvoiding, Head, Facts.
-/
import Derived.Test.YthddlpghjkiioaaCountAvoidingP1
import Derived.Test.YthddlpghjkiioaaCountAvoidingP3
import Derived.Test.YthddlpghjkiioaaCountAvoidingP4
import Derived.Test.YthddlpghjkiioaaCountAvoidingP6
import Derived.Laws.EntriesVeiled
import Derived.Deep.RegionHeld3
import Derived.Test.YthddlpghjkiioaaRows
/-
  PAINTINGS WITHOUT A TRIPLE OF ONE COLOUR: the program's iterator ('allAvoiding'): its contract, in the form that the law of the statement takes.
-/
namespace Go.Proofs.Ythddlpghjkiioaa
open Go.RowKit Go.Shelf

/-- what a round is handed: the table of a list of colours -/
def RdA (n : Nat) (_ : Nat → Prop) (told : List Int) (args : Array Value) (_ : World) : Prop := args = #[.agg (shC (shK n told told.length))] ∧ told.length = (allP n).length
theorem RdA.stays {n : Nat} {S : Nat → Prop} {told : List Int} {args : Array Value} {A C : World} (h : RdA n S told args A) (_ : Stays S A C) : RdA n S told args C := h
theorem RdA.one {n : Nat} {S : Nat → Prop} {told : List Int} {args : Array Value} {A : World} (h : RdA n S told args A) : args.size = 1 := by rw [h.1]; rfl

set_option maxHeartbeats 2000000 in
set_option maxRecDepth 100000 in
theorem av_seq {n k : Nat} (hn : n ≤ 8) (hk : k ≤ 3) {bn bc : Nat} {w0 : World} (hne0 : bn ≠ bc) (hn0 : w0.cell? ⟨bn, 0, none⟩ = some (.int .i64 n)) (hc0 : w0.cell? ⟨bc, 0, none⟩ = some (.int .i64 k)) :
    Seq Try.prog 88 #[.pointer (some ⟨bn, 0, none⟩), .pointer (some ⟨bc, 0, none⟩)] (fun j => j = bn ∨ j = bc) (RdA n) (avoidX n k (allP n).length []) w0 := by
  intro l J Jx W hW hh hY h0
  have lbn : bn < w0.heap.size := World.block_lt_of_cell? w0 _ hn0
  have lbc : bc < w0.heap.size := World.block_lt_of_cell? w0 _ hc0
  have hsz := hW.size
  show Calls Try.prog 88 #[.func (.yield l) #[] #[], .pointer (some ⟨bn, 0, none⟩), .pointer (some ⟨bc, 0, none⟩)] W _
  have qn := carry hW hn0 lbn
  have qc := carry hW hc0 lbc
  have qn1 : ∀ o, (W.alloc o).cell? ⟨bn, 0, none⟩ = some (.int .i64 n) := fun o => (World.cell?_alloc_lt _ _ _ (by show bn < W.heap.size; omega)).trans qn
  have ev := everyPair_any n (by omega) (W.alloc (Obj.cells #[.func (.yield l) #[] #[]] 115))
  have Ev := Lib.hid ev
  have HY := Lib.hid hY
  have HH := Lib.hid hh
  have H0 := Lib.hid h0
  clear hn0 hc0 ev hY hh h0
  go_enter Try.func88, Try.ntmps88
  go_wp2_with fail
  refine Ev.out.mono ?_
  rintro e w2 ⟨PA, pc, rfl, own2, hb2⟩
  rw [World.size_alloc] at own2 hb2
  have s2 : W.heap.size + 1 ≤ w2.heap.size := by have h := hb2.size; rwa [World.size_alloc] at h
  have kU : Below W.heap.size W w2 := Below.trans (b := _) (by go_grown) (hb2.mono (by omega))
  have yU : w2.heap[W.heap.size]? = some (Obj.cells #[.func (.yield l) #[] #[]] 115) := (hb2.block _ (by omega)).trans (World.alloc_heap_new W _)
  obtain ⟨N, hN⟩ : ∃ N, (allP n).length = N := ⟨_, rfl⟩
  obtain ⟨W2, hW2⟩ : ∃ W2, (w2.alloc (Obj.cells #[.slice PA N pc] 23)).alloc (Obj.cells #[avV w2.heap.size W.heap.size bc (w2.heap.size + 1)] 117) = W2 := ⟨_, rfl⟩
  have z2 : W2.heap.size = w2.heap.size + 2 := by rw [← hW2]; simp
  have b2 : Below w2.heap.size w2 W2 := by rw [← hW2]; go_grown
  have p2 : W2.cell? ⟨w2.heap.size, 0, none⟩ = some (.slice PA N pc) := by rw [← hW2]; exact (World.cell?_alloc_lt _ _ _ (by simp)).trans (by simp)
  have k2 : W2.cell? ⟨w2.heap.size + 1, 0, none⟩ = some (avV w2.heap.size W.heap.size bc (w2.heap.size + 1)) := by
    rw [← hW2]
    have := heap_alloc_new (w2.alloc (Obj.cells #[.slice PA N pc] 23)) (Obj.cells #[avV w2.heap.size W.heap.size bc (w2.heap.size + 1)] 117)
    rw [World.size_alloc] at this
    rw [cell_of_row _ _ _ _ _ _ this]
    rfl
  have kW2 : Below W.heap.size W W2 := kU.trans (b2.mono kU.size)
  have at2 : AvBox W2 l n k W.heap.size PA pc w2.heap.size W.heap.size bc (w2.heap.size + 1) := ⟨by rw [hN]; exact p2, cell_in ((b2.block _ (by omega)).trans yU), carry kW2 qc (by omega), k2, own_lower (own_below own2 b2 (Nat.le_refl _)) (by omega)⟩
  have hJ2 : J (fun j => W.heap.size ≤ j ∧ j < w2.heap.size + 2) [] W2 := HH.out _ _ _ _ _ H0.out (Apart.of_below kW2) (fun j hj => .inr (by omega))
  have call := av_look (Good := fun q => q <+: avoidX n k (allP n).length []) (J := fun S pre X => J (fun j => S j ∨ (W.heap.size ≤ j ∧ j < w2.heap.size + 2)) pre X) (Jx := fun S pre X => Jx (fun j => S j ∨ (W.heap.size ≤ j ∧ j < w2.heap.size + 2)) pre X)
    (R := fun j => (j = bn ∨ j = bc) ∨ (W.heap.size ≤ j ∧ j < w2.heap.size + 2)) (lo := W.heap.size) (B := w2.heap.size + 2) (l := l) (n := n) (k := k) (PA := PA) (pc := pc) (pb := w2.heap.size) (yb := W.heap.size) (cb := bc) (bl := w2.heap.size + 1)
    (fun j hj => by omega) (fun j h1 h2 => .inr ⟨h1, h2⟩)
    (fun S pre told W1 hj hlen hgd => by
      refine YieldAt.mono (HY.out _ pre told _ W1 hj ⟨rfl, hlen⟩ hgd) fun e W' h => ?_
      rcases h with ⟨he, hj', hst⟩ | h
      · exact .inl ⟨he, hj', hst.mono fun j hj => by rcases hj with h | h | h; exact .inl (.inl h); exact .inr h; exact .inl (.inr h)⟩
      · exact .inr h)
    (fun S S' pre A C hj hap hS => HH.out _ _ _ _ _ hj (hap.mono fun j h => .inl h) (fun j h => by
      rcases h with h | h
      · exact (hS j h).imp .inl id
      · exact .inl (.inr h)))
    (.inr (by omega)) (.inr (by omega)) (.inl (.inr rfl)) (.inr (by omega)) hn hk (fun j hj => by have := (own2.lt j hj).2; omega) (allP n).length [] (fun _ => False) [] W2
    (by simp) (fun q hq => hq) (by omega) at2 (HH.out _ _ _ _ _ hJ2 (Apart.refl _ _) (fun j hj => by rcases hj with h | h; exact h.elim; exact .inl h))
  rw [show shK n [] ([] : List Int).length = fun _ _ => 0 from rfl, shC_zero] at call
  have Call := Lib.hid call
  have HW2 := Lib.hid hW2
  clear call at2 hJ2 p2 k2 hb2 own2 yU kU kW2 b2 qn qn1 qc hW2
  rw [hN]
  go_wp2_with fail
  rw [HW2.out]
  refine Call.out.mono ?_
  rintro e W3 ⟨ok, rfl, hpost⟩
  go_wp2
  go_end0
  refine ⟨⟨_, rfl⟩, ?_⟩
  cases ok
  · obtain ⟨S', q, x, hq, hx⟩ := hpost
    exact .inr ⟨_, q, x, hq, hx⟩
  · obtain ⟨S', hj, _⟩ := hpost.ex
    exact .inl ⟨_, hj⟩
set_option maxHeartbeats 1000000 in
/-- A call of the iterator's maker, with all that its loop wants. -/
theorem allAvoiding_got {n k : Nat} (hn : n ≤ 8) (hk : k ≤ 3) (w : World) :
    Calls Try.prog 66 #[.int .i64 n, .int .i64 k] w fun e w1 =>
      ∃ lb, e = .returned (.func (.func 88) #[] lb) ∧ Below w.heap.size w w1 ∧ w1.heap.size = w.heap.size + 2 ∧ Seq Try.prog 88 lb (fun j => j = w.heap.size ∨ j = w.heap.size + 1) (RdA n) (avoidX n k (allP n).length []) w1 := by
  obtain ⟨X, hX⟩ : ∃ X, (w.alloc (.cells #[.int .i64 n] 3)).alloc (.cells #[.int .i64 k] 3) = X := ⟨_, rfl⟩
  have kX : Below w.heap.size w X := by rw [← hX]; go_grown
  have sX : X.heap.size = w.heap.size + 2 := by rw [← hX]; simp
  have h1 : X.heap[w.heap.size]? = some (.cells #[.int .i64 n] 3) := by
    rw [← hX]
    exact (Below.heap_alloc _ _ _ (by simp)).trans (heap_alloc_new w _)
  have h2 : X.heap[w.heap.size + 1]? = some (.cells #[.int .i64 k] 3) := by
    rw [← hX]
    have h := heap_alloc_new (w.alloc (.cells #[.int .i64 n] 3)) (.cells #[.int .i64 k] 3)
    rwa [World.size_alloc] at h
  have seq := av_seq hn hk (bn := w.heap.size) (bc := w.heap.size + 1) (w0 := X) (by omega) (cell_in h1) (cell_in h2)
  have HX := Lib.hid hX
  have Seq1 := Lib.hid seq
  have KX := Lib.hid kX
  clear hX seq kX h1 h2
  go_enter Try.func66, Try.ntmps66
  go_wp2
  go_ret
  exact ⟨_, rfl, by first | (rw [HX.out]; exact ⟨KX.out, sX, Seq1.out⟩) | exact ⟨KX.out, sX, Seq1.out⟩⟩
end Go.Proofs.Ythddlpghjkiioaa
/-
  A RANGE OVER AN ITERATOR, its body told besides that the loop's own two blocks lie below what it makes; the loop's variable assigned. Nothing here speaks of the program.
-/
namespace Go.Proofs.Ythddlpghjkiioaa
open Go.RowKit

variable {P : Program}
theorem wpIn_rangeFunc_iterG {α : Type} {n : Nat} {g : Operand} {ps : Array Tmp} {assign body : Code} {Q : Exit → Act → World → Prop} {a : Act} {w : World}
    {gf : Nat} {lb : Array Value} (hg : a.eval g = .func (.func gf) #[] lb) (eg : ∀ args w, (callFunc gf args).run P w = .ok (.enter gf args) w)
    {R : Nat → Prop} {Rd : (Nat → Prop) → α → Array Value → World → Prop} {xs : List α} {w0 : World} (hseq : Seq P gf lb R Rd xs w0) (hb0 : Below w0.heap.size w0 w) (hR : ∀ j, R j → j < w.heap.size)
    (hRd : ∀ T x args A C, Rd T x args A → Stays T A C → Rd T x args C) (hps : ∀ T x args W, Rd T x args W → args.size = ps.size)
    (I : (Nat → Prop) → List α → World → Prop) (Ix : Code → List α → World → Prop) (hI : Held I) (hIx : ∀ c pre A C, Ix c pre A → Apart (fun j => j = w.heap.size + 1) A C → Ix c pre C)
    (h0 : I (fun _ => False) [] w) (a₁ : Array Value → Act)
    (hassign : ∀ (l : Nat) (T : Nat → Prop) (x : α) (args : Array Value) (W : World) (K : Act → World → Prop), Rd T x args W → K (a₁ args) W →
      assign.wpIn (Fence.wide.inRound l) n P (Exit.then K (fun _ _ _ => False)) { tmps := (ps.zip args).foldl (fun t (p, v) => t.setIfInBounds p v) a.tmps, defers := [] } W)
    (hbody : ∀ (l : Nat) (T S : Nat → Prop) (pre : List α) (x : α) (args : Array Value) (W : World), I S pre W → Rd T x args W → (∀ j, T j → S j) → w.heap.size + 2 ≤ W.heap.size → (∀ j, T j → j < w.heap.size ∨ w.heap.size + 2 ≤ j) → pre ++ [x] <+: xs →
      body.wpIn (Fence.wide.inRound l) n P (iterPost w.heap.size S R I Ix (pre ++ [x]) W) (a₁ args) W)
    (hdone : ∀ (S : Nat → Prop) (W : World), I S xs W → W.heap[w.heap.size]? = some (.deferred (some [])) → Q .normal { a with defers := { target := .collected w.heap.size, args := #[] } :: a.defers } W)
    (hstop : ∀ (c : Code) (pre : List α) (x : α) (W : World), pre ++ [x] <+: xs → Ix c (pre ++ [x]) W → W.heap[w.heap.size]? = some (.deferred (some [])) → c.wpIn Fence.wide n P Q { a with defers := { target := .collected w.heap.size, args := #[] } :: a.defers } W) :
    (Code.rangeFunc g ps assign body).wpIn Fence.wide n P Q a w := by
  refine wpIn_rangeFunc ?_
  intro fn hfn
  rw [show Fence.wide.round = none from rfl]
  obtain ⟨rec, hrec⟩ : ∃ rec : LoopState → Option Code → Loop, rec = fun st pe => { state := st, pending := pe, fn, tmps := a.tmps, params := ps, assign, body, defers := w.heap.size } := ⟨_, rfl⟩
  obtain ⟨W1, hW1⟩ : ∃ W1, (w.alloc (.deferred (some []))).alloc (.loop (rec .ready none)) = W1 := ⟨_, rfl⟩
  have hL1 : W1.heap[w.heap.size + 1]? = some (.loop (rec .ready none)) := by
    rw [← hW1]; have := World.alloc_heap_new (w.alloc (.deferred (some []))) (.loop (rec .ready none)); rwa [World.size_alloc] at this
  have hK1 : W1.heap[w.heap.size]? = some (.deferred (some [])) := by
    rw [← hW1]; exact (Below.heap_alloc _ _ _ (by simp)).trans (World.alloc_heap_new w _)
  have hw1 : Below w.heap.size w W1 := by rw [← hW1]; exact (((Below.refl _ w).alloc (Nat.le_refl _) _).alloc (by simp) _)
  have hb1 : Below w0.heap.size w0 W1 := hb0.trans (hw1.mono hb0.size)
  have hz1 : W1.heap.size = w.heap.size + 2 := by rw [← hW1]; simp
  have hI1 : I (fun j => j = w.heap.size ∨ j = w.heap.size + 1) [] W1 := hI _ _ _ _ _ h0 (Apart.of_below hw1) (fun j hj => .inr (by omega))
  refine ⟨w.heap.size + 1, [{ target := .collected w.heap.size, args := #[] }], W1, { target := .fn (.func gf) lb, args := #[.func (.yield (w.heap.size + 1)) #[] #[]] }, W1, gf,
    #[.func (.yield (w.heap.size + 1)) #[] #[]] ++ lb, W1, ?_, ?_, ?_, ?_, fun h => (by cases h), ?_⟩
  · rw [← hW1, hrec]; exact run_enterLoop_outer _ _ _ _ _
  · simp only [resolve, hg]
    simp [go_sem]
  · intro f' hf'; trivial
  · simp [invoke, go_sem, eg]
  · refine callsIn_wide.2 ?_
    refine (hseq (w.heap.size + 1)
      (fun T pre W => I (fun j => T j ∨ j = w.heap.size ∨ j = w.heap.size + 1) pre W ∧ (∀ j, T j → w.heap.size + 2 ≤ j) ∧ W.heap[w.heap.size + 1]? = some (.loop (rec .ready none)) ∧ W.heap[w.heap.size]? = some (.deferred (some [])))
      (fun T pre W => ∃ c, Ix c pre W ∧ W.heap[w.heap.size + 1]? = some (.loop (rec .done (some c))) ∧ W.heap[w.heap.size]? = some (.deferred (some [])))
      W1 hb1 ?held ?round ⟨hI _ _ _ _ _ hI1 (Apart.refl _ _) (fun j hj => by rcases hj with h | h; exact h.elim; exact .inl h), fun j h => h.elim, hL1, hK1⟩).mono ?_
    case held =>
      rintro T T' pre A C ⟨hi, hT, hl, hk⟩ hA hT'
      have hlt : w.heap.size + 1 < A.heap.size := (Array.getElem?_eq_some_iff.1 hl).1
      refine ⟨hI _ _ _ _ _ hi (hA.mono fun j hj => .inl hj) (fun j hj => ?_), fun j hj => ?_, (hA.same _ hlt (fun h => by have := hT _ h; omega)).trans hl, (hA.same _ (by omega) (fun h => by have := hT _ h; omega)).trans hk⟩
      · rcases hj with hj | hj
        · rcases hT' j hj with h | h
          · exact .inl (.inl h)
          · exact .inr h
        · exact .inl (.inr hj)
      · rcases hT' j hj with h | h
        · exact hT j h
        · omega
    case round =>
      rintro T pre x args W ⟨hi, hT, hl, hk⟩ hrd hpx
      have hlt : w.heap.size + 1 < W.heap.size := (Array.getElem?_eq_some_iff.1 hl).1
      have hnT : ¬ T (w.heap.size + 1) := fun h => by have := hT _ h; omega
      have hnR : ¬ (T (w.heap.size + 1) ∨ R (w.heap.size + 1)) := fun h => by rcases h with h | h; exact hnT h; have := hR _ h; omega
      have hy := run_yield (P := P) (args := args) hl (by rw [hrec]; exact hps T x args W hrd)
      rw [hrec] at hy
      refine yield_any (m := n + 1) ⟨fn, _, assign, body, hy, roundIn_any (m := n) (roundIn_of_wpIn hfn (hassign _ T x args W _ hrd ⟨_, run_beginRound hl (by rw [hrec]), ?_⟩))⟩
      have hl2 : (W.putObj (w.heap.size + 1) (.loop { rec .ready none with state := .busy })).heap[w.heap.size + 1]? = some (.loop { rec .ready none with state := .busy }) := World.putObj_heap_same hlt
      have hk2 : (W.putObj (w.heap.size + 1) (.loop { rec .ready none with state := .busy })).heap[w.heap.size]? = some (.deferred (some [])) := (World.putObj_heap_other (by omega)).trans hk
      have hi2 := hI _ _ _ _ _ hi ((Apart.putObj W (w.heap.size + 1) (.loop { rec .ready none with state := .busy })).mono fun j hj => .inr (.inr hj)) (fun j hj => .inl hj)
      have hst := Stays.putObj (S := fun j => T j ∨ R j) hnR W (.loop { rec .ready none with state := .busy })
      have hlz := (Array.getElem?_eq_some_iff.1 hl2).1
      have hkz := (Array.getElem?_eq_some_iff.1 hk2).1
      refine wpIn_mono (hbody _ T _ pre x args _ hi2 (hRd _ _ _ _ _ hrd (hst.mono fun j hj => .inl hj)) (fun j hj => .inl hj) hlz (fun j hj => .inr (hT j hj)) hpx) ?_
      have fin : ∀ (jump : Option Code) (W3 : World), W3.heap[w.heap.size + 1]? = some (.loop { rec .ready none with state := .busy }) → W3.heap[w.heap.size]? = some (.deferred (some [])) →
          (Instr.endRound (w.heap.size + 1) jump).run P W3 = .ok (.bool jump.isNone) (W3.putObj (w.heap.size + 1) (.loop (rec (if jump.isNone then .ready else .done) jump))) ∧
          (W3.putObj (w.heap.size + 1) (.loop (rec (if jump.isNone then .ready else .done) jump))).heap[w.heap.size + 1]? = some (.loop (rec (if jump.isNone then .ready else .done) jump)) ∧
          (W3.putObj (w.heap.size + 1) (.loop (rec (if jump.isNone then .ready else .done) jump))).heap[w.heap.size]? = some (.deferred (some [])) := fun jump W3 hl3 hk3 => by
        have := run_endRound (P := P) jump hl3
        rw [hrec] at this ⊢
        exact ⟨this, World.putObj_heap_same (Array.getElem?_eq_some_iff.1 hl3).1, (World.putObj_heap_other (by omega)).trans hk3⟩
      rintro e a3 W3 hp
      cases e with
      | normal =>
        obtain ⟨hs3, hi3⟩ := hp
        have hl3 := (hs3.same (w.heap.size + 1) hlz (.inl (.inr (.inr rfl)))).trans hl2
        have hk3 := (hs3.same w.heap.size hkz (.inl (.inr (.inl rfl)))).trans hk2
        obtain ⟨hr, hl4, hk4⟩ := fin none W3 hl3 hk3
        refine ⟨_, _, hr, .inl ⟨rfl, ⟨hI _ _ _ _ _ hi3 ((Apart.putObj W3 _ _).mono fun j hj => .inr (.inr hj)) (fun j hj => .inl hj), hT, hl4, hk4⟩, ?_⟩⟩
        exact (hst.trans (hs3.mono fun j hj => hj.elim (fun h => .inl (.inl h)) .inr)).trans (Stays.putObj (S := fun j => T j ∨ R j) hnR W3 _)
      | ret =>
        obtain ⟨hs3, hi3⟩ := hp
        obtain ⟨hr, hl4, hk4⟩ := fin (some .ret) W3 ((hs3.same (w.heap.size + 1) hlz (by omega)).trans hl2) ((hs3.same w.heap.size hkz (by omega)).trans hk2)
        exact ⟨_, _, hr, .inr ⟨rfl, .ret, hIx _ _ _ _ hi3 (Apart.putObj W3 _ _), hl4, hk4⟩⟩
      | exit id =>
        obtain ⟨hs3, hi3⟩ := hp
        obtain ⟨hr, hl4, hk4⟩ := fin (some (.exit id)) W3 ((hs3.same (w.heap.size + 1) hlz (by omega)).trans hl2) ((hs3.same w.heap.size hkz (by omega)).trans hk2)
        exact ⟨_, _, hr, .inr ⟨rfl, .exit id, hIx _ _ _ _ hi3 (Apart.putObj W3 _ _), hl4, hk4⟩⟩
      | goto t =>
        obtain ⟨hs3, hi3⟩ := hp
        obtain ⟨hr, hl4, hk4⟩ := fin (some (.goto t)) W3 ((hs3.same (w.heap.size + 1) hlz (by omega)).trans hl2) ((hs3.same w.heap.size hkz (by omega)).trans hk2)
        exact ⟨_, _, hr, .inr ⟨rfl, .goto t, hIx _ _ _ _ hi3 (Apart.putObj W3 _ _), hl4, hk4⟩⟩
      | panic ch => exact hp.elim
      | outgrown => exact hp.elim
    · rintro e W2 ⟨⟨v, rfl⟩, (⟨T, hi, hT, hl, hk⟩ | ⟨T, pre, x, hpre, c, hi, hl, hk⟩)⟩
      · exact ⟨none, _, by have := run_endLoop (P := P) hl (by rw [hrec]; simp); rw [hrec] at this; exact this, hdone _ _ (hI _ _ _ _ _ hi ((Apart.putObj W2 _ _).mono fun j hj => .inr (.inr hj)) (fun j hj => .inl hj)) ((World.putObj_heap_other (by omega)).trans hk)⟩
      · exact ⟨some c, _, by have := run_endLoop (P := P) hl (by rw [hrec]; simp); rw [hrec] at this; exact this, hstop c pre x _ hpre (hIx _ _ _ _ hi (Apart.putObj W2 _ _)) ((World.putObj_heap_other (by omega)).trans hk)⟩

/-- A range over an iterator of one value; its variable is assigned ahead of the body. -/
theorem wp_rangeFunc_asg {P : Program} {α : Type} {g : Operand} {p : Tmp} {assign body : Code} {Q : Exit → Act → World → Prop} {a : Act} {w : World} {gf : Nat} {lb : Array Value} (hg : a.eval g = .func (.func gf) #[] lb)
    (eg : ∀ args w, (callFunc gf args).run P w = .ok (.enter gf args) w) {R : Nat → Prop} {Rd : (Nat → Prop) → α → Array Value → World → Prop} {xs : List α} (hseq : Seq P gf lb R Rd xs w) (hR : ∀ j, R j → j < w.heap.size)
    (hRd : ∀ T x args A C, Rd T x args A → Stays T A C → Rd T x args C) (hps : ∀ T x args W, Rd T x args W → args.size = 1)
    (I : (Nat → Prop) → List α → World → Prop) (Ix : Code → List α → World → Prop) (hI : Held I) (hIx : ∀ c pre A C, Ix c pre A → Apart (fun j => j = w.heap.size + 1) A C → Ix c pre C) (h0 : I (fun _ => False) [] w)
    (a₁ : Value → Act)
    (hassign : ∀ (l : Nat) (v : Value) (W : World) (K : Act → World → Prop), K (a₁ v) W → assign.wpIn (Fence.wide.inRound l) 3 P (Exit.then K (fun _ _ _ => False)) { tmps := a.tmps.setIfInBounds p v, defers := [] } W)
    (hbody : ∀ (l : Nat) (T S : Nat → Prop) (pre : List α) (x : α) (v : Value) (W : World), I S pre W → Rd T x #[v] W → (∀ j, T j → S j) → w.heap.size + 2 ≤ W.heap.size → (∀ j, T j → j < w.heap.size ∨ w.heap.size + 2 ≤ j) → pre ++ [x] <+: xs →
      body.wpIn (Fence.wide.inRound l) 3 P (iterPost w.heap.size S R I Ix (pre ++ [x]) W) (a₁ v) W)
    (hdone : ∀ (S : Nat → Prop) (W : World), I S xs W → W.heap[w.heap.size]? = some (.deferred (some [])) → Q .normal { a with defers := { target := .collected w.heap.size, args := #[] } :: a.defers } W)
    (hstop : ∀ (c : Code) (pre : List α) (x : α) (W : World), pre ++ [x] <+: xs → Ix c (pre ++ [x]) W → W.heap[w.heap.size]? = some (.deferred (some [])) → c.wp P Q { a with defers := { target := .collected w.heap.size, args := #[] } :: a.defers } W) :
    (Code.rangeFunc g #[p] assign body).wp P Q a w := by
  refine (wpIn_wide (n := 3)).1 ?_
  have hone : ∀ args : Array Value, args.size = 1 → ∃ v, args = #[v] := fun args h => by
    obtain ⟨l⟩ := args
    match l, h with
    | [v], _ => exact ⟨v, rfl⟩
  refine wpIn_rangeFunc_iterG hg eg hseq (Below.refl _ _) hR hRd (fun T x args W h => hps T x args W h) I Ix hI hIx h0 (fun args => a₁ (args[0]?.getD undef)) ?_ ?_ hdone (fun c pre x W h1 h2 h3 => (wpIn_wide (n := 3)).2 (hstop c pre x W h1 h2 h3))
  · intro l T x args W K hrd hK
    obtain ⟨v, rfl⟩ := hone args (hps T x args W hrd)
    have e : (#[p].zip #[v]).foldl (fun (t : Array Value) (x : Tmp × Value) => t.setIfInBounds x.1 x.2) a.tmps = a.tmps.setIfInBounds p v := by simp
    have h := hassign l v W K hK
    rw [← e] at h
    exact h
  · intro l T S pre x args W hi hrd hTS hz hT hpx
    obtain ⟨v, rfl⟩ := hone args (hps T x args W hrd)
    exact hbody l T S pre x v W hi hrd hTS hz hT hpx
end Go.Proofs.Ythddlpghjkiioaa
/-
  MARKS AMONG THE DEFERRED CALLS: a range over a function that is left early leaves a mark; the function's end passes over all.
-/
namespace Go.Proofs.Ythddlpghjkiioaa
open Go.RowKit Go.Shelf
attribute [local go_sem] Oper.semAt_some

/-! ## Marks among the deferred calls -/
def isMark (D : List Deferred) (j : Nat) : Prop := ∃ d ∈ D, d.target = .collected j
structure Marks (D : List Deferred) (W : World) : Prop where
  at_ : ∀ d ∈ D, ∃ b, d = { target := .collected b, args := #[] } ∧ W.heap[b]? = some (.deferred (some []))
  ne : D.Pairwise fun d e => d.target ≠ e.target
theorem Marks.nil (W : World) : Marks [] W := ⟨fun _ h => (by cases h), List.Pairwise.nil⟩
theorem Marks.block {D : List Deferred} {W : World} (h : Marks D W) {j : Nat} (hj : isMark D j) : W.heap[j]? = some (.deferred (some [])) := by
  obtain ⟨d, hd, ht⟩ := hj
  obtain ⟨b, rfl, hb⟩ := h.at_ d hd
  simp only [Target.collected.injEq] at ht
  subst ht
  exact hb
theorem Marks.below {D : List Deferred} {W W' : World} (h : Marks D W) (hb : Below W.heap.size W W') : Marks D W' := by
  refine ⟨fun d hd => ?_, h.ne⟩
  obtain ⟨b, e, hh⟩ := h.at_ d hd
  exact ⟨b, e, (hb.block b (Array.getElem?_eq_some_iff.1 hh).1).trans hh⟩
theorem Marks.same {D : List Deferred} {W W' : World} (h : Marks D W) (hs : ∀ j, isMark D j → W'.heap[j]? = W.heap[j]?) : Marks D W' := by
  refine ⟨fun d hd => ?_, h.ne⟩
  obtain ⟨b, e, hh⟩ := h.at_ d hd
  exact ⟨b, e, (hs b ⟨d, hd, by rw [e]⟩).trans hh⟩
theorem Marks.cons {D : List Deferred} {W : World} {b : Nat} (h : Marks D W) (hb : W.heap[b]? = some (.deferred (some []))) (hn : ∀ j, isMark D j → j ≠ b) : Marks ({ target := .collected b, args := #[] } :: D) W := by
  refine ⟨fun d hd => ?_, List.pairwise_cons.2 ⟨fun d hd e => ?_, h.ne⟩⟩
  · rcases List.mem_cons.1 hd with rfl | hd
    · exact ⟨b, rfl, hb⟩
    · exact h.at_ d hd
  · obtain ⟨b', rfl, _⟩ := h.at_ d hd
    simp only [Target.collected.injEq] at e
    exact hn b' ⟨_, hd, rfl⟩ e.symm
theorem leaves_marks {P : Program} {n : Nat} {fn : Func} {tmps : Array Value} {R : Ending → World → Prop} : ∀ (D : List Deferred) (W : World), Marks D W →
    (∀ W', Apart (isMark D) W W' → ∃ v, (results fn tmps).run P W' = .ok v W' ∧ R (.returned v) W') → LeavesInM Fence.wide n P fn tmps R D .returning W := by
  intro D
  induction D with
  | nil => exact fun W _ h => h W (Apart.refl _ _)
  | cons d ds ih =>
    intro W hm h
    obtain ⟨b, rfl, hb⟩ := hm.at_ d List.mem_cons_self
    have hne := (List.pairwise_cons.1 hm.ne).1
    refine ⟨by simp, .inl ⟨b, _, rfl, run_takeDeferred hb, ih _ ⟨fun e he => ?_, (List.pairwise_cons.1 hm.ne).2⟩ fun W' ha => h W' ?_⟩⟩
    · obtain ⟨b', rfl, hb'⟩ := hm.at_ e (List.mem_cons_of_mem _ he)
      have := hne _ he
      simp only [ne_eq, Target.collected.injEq] at this
      exact ⟨b', rfl, (World.putObj_heap_other fun e => this e.symm).trans hb'⟩
    · refine ((Apart.putObj W b _).mono fun j hj => ?_).trans ha fun j hj => .inl ?_
      · exact ⟨_, List.mem_cons_self, by rw [hj]⟩
      · obtain ⟨d, hd, ht⟩ := hj
        exact ⟨d, List.mem_cons_of_mem _ hd, ht⟩
theorem own_at {w w' : World} {B : Nat} {e : TypeId} {s n : Nat} {v : Value} {xs : List Value} (h : w.ownsRow B e s v n xs) (hs : ∀ (k : Nat) (c : Array Value) (t : TypeId) (f : Nat × Nat), w.heap[k]? = some (.cells c t f) → w'.heap[k]? = w.heap[k]?) : w'.ownsRow B e s v n xs := by
  obtain ⟨h1, h2⟩ := h
  rcases h2 with ⟨hv, h0⟩ | ⟨g, cap, cur, hv, hb, hg, hrest⟩
  · exact ⟨h1, .inl ⟨hv, h0⟩⟩
  · exact ⟨h1, .inr ⟨g, cap, cur, hv, hb, (hs g _ _ _ hg).trans hg, hrest⟩⟩
theorem Marks.rows {D : List Deferred} {W W' : World} (h : Marks D W) (ha : Apart (isMark D) W W') (k : Nat) (c : Array Value) (t : TypeId) (f : Nat × Nat) (hk : W.heap[k]? = some (.cells c t f)) : W'.heap[k]? = W.heap[k]? := by
  refine ha.same k (Array.getElem?_eq_some_iff.1 hk).1 fun hm => ?_
  rw [h.block hm] at hk
  cases hk

end Go.Proofs.Ythddlpghjkiioaa
/-
  HOW MANY LISTS OF TIED PEOPLE THERE ARE ('countTied'), and whether there is one ('hasTied'), by their contracts.
-/
namespace Go.Proofs.Ythddlpghjkiioaa
open Go.RowKit Go.Shelf
attribute [local go_sem] Oper.semAt_some

theorem listsC_length_le (t : Nat → Nat → Bool) : ∀ (k : Nat) (told : List Int) (cs : List Nat), (listsC t k told cs).length ≤ 2 ^ cs.length := by
  intro k told cs
  induction h : k + cs.length using Nat.strongRecOn generalizing k told cs with
  | _ n ih =>
    match k, cs with
    | 0, cs => rw [listsC_zero]; exact Nat.one_le_two_pow
    | k + 1, [] => rw [listsC_nil]; simp
    | k + 1, a :: cs =>
      rw [listsC_cons, List.length_append]
      simp only [List.length_cons] at h
      have h0 : (cs.filter (t a)).length ≤ cs.length := List.length_filter_le _ _
      have h1 := ih (k + (cs.filter (t a)).length) (by omega) k (told ++ [(a : Int)]) (cs.filter (t a)) rfl
      have h2 := ih (k + 1 + cs.length) (by omega) (k + 1) told cs rfl
      have h3 : 2 ^ (cs.filter (t a)).length ≤ 2 ^ cs.length := Nat.pow_le_pow_right (by omega) h0
      rw [List.length_cons, Nat.pow_succ]
      omega
theorem set_len {j : Nat} {cs : List Nat} (hs : IsSet j cs) (hcs : ∀ b ∈ cs, b < 12) : cs.length ≤ 12 := by
  have h := List.Nodup.length_le_of_subset (l₁ := cs) (l₂ := List.range 12) (hs.up.imp fun h => Nat.ne_of_lt h) (fun b hb => List.mem_range.2 (hcs b hb))
  simpa using h
theorem lists_few {t : Nat → Nat → Bool} {k : Nat} {told : List Int} {j : Nat} {cs : List Nat} (hs : IsSet j cs) (hcs : ∀ b ∈ cs, b < 12) : (listsC t k told cs).length ≤ 4096 := by
  have h1 := listsC_length_le t k told cs
  have h2 : 2 ^ cs.length ≤ 2 ^ 12 := Nat.pow_le_pow_right (by omega) (set_len hs hcs)
  omega
theorem wrap_next (n : Nat) : wrap64 (wrap64 (n : Int) + 1) = wrap64 ((n + 1 : Nat) : Int) := by unfold wrap64; omega

theorem below_putObj {B l : Nat} {A W : World} (h : Below B A W) (hB : B ≤ W.heap.size) (hl : B ≤ l) (o : Obj) : Below B A (W.putObj l o) := h.grown (grownBy_putObj' W l o) hB (fun k e => by cases e; exact hl)

theorem cell_putObj {W : World} {l b o : Nat} (ob : Obj) (hne : b ≠ l) : (W.putObj l ob).cell? ⟨b, o, none⟩ = W.cell? ⟨b, o, none⟩ := World.cell?_of_block (w := W) (w' := W.putObj l ob) (a := ⟨b, o, none⟩) (World.putObj_heap_other hne)

end Go.Proofs.Ythddlpghjkiioaa
/-
  PAINTINGS WITHOUT A TRIPLE OF ONE COLOUR: the program's 'CountAvoiding', by its contract.
-/
namespace Go.Proofs.Ythddlpghjkiioaa
open Go.RowKit Go.Shelf
attribute [local go_sem] Oper.semAt_some

/-- A range over an iterator of one value, its variable not used elsewhere. -/
theorem wp_rangeFunc_oneA {P : Program} {α : Type} {g : Operand} {p : Tmp} {body : Code} {Q : Exit → Act → World → Prop} {a : Act} {w : World} {gf : Nat} {lb : Array Value} (hg : a.eval g = .func (.func gf) #[] lb)
    (eg : ∀ args w, (callFunc gf args).run P w = .ok (.enter gf args) w) {R : Nat → Prop} {Rd : (Nat → Prop) → α → Array Value → World → Prop} {xs : List α} (hseq : Seq P gf lb R Rd xs w) (hR : ∀ j, R j → j < w.heap.size)
    (hRd : ∀ T x args A C, Rd T x args A → Stays T A C → Rd T x args C) (hps : ∀ T x args W, Rd T x args W → args.size = 1)
    (I : (Nat → Prop) → List α → World → Prop) (Ix : Code → List α → World → Prop) (hI : Held I) (hIx : ∀ c pre A C, Ix c pre A → Apart (fun j => j = w.heap.size + 1) A C → Ix c pre C) (h0 : I (fun _ => False) [] w)
    (hbody : ∀ (l : Nat) (T S : Nat → Prop) (pre : List α) (x : α) (v : Value) (W : World), I S pre W → Rd T x #[v] W → (∀ j, T j → S j) →
      body.wpIn (Fence.wide.inRound l) 3 P (iterPost w.heap.size S R I Ix (pre ++ [x]) W) { tmps := a.tmps.setIfInBounds p v, defers := [] } W)
    (hdone : ∀ (S : Nat → Prop) (W : World), I S xs W → W.heap[w.heap.size]? = some (.deferred (some [])) → Q .normal { a with defers := { target := .collected w.heap.size, args := #[] } :: a.defers } W)
    (hstop : ∀ (c : Code) (pre : List α) (x : α) (W : World), pre ++ [x] <+: xs → Ix c (pre ++ [x]) W → W.heap[w.heap.size]? = some (.deferred (some [])) → c.wp P Q { a with defers := { target := .collected w.heap.size, args := #[] } :: a.defers } W) :
    (Code.rangeFunc g #[p] Code.skip body).wp P Q a w := by
  refine (wpIn_wide (n := 3)).1 ?_
  have hone : ∀ args : Array Value, args.size = 1 → ∃ v, args = #[v] := fun args h => by
    obtain ⟨l⟩ := args
    match l, h with
    | [v], _ => exact ⟨v, rfl⟩
  refine wpIn_rangeFunc_iter hg eg hseq (Below.refl _ _) hR hRd (fun T x args W h => hps T x args W h) I Ix hI hIx h0 (fun args => { tmps := a.tmps.setIfInBounds p (args[0]?.getD undef), defers := [] }) ?_ ?_ hdone (fun c pre x W h1 h2 h3 => (wpIn_wide (n := 3)).2 (hstop c pre x W h1 h2 h3))
  · intro l T x args W K hrd hK
    obtain ⟨v, rfl⟩ := hone args (hps T x args W hrd)
    refine wpIn_skip ?_
    change K _ W
    simpa using hK
  · intro l T S pre x args W hi hrd hTS
    obtain ⟨v, rfl⟩ := hone args (hps T x args W hrd)
    exact hbody l T S pre x v W hi hrd hTS

set_option maxHeartbeats 8000000 in
set_option maxRecDepth 100000 in
theorem countAv_yes (n k : Nat) (hn : n ≤ 5) (hk : 1 ≤ k ∧ k ≤ 3) (w : World) :
    Calls Try.prog 41 #[.int .i64 n, .int .i64 k] w fun e w' => e = .returned (.tuple #[.int .i64 (((avoidX n k (allP n).length []).length : Nat) : Int), .bool true]) ∧ Below w.heap.size w w' := by
  have got := fun (X : World) => allAvoiding_got (n := n) (k := k) (by omega) hk.2 X
  have hlen := avoidX_count n k (allP n).length []
  have h10 : (allP n).length ≤ 10 := by
    have h : ∀ j : Fin 6, (allP j.val).length ≤ 10 := by decide
    exact h ⟨n, by omega⟩
  have h310 : k ^ (allP n).length ≤ 59049 := Nat.le_trans (Nat.pow_le_pow_left (show k ≤ 3 by omega) _) (Nat.le_trans (Nat.pow_le_pow_right (by omega) h10) (by decide))
  obtain ⟨L, hL⟩ : ∃ L, avoidX n k (allP n).length [] = L := ⟨_, rfl⟩
  simp only [hL] at got hlen ⊢
  have hL59 : L.length ≤ 59049 := by omega
  refine (callsIn_wide (n := 5)).1 ?_
  refine callsIn_of_wp_marks Try.func41 rfl trivial ?_
  simp only [Try.ntmps41, List.size_toArray, List.length_cons, List.length_nil, Nat.reduceAdd, Nat.reduceSub, Array.replicate_succ, Array.replicate_zero, List.push_toArray, List.append_toArray, List.nil_append, List.cons_append]
  refine wpIn_wide.2 ?_
  have Got := Lib.hid got
  clear got hL hlen h10 h310
  have e1 : decide ((n : Int) < 0) = false := decide_eq_false (by omega)
  have e2 : decide ((5 : Int) < (n : Int)) = false := decide_eq_false (by omega)
  have e3 : decide ((k : Int) < 1) = false := decide_eq_false (by omega)
  have e4 : decide ((3 : Int) < (k : Int)) = false := decide_eq_false (by omega)
  go_wp2_with fail
  obtain ⟨X0, hX0⟩ : ∃ X0, w.alloc (Obj.cells #[.int .i64 0] 3) = X0 := ⟨_, rfl⟩
  have kX : Below w.heap.size w X0 := by rw [← hX0]; go_grown
  have sX : X0.heap.size = w.heap.size + 1 := by rw [← hX0]; simp
  have bN : X0.heap[w.heap.size]? = some (Obj.cells #[.int .i64 0] 3) := by rw [← hX0]; exact World.alloc_heap_new w _
  rw [hX0]
  have KX := Lib.hid kX
  have BN := Lib.hid bN
  clear hX0 kX bN
  refine (Got.out X0).mono ?_
  rintro e w1 ⟨lb, rfl, g1, z1, hseq⟩
  have k1 : Below w.heap.size w w1 := KX.out.trans (g1.mono (by omega))
  have bN1 := (g1.block _ (show w.heap.size < X0.heap.size by omega)).trans BN.out
  have Seq1 := Lib.hid hseq
  have BN1 := Lib.hid bN1
  have K1 := Lib.hid k1
  clear hseq bN1 k1 g1 Got
  go_wp2_with fail
  refine wp_rangeFunc_oneA rfl (enters_of Try.func88 (by kernel_rfl) rfl) Seq1.out (fun j hj => by omega) (fun T x args A C h hs => h.stays hs) (fun T x args W h => h.one)
    (fun S pre Y => (∀ j, S j → w1.heap.size ≤ j) ∧ w1.heap.size ≤ Y.heap.size ∧ Below w.heap.size w Y ∧ Y.heap[w.heap.size]? = some (Obj.cells #[.int .i64 (wrap64 (pre.length : Int))] 3))
    (fun _ _ _ => False) ?held (fun _ _ _ _ h _ => h.elim) ⟨fun _ h => h.elim, Nat.le_refl _, K1.out, by simpa [wrap64] using BN1.out⟩ ?body ?done (fun _ _ _ _ _ h _ => h.elim)
  case held =>
    rintro T T' pre A C ⟨a1, a2, a3, a4⟩ hap hT'
    have hn' : ¬ T w.heap.size := fun h => by have := a1 _ h; omega
    exact ⟨fun j hj => (hT' j hj).elim (a1 j) (by omega), Nat.le_trans a2 hap.below.size, a3.trans (hap.below_of (by omega) fun j hj => by have := a1 j hj; omega), (hap.same _ (by omega) hn').trans a4⟩
  case body =>
    rintro l T S pre x v Y ⟨a1, a2, a3, a4⟩ _ _
    have cN := cell_in a4
    have fN := frozen_of_row _ _ 0 _ _ a4
    gi_wp2
    have hn' : ¬ (S w.heap.size ∨ (w.heap.size = X0.heap.size ∨ w.heap.size = X0.heap.size + 1)) := fun h => by
      rcases h with h | h
      · have := a1 _ h; omega
      · omega
    refine ⟨Stays.setCell (p := ⟨w.heap.size, 0, none⟩) hn' Y _, a1, by simpa using a2, a3.setCell (p := ⟨w.heap.size, 0, none⟩) (Nat.le_refl _) _, ?_⟩
    rw [box_set a4, wrap_next, List.length_append]
    rfl
  case done =>
    rintro S Y ⟨a1, a2, a3, a4⟩ hD
    have ew : wrap64 (L.length : Int) = (L.length : Int) := by unfold wrap64; omega
    rw [ew] at a4
    have cN := cell_in a4
    have mk2 := (Marks.nil Y).cons hD (fun j hj => by obtain ⟨d, hd, _⟩ := hj; cases hd)
    have hge : ∀ j, isMark [{ target := .collected w1.heap.size, args := #[] }] j → w.heap.size ≤ j := fun j ⟨d, hd, ht⟩ => by
      rcases List.mem_cons.1 hd with rfl | hd
      · simp only [Target.collected.injEq] at ht; omega
      · cases hd
    have KY := Lib.hid a3
    have Mk2 := Lib.hid mk2
    have hYs := a3.size
    clear a3 a4 hD mk2 ew
    go_wp2
    refine leaves_marks _ _ Mk2.out fun W' ha => ⟨.tuple #[.int .i64 (L.length : Nat), .bool true], ?_, ?_⟩
    · simp [results, Try.results41, go_sem]
    · exact ⟨rfl, KY.out.trans (ha.below_of (by omega) fun j hj => by have := hge _ hj; omega)⟩
set_option maxHeartbeats 2000000 in
set_option maxRecDepth 100000 in
theorem implCountAvoiding_any (n k : Int) (w : World) :
    Calls Try.prog 41 #[.int .i64 n, .int .i64 k] w fun e w' => e = .returned (.tuple #[.int .i64 (resCountAvoiding n k).1, .bool (resCountAvoiding n k).2]) ∧ Below w.heap.size w w' := by
  cases hb : avB n k 5 with
  | true =>
    obtain ⟨h1, h2⟩ := avB_parts hb
    have e : resCountAvoiding n k = (((avL n k).length : Int), true) := by simp [resCountAvoiding, hb]
    rw [e]
    obtain ⟨n, rfl⟩ : ∃ m : Nat, n = m := ⟨n.toNat, by omega⟩
    obtain ⟨k, rfl⟩ : ∃ m : Nat, k = m := ⟨k.toNat, by omega⟩
    exact countAv_yes n k (by omega) (by omega) w
  | false =>
    have e : resCountAvoiding n k = (0, false) := by simp [resCountAvoiding, hb]
    rw [e]
    have hno : n < 0 ∨ (0 ≤ n ∧ 5 < n) ∨ ((0 ≤ n ∧ n ≤ 5) ∧ k < 1) ∨ ((0 ≤ n ∧ n ≤ 5) ∧ 1 ≤ k ∧ 3 < k) := by
      rcases avB_no hb with h | h <;> omega
    clear hb e
    rcases hno with h | ⟨h, h'⟩ | ⟨⟨h, h'⟩, h''⟩ | ⟨⟨h, h'⟩, h2, h3⟩
    · have e1 : decide (n < 0) = true := decide_eq_true h
      go_enter Try.func41, Try.ntmps41
      go_wp2
      go_ret2
      exact ⟨rfl, Below.refl _ _⟩
    · have e1 : decide (n < 0) = false := decide_eq_false (by omega)
      have e2 : decide ((5 : Int) < n) = true := decide_eq_true h'
      go_enter Try.func41, Try.ntmps41
      go_wp2
      go_ret2
      exact ⟨rfl, Below.refl _ _⟩
    · have e1 : decide (n < 0) = false := decide_eq_false (by omega)
      have e2 : decide ((5 : Int) < n) = false := decide_eq_false (by omega)
      have e3 : decide (k < 1) = true := decide_eq_true h''
      go_enter Try.func41, Try.ntmps41
      go_wp2
      go_ret2
      exact ⟨rfl, Below.refl _ _⟩
    · have e1 : decide (n < 0) = false := decide_eq_false (by omega)
      have e2 : decide ((5 : Int) < n) = false := decide_eq_false (by omega)
      have e3 : decide (k < 1) = false := decide_eq_false (by omega)
      have e4 : decide ((3 : Int) < k) = true := decide_eq_true h3
      go_enter Try.func41, Try.ntmps41
      go_wp2
      go_ret2
      exact ⟨rfl, Below.refl _ _⟩
end Go.Proofs.Ythddlpghjkiioaa
/-
  'laws.FnExactCountAvoiding' returns true, whatever its arguments: out of the contracts of the model's function and of the program's.
-/
namespace Go.Proofs.Ythddlpghjkiioaa
open Go.RowKit

set_option maxHeartbeats 4000000 in
set_option maxRecDepth 100000 in
theorem lawCountAvoiding_any (i0 : Int) (i1 : Int) (W : World)  :
    Calls Try.prog 10 #[.int .i64 i0, .int .i64 i1] W fun e w' => e = .returned (.bool true) ∧ Below W.heap.size W w' := by
  have hone : (0 : Int) ≤ 1 ∧ (1 : Int) ≤ 16777216 := by omega
  obtain ⟨⟨rb, rok⟩, hres⟩ : ∃ r, resCountAvoiding i0 i1 = r := ⟨_, rfl⟩
  have Hres := Lib.hid hres
  clear hres
  go_enter Try.func10, Try.ntmps10
  go_wp2_with fail
  refine (specCountAvoiding_any i0 i1 _ ).mono ?_
  rw [Hres.out]
  rintro e w1 ⟨rfl, hb1⟩
  have g1 : Below W.heap.size W w1 := hb1
  have s1 := hb1.size
  have k1 : Below W.heap.size W w1 := g1
  go_wp2_with fail
  refine (implCountAvoiding_any i0 i1 _ ).mono ?_
  rw [Hres.out]
  rintro e w2 ⟨rfl, hb2⟩
  have g2 : Below w1.heap.size w1 w2 := hb2
  have s2 := hb2.size
  have k2 := k1.trans (g2.mono k1.size)
  go_wp2
  go_ret
  exact ⟨rfl, k2⟩
end Go.Proofs.Ythddlpghjkiioaa
/-
  THE PROGRAM's HEAD, LOOKED AT ONCE: which make it is, and that a call may enter it. (The head's text is long: the kernel must not read it twice.)
-/
namespace Go.Proofs.Ythddlpghjkiioaa

theorem make_of {P : Program} {rest : List (List Char)} (h : behindMainWord (wordsSigns P.initOrder.toList) = "cut".toList :: rest) : P.make = some .cut := by
  unfold Program.make
  rw [h]
  rfl
theorem strip_cut (rest : List (List Char)) : stripLifts liftWords ("cut".toList :: rest) = ([], "cut".toList :: rest) := rfl
theorem lifts_of {P : Program} {rest : List (List Char)} (h : behindMainWord (wordsSigns P.initOrder.toList) = "cut".toList :: rest) : P.headLifts = [] := by
  unfold Program.headLifts
  rw [h, strip_cut]
  rfl
theorem final_of {P : Program} {rest : List (List Char)} (h : behindMainWord (wordsSigns P.initOrder.toList) = "cut".toList :: rest) : P.liftsFinal = false := by
  unfold Program.liftsFinal
  rw [lifts_of h, h]
  rfl
theorem enter_of {P : Program} {rest : List (List Char)} (h : behindMainWord (wordsSigns P.initOrder.toList) = "cut".toList :: rest) (h1 : P.laysLater = false) (h2 : P.bearsReflect = false) (h3 : P.doorFits [] = true) : P.mayEnter = true := by
  unfold Program.mayEnter
  rw [h]
  show (_ || _ || _) = true
  rw [strip_cut, h1, h2, h3]
  rfl
end Go.Proofs.Ythddlpghjkiioaa
/-
  THE PROGRAM's CLOSED FACTS, EACH ONCE; and how a row's facts are put together out of them.
-/
namespace Go.Proofs.Ythddlpghjkiioaa
open Go.ChangeShapes Go.WideShapes Go.ChangeAt Go.RowKit

def headSigns : List Char := ([104, 97, 114, 110, 101, 115, 115, 32, 56, 99, 49, 98, 48, 55, 52, 50, 97, 97, 50, 57, 102, 50, 97, 52, 101, 54, 98, 49, 51, 53, 52, 100, 54, 51, 51, 102, 101, 97, 54, 55, 101, 51, 48, 54, 97, 53, 49, 97, 51, 100, 49, 99, 52, 54, 99, 54, 48, 52, 50, 48, 53, 48, 53, 52, 48, 54, 50, 50, 54, 102, 54, 54, 32, 99, 117, 116, 32, 97, 116, 32, 108, 111, 111, 112, 46, 101, 120, 97, 109, 112, 108, 101, 47, 103, 48, 49, 50, 53, 55, 47, 108, 97, 119, 115, 46, 70, 110, 69, 120, 97, 99, 116, 70, 105, 114, 115, 116, 79, 102, 78, 117, 109, 98, 101, 114, 115, 32, 108, 111, 111, 112, 46, 101, 120, 97, 109, 112, 108, 101, 47, 103, 48, 49, 50, 53, 55, 47, 108, 97, 119, 115, 46, 70, 110, 69, 120, 97, 99, 116, 70, 101, 119, 101, 115, 116, 67, 111, 108, 111, 117, 114, 115, 32, 108, 111, 111, 112, 46, 101, 120, 97, 109, 112, 108, 101, 47, 103, 48, 49, 50, 53, 55, 47, 108, 97, 119, 115, 46, 70, 110, 69, 120, 97, 99, 116, 70, 105, 114, 115, 116, 67, 111, 108, 111, 117, 114, 105, 110, 103, 32, 108, 111, 111, 112, 46, 101, 120, 97, 109, 112, 108, 101, 47, 103, 48, 49, 50, 53, 55, 47, 108, 97, 119, 115, 46, 70, 110, 69, 120, 97, 99, 116, 67, 111, 117, 110, 116, 67, 111, 108, 111, 117, 114, 105, 110, 103, 115, 32, 108, 111, 111, 112, 46, 101, 120, 97, 109, 112, 108, 101, 47, 103, 48, 49, 50, 53, 55, 47, 108, 97, 119, 115, 46, 70, 110, 69, 120, 97, 99, 116, 70, 101, 119, 101, 115, 116, 71, 114, 111, 117, 112, 115, 32, 108, 111, 111, 112, 46, 101, 120, 97, 109, 112, 108, 101, 47, 103, 48, 49, 50, 53, 55, 47, 108, 97, 119, 115, 46, 70, 110, 69, 120, 97, 99, 116, 71, 114, 111, 117, 112, 115, 79, 102, 80, 97, 114, 116, 121, 32, 108, 111, 111, 112, 46, 101, 120, 97, 109, 112, 108, 101, 47, 103, 48, 49, 50, 53, 55, 47, 108, 97, 119, 115, 46, 70, 110, 69, 120, 97, 99, 116, 70, 105, 114, 115, 116, 65, 118, 111, 105, 100, 105, 110, 103, 32, 108, 111, 111, 112, 46, 101, 120, 97, 109, 112, 108, 101, 47, 103, 48, 49, 50, 53, 55, 47, 108, 97, 119, 115, 46, 70, 110, 69, 120, 97, 99, 116, 67, 111, 117, 110, 116, 65, 118, 111, 105, 100, 105, 110, 103] : List Nat).map Char.ofNat
set_option maxRecDepth 100000 in
theorem Try.initOrder_is : Try.prog.initOrder = String.ofList headSigns := by kernel_rfl
theorem Try.initOrder_signs : Try.prog.initOrder.toList = headSigns := by rw [Try.initOrder_is]; exact String.toList_ofList
set_option maxRecDepth 100000 in
theorem head_words : (behindMainWord (wordsSigns headSigns)).take 1 = ["cut".toList] := by kernel_rfl
theorem Try.words : ∃ rest, behindMainWord (wordsSigns Try.prog.initOrder.toList) = "cut".toList :: rest := by
  rw [Try.initOrder_signs]
  have h := List.take_append_drop 1 (behindMainWord (wordsSigns headSigns))
  rw [head_words] at h
  exact ⟨_, h.symm⟩
theorem Try.make : Try.prog.make = some .cut := by obtain ⟨_, h⟩ := Try.words; exact make_of h
theorem Try.liftsFinal : Try.prog.liftsFinal = false := by obtain ⟨_, h⟩ := Try.words; exact final_of h
theorem Try.laysLater : Try.prog.laysLater = false := by kernel_rfl
theorem Try.bearsReflect : Try.prog.bearsReflect = false := by kernel_rfl
theorem Try.doorFits : Try.prog.doorFits [] = true := by kernel_rfl
theorem Try.mayEnter : Try.prog.mayEnter = true := by obtain ⟨_, h⟩ := Try.words; exact enter_of h Try.laysLater Try.bearsReflect Try.doorFits
theorem Try.mapsRowed : mapsRowed Try.prog = true := by kernel_rfl
theorem Try.stops : (Try.prog.stops == []) = true := by kernel_rfl
theorem Try.stopKnobs : (Try.prog.stopKnobs == []) = true := by kernel_rfl
theorem Try.plainKeys : Try.prog.plainKeys = true := by kernel_rfl
theorem Try.stopsHeard : Try.prog.stopsHeard = true := by kernel_rfl

/-- What the types of one law give: closed facts on its parameters and its result. -/
def typeFacts (P : Program) (fn : Func) (s : ChangeSpec) (c : OpenClaim) : Bool :=
  fn.params.all (P.readableRec ·) && namedTie P c.named s.vars && (c.stops == []) && (c.knobs == []) &&
  (c.maps == (fn.params.toList ++ s.plain.varTypes P).any (P.mapsRec ·)) && (c.ifaces == (fn.params.toList ++ s.plain.varTypes P).any (P.ifacesRec ·)) && (c.mapsOut == P.mapsAmong fn.resultTypes.toList) &&
  (c.loops == (fn.params.toList ++ s.plain.varTypes P).any (P.loopsFrom ·)) && (c.wideKeys == (fn.params.toList ++ s.plain.varTypes P ++ fn.resultTypes.toList).any (P.wideKeysFrom ·)) &&
  s.vars.all (P.varReadable ·) && fn.resultTypes.all (fun t => P.readableRec t && decide (t < P.types.size)) && (c.ifacesOut == fn.resultTypes.toList.any (P.ifacesRec ·)) && (c.loopsOut == fn.resultTypes.toList.any (P.loopsFrom ·)) && c.shortTexts.isNone &&
  (c.kinds == (if c.domain.isEmpty then [] else fn.params.toList.map fun t => match P.underlying t with | some (.int k) => some k | _ => none)) && (c.pinned == c.pinnedBy) &&
  (c.veiled == (fn.params.toList ++ s.plain.varTypes P ++ fn.resultTypes.toList).any (P.veiledRec ·)) && c.veiledFits P fn.params.toList (fn.params.toList ++ s.plain.varTypes P ++ fn.resultTypes.toList)
theorem joined_all {P : Program} {f : FuncId} {fn : Func} {s : ChangeSpec} {c : OpenClaim} (k1 : c.wf (OpenSpec.ofChange s) = true) (kt : typeFacts P fn s c = true)
    (k10 : (c.inPlace == P.inPlace f) = true) (k11 : (c.unfollowed == P.unfollowed f) = true) (k12 : (c.recurses == P.recurses f) = true) (k13 : (c.named == P.varsNamed f) = true)
    (e2 : laidOutB P = true) (e3 : mapsRowed P = true) (e7 : (P.stops == []) = true) (e9 : (P.stopKnobs == []) = true) (e22 : (c.plainKeys == P.plainKeys) = true) (e23 : P.stopsHeard = true) (e24 : P.mayEnter = true)
    (e24b : (c.lifted == P.liftsFinal) = true) (e24c : (P.make == some c.make) = true) : joinedFacts P f fn s c = true := by
  unfold typeFacts at kt
  unfold joinedFacts
  simp only [Bool.and_eq_true] at kt ⊢
  obtain ⟨⟨⟨⟨⟨⟨⟨⟨⟨⟨⟨⟨⟨⟨⟨⟨⟨t1, t2⟩, t3⟩, t4⟩, t5⟩, t6⟩, t7⟩, t8⟩, t9⟩, t10⟩, t11⟩, t12⟩, t13⟩, t14⟩, t15⟩, t16⟩, t17⟩, t18⟩ := kt
  exact ⟨⟨⟨⟨⟨⟨⟨⟨⟨⟨⟨⟨⟨⟨⟨⟨⟨⟨⟨⟨⟨⟨⟨⟨⟨⟨⟨⟨⟨⟨⟨k1, e2⟩, e3⟩, t1⟩, t2⟩, t3⟩, e7⟩, t4⟩, e9⟩, k10⟩, k11⟩, k12⟩, k13⟩, t5⟩, t6⟩, t7⟩, t8⟩, t9⟩, t10⟩, t11⟩, t12⟩, t13⟩, e22⟩, t14⟩, e23⟩, e24⟩, e24b⟩, e24c⟩, t15⟩, t16⟩, t17⟩, t18⟩
theorem joined_of {f : FuncId} {fn : Func} {s : ChangeSpec} {c : OpenClaim} (k1 : c.wf (OpenSpec.ofChange s) = true) (kt : typeFacts Try.prog fn s c = true)
    (k10 : (c.inPlace == Try.prog.inPlace f) = true) (k11 : (c.unfollowed == Try.prog.unfollowed f) = true) (k12 : (c.recurses == Try.prog.recurses f) = true) (k13 : (c.named == Try.prog.varsNamed f) = true)
    (k22 : c.plainKeys = true) (k24b : c.lifted = false) (k24c : c.make = .cut) : joinedFacts Try.prog f fn s c = true :=
  joined_all k1 kt k10 k11 k12 k13 Try.laidOut Try.mapsRowed Try.stops Try.stopKnobs (by rw [k22, Try.plainKeys]; rfl) Try.stopsHeard Try.mayEnter (by rw [k24b, Try.liftsFinal]; rfl) (by rw [k24c, Try.make]; rfl)
end Go.Proofs.Ythddlpghjkiioaa
