/-
  Texts put together for the claims of 'PartsOfParty' (pack 3): Iter, Told, TiedP, Tz, Look, LookW, Tied, CountT, Table, Ties, Ties2, Has, Own, LRows.
-/
import Derived.Test.YtmiecebdkadhbaaPartsOfPartyP1
import Derived.Test.YtmiecebdkadhbaaPartsOfPartyP2
import Derived.RangeFuncNested
import Derived.RangeFuncBound
import Derived.RangeFuncCalls
import Derived.RangeFuncLeaves
import Derived.Shelf.Abstract
import Derived.Shelf.RegionOpen
import Derived.OwnWalkIn
import Derived.TacticsInMore
import Derived.LoopNIn
import Derived.LoopIn
import Derived.Deep.RegionLawGrows
import Derived.Laws.OwnMore
import Derived.Laws.BitsAllLaws
import Derived.Lib.TrailingZeros
import Derived.ScopeJumps
import Derived.WalkMore
import Derived.Laws.EntriesVeiled
import Derived.StillTailTactics
import Derived.Deep.DeepCutAuto
import Derived.ArgAppend
import Derived.Laws.AppendOwnNone
/-
  A RANGE OVER AN ITERATOR THAT WRITES CELLS OF ITS OWN BETWEEN TWO ROUNDS (and whose rounds read them): the contract of such an iterator ('Seq'), and the law of the statement. Nothing here speaks of the program.
-/
namespace Go.Proofs.Ytmiecebdkadhbaa
open Go.RowKit

/-- What lay is as it lay, but for blocks of S. -/
structure Apart (S : Nat → Prop) (A C : World) : Prop where
  below : Below 0 A C
  same : ∀ j, j < A.heap.size → ¬ S j → C.heap[j]? = A.heap[j]?
/-- The blocks of S are as they were. -/
structure Stays (S : Nat → Prop) (A C : World) : Prop where
  below : Below 0 A C
  same : ∀ j, j < A.heap.size → S j → C.heap[j]? = A.heap[j]?
theorem Apart.refl (S : Nat → Prop) (A : World) : Apart S A A := ⟨Below.refl _ _, fun _ _ _ => rfl⟩
theorem Apart.mono {S S' : Nat → Prop} {A C : World} (h : Apart S A C) (hS : ∀ j, S j → S' j) : Apart S' A C := ⟨h.below, fun j hj hn => h.same j hj fun hs => hn (hS j hs)⟩
theorem Stays.mono {S S' : Nat → Prop} {A C : World} (h : Stays S A C) (hS : ∀ j, S' j → S j) : Stays S' A C := ⟨h.below, fun j hj hs => h.same j hj (hS j hs)⟩
theorem Stays.refl (S : Nat → Prop) (A : World) : Stays S A A := ⟨Below.refl _ _, fun _ _ _ => rfl⟩
theorem Stays.trans {S : Nat → Prop} {A C D : World} (h : Stays S A C) (k : Stays S C D) : Stays S A D :=
  ⟨h.below.trans k.below, fun j hj hs => (k.same j (Nat.lt_of_lt_of_le hj h.below.size) hs).trans (h.same j hj hs)⟩
theorem Apart.trans {S S' : Nat → Prop} {A C D : World} (h : Apart S A C) (k : Apart S' C D) (hS : ∀ j, S' j → S j ∨ A.heap.size ≤ j) : Apart S A D :=
  ⟨h.below.trans k.below, fun j hj hn => (k.same j (Nat.lt_of_lt_of_le hj h.below.size) (fun hs => by rcases hS j hs with h' | h'; exact hn h'; omega)).trans (h.same j hj hn)⟩
theorem Apart.putObj (W : World) (l : Nat) (o : Obj) : Apart (fun j => j = l) W (W.putObj l o) :=
  ⟨(Below.refl 0 W).grown (grownBy_putObj' W l o) (Nat.zero_le _) (fun k _ => Nat.zero_le k), fun _ _ hn => World.putObj_heap_other hn⟩
theorem Apart.alloc (S : Nat → Prop) (W : World) (o : Obj) : Apart S W (W.alloc o) := ⟨(Below.refl 0 W).alloc (Nat.zero_le _) o, fun j hj _ => Below.heap_alloc W o j hj⟩
theorem Stays.alloc (S : Nat → Prop) (W : World) (o : Obj) : Stays S W (W.alloc o) := ⟨(Below.refl 0 W).alloc (Nat.zero_le _) o, fun j hj _ => Below.heap_alloc W o j hj⟩
theorem Stays.putObj {S : Nat → Prop} {l : Nat} (hl : ¬ S l) (W : World) (o : Obj) : Stays S W (W.putObj l o) :=
  ⟨(Below.refl 0 W).grown (grownBy_putObj' W l o) (Nat.zero_le _) (fun k _ => Nat.zero_le k), fun _ _ hs => World.putObj_heap_other fun e => hl (e ▸ hs)⟩
theorem Stays.setCell {S : Nat → Prop} {p : Addr} (hl : ¬ S p.block) (W : World) (u : Value) : Stays S W (W.setCell p u) :=
  ⟨(Below.refl 0 W).setCell (Nat.zero_le _) u, fun j _ hs => Below.heap_setCell W p u j fun e => hl (e ▸ hs)⟩
theorem Apart.grown {S : Nat → Prop} {W W' : World} {row : Option Nat} (hg : W.grownBy W' row) (h : ∀ k, row = some k → S k) : Apart S W W' :=
  ⟨(Below.refl 0 W).grown hg (Nat.zero_le _) (fun k _ => Nat.zero_le k), fun j hj hn => hg.block j hj fun e => hn (h j e.symm)⟩
theorem Stays.grown {S : Nat → Prop} {W W' : World} {row : Option Nat} (hg : W.grownBy W' row) (h : ∀ k, row = some k → ¬ S k) : Stays S W W' :=
  ⟨(Below.refl 0 W).grown hg (Nat.zero_le _) (fun k _ => Nat.zero_le k), fun j hj hs => hg.block j hj fun e => h j e.symm hs⟩
theorem Stays.of_below {S : Nat → Prop} {W W' : World} (h : Below W.heap.size W W') : Stays S W W' := ⟨h.mono (Nat.zero_le _), fun j hj _ => h.block j hj⟩
theorem Apart.of_below {S : Nat → Prop} {W W' : World} (h : Below W.heap.size W W') : Apart S W W' := ⟨h.mono (Nat.zero_le _), fun j hj _ => h.block j hj⟩
theorem Apart.cell {S : Nat → Prop} {A C : World} (h : Apart S A C) {p : Addr} {v : Value} (hc : A.cell? p = some v) (hn : ¬ S p.block) : C.cell? p = some v :=
  (World.cell?_of_block (h.same p.block (World.block_lt_of_cell? A p hc) hn)).trans hc
theorem Apart.frozen {S : Nat → Prop} {A C : World} (h : Apart S A C) {p : Addr} {v : Value} (hc : A.cell? p = some v) (hn : ¬ S p.block) : C.frozen? p = A.frozen? p :=
  World.frozen?_of_block (h.same p.block (World.block_lt_of_cell? A p hc) hn)
theorem Stays.cell {S : Nat → Prop} {A C : World} (h : Stays S A C) {p : Addr} {v : Value} (hc : A.cell? p = some v) (hn : S p.block) : C.cell? p = some v :=
  (World.cell?_of_block (h.same p.block (World.block_lt_of_cell? A p hc) hn)).trans hc
theorem Apart.below_of {S : Nat → Prop} {A C : World} (h : Apart S A C) {B : Nat} (hB : B ≤ A.heap.size) (hS : ∀ j, S j → B ≤ j) : Below B A C :=
  ⟨h.below.os, h.below.tape, h.below.output, h.below.size, fun k hk => h.same k (by omega) fun hs => by have := hS k hs; omega⟩

theorem roundIn_any {m m' : Nat} {P : Program} {l : Nat} {f : FuncId} {tmps : Array Value} {assign body : Code} {w : World} {R : Ending → World → Prop}
    (h : RoundIn Fence.wide m P l f tmps assign body w R) : RoundIn Fence.wide m' P l f tmps assign body w R := ⟨h.1, fun c cs _ => h.2 c cs (room_wide _)⟩
theorem yield_any {m m' : Nat} {P : Program} {l : Nat} {args : Array Value} {W : World} {R : Ending → World → Prop} (h : YieldAt Fence.wide m P l args W R) : YieldAt Fence.wide m' P l args W R := by
  obtain ⟨fn, tmps, assign, body, hy, hR⟩ := h
  exact ⟨fn, tmps, assign, body, hy, roundIn_any hR⟩

/-- What is held between two rounds abides whatever turns blocks that are not the holder's own. -/
def Held {α : Type} (J : (Nat → Prop) → List α → World → Prop) : Prop :=
  ∀ T T' pre A C, J T pre A → Apart T A C → (∀ j, T' j → T j ∨ (A.heap.size ≤ j ∧ j < C.heap.size)) → J T' pre C

/-- THE ITERATOR's CONTRACT: all of xs come, one after the other; or a round has said 'no more' behind some of them. 'Rd T x args W': what a round is handed, and what it may read of the iterator's own blocks T; R: other blocks that a round keeps. -/
def Seq {α : Type} (P : Program) (g : Nat) (lb : Array Value) (R : Nat → Prop) (Rd : (Nat → Prop) → α → Array Value → World → Prop) (xs : List α) (w0 : World) : Prop :=
  ∀ (l : Nat) (J Jx : (Nat → Prop) → List α → World → Prop) (W : World), Below w0.heap.size w0 W → Held J →
    (∀ T pre x args W1, J T pre W1 → Rd T x args W1 → pre ++ [x] <+: xs → YieldAt Fence.wide 0 P l args W1 fun e W' =>
      (e = .returned (.bool true) ∧ J T (pre ++ [x]) W' ∧ Stays (fun j => T j ∨ R j) W1 W') ∨ (e = .returned (.bool false) ∧ Jx T (pre ++ [x]) W')) →
    J (fun _ => False) [] W →
    Calls P g (#[.func (.yield l) #[] #[]] ++ lb) W fun e W' => (∃ v, e = .returned v) ∧ ((∃ T, J T xs W') ∨ (∃ T pre x, pre ++ [x] <+: xs ∧ Jx T (pre ++ [x]) W'))

/-- HOW THE BODY OF A ROUND MAY BE LEFT. -/
def iterPost {α : Type} (B : Nat) (S R : Nat → Prop) (I : (Nat → Prop) → List α → World → Prop) (Ix : Code → List α → World → Prop) (xs : List α) (W : World) : Exit → Act → World → Prop
  | .normal, _, W' => Stays (fun j => S j ∨ R j) W W' ∧ I S xs W'
  | .ret, _, W' => Stays (fun j => B ≤ j ∧ j ≤ B + 1) W W' ∧ Ix .ret xs W'
  | .exit id, _, W' => Stays (fun j => B ≤ j ∧ j ≤ B + 1) W W' ∧ Ix (.exit id) xs W'
  | .goto t, _, W' => Stays (fun j => B ≤ j ∧ j ≤ B + 1) W W' ∧ Ix (.goto t) xs W'
  | .panic _, _, _ => False
  | .outgrown, _, _ => False

variable {P : Program}
theorem wpIn_rangeFunc_iter {α : Type} {n : Nat} {g : Operand} {ps : Array Tmp} {assign body : Code} {Q : Exit → Act → World → Prop} {a : Act} {w : World}
    {gf : Nat} {lb : Array Value} (hg : a.eval g = .func (.func gf) #[] lb) (eg : ∀ args w, (callFunc gf args).run P w = .ok (.enter gf args) w)
    {R : Nat → Prop} {Rd : (Nat → Prop) → α → Array Value → World → Prop} {xs : List α} {w0 : World} (hseq : Seq P gf lb R Rd xs w0) (hb0 : Below w0.heap.size w0 w) (hR : ∀ j, R j → j < w.heap.size)
    (hRd : ∀ T x args A C, Rd T x args A → Stays T A C → Rd T x args C) (hps : ∀ T x args W, Rd T x args W → args.size = ps.size)
    (I : (Nat → Prop) → List α → World → Prop) (Ix : Code → List α → World → Prop) (hI : Held I) (hIx : ∀ c pre A C, Ix c pre A → Apart (fun j => j = w.heap.size + 1) A C → Ix c pre C)
    (h0 : I (fun _ => False) [] w) (a₁ : Array Value → Act)
    (hassign : ∀ (l : Nat) (T : Nat → Prop) (x : α) (args : Array Value) (W : World) (K : Act → World → Prop), Rd T x args W → K (a₁ args) W →
      assign.wpIn (Fence.wide.inRound l) n P (Exit.then K (fun _ _ _ => False)) { tmps := (ps.zip args).foldl (fun t (p, v) => t.setIfInBounds p v) a.tmps, defers := [] } W)
    (hbody : ∀ (l : Nat) (T S : Nat → Prop) (pre : List α) (x : α) (args : Array Value) (W : World), I S pre W → Rd T x args W → (∀ j, T j → S j) →
      body.wpIn (Fence.wide.inRound l) n P (iterPost w.heap.size S R I Ix (pre ++ [x]) W) (a₁ args) W)
    (hdone : ∀ (S : Nat → Prop) (W : World), I S xs W → W.heap[w.heap.size]? = some (.deferred (some [])) → Q .normal { a with defers := { target := .collected w.heap.size, args := #[] } :: a.defers } W)
    (hstop : ∀ (c : Code) (pre : List α) (x : α) (W : World), pre ++ [x] <+: xs → Ix c (pre ++ [x]) W → W.heap[w.heap.size]? = some (.deferred (some [])) → c.wpIn Fence.wide n P Q { a with defers := { target := .collected w.heap.size, args := #[] } :: a.defers } W) :
    (Code.rangeFunc g ps assign body).wpIn Fence.wide n P Q a w := by
  refine wpIn_rangeFunc ?_
  intro fn hfn
  rw [show Fence.wide.round = none from rfl]
  obtain ⟨rec, hrec⟩ : ∃ rec : LoopState → Option Code → Loop, rec = fun st pe => { state := st, pending := pe, fn, tmps := a.tmps, params := ps, assign, body, defers := w.heap.size } := ⟨_, rfl⟩
  obtain ⟨W1, hW1⟩ : ∃ W1, (w.alloc (.deferred (some []))).alloc (.loop (rec .ready none)) = W1 := ⟨_, rfl⟩
  have hL1 : W1.heap[w.heap.size + 1]? = some (.loop (rec .ready none)) := by
    rw [← hW1]; have := World.alloc_heap_new (w.alloc (.deferred (some []))) (.loop (rec .ready none)); rwa [World.size_alloc] at this
  have hK1 : W1.heap[w.heap.size]? = some (.deferred (some [])) := by
    rw [← hW1]; exact (Below.heap_alloc _ _ _ (by simp)).trans (World.alloc_heap_new w _)
  have hw1 : Below w.heap.size w W1 := by rw [← hW1]; exact (((Below.refl _ w).alloc (Nat.le_refl _) _).alloc (by simp) _)
  have hb1 : Below w0.heap.size w0 W1 := hb0.trans (hw1.mono hb0.size)
  have hz1 : W1.heap.size = w.heap.size + 2 := by rw [← hW1]; simp
  have hI1 : I (fun j => j = w.heap.size ∨ j = w.heap.size + 1) [] W1 := hI _ _ _ _ _ h0 (Apart.of_below hw1) (fun j hj => .inr (by omega))
  refine ⟨w.heap.size + 1, [{ target := .collected w.heap.size, args := #[] }], W1, { target := .fn (.func gf) lb, args := #[.func (.yield (w.heap.size + 1)) #[] #[]] }, W1, gf,
    #[.func (.yield (w.heap.size + 1)) #[] #[]] ++ lb, W1, ?_, ?_, ?_, ?_, fun h => (by cases h), ?_⟩
  · rw [← hW1, hrec]; exact run_enterLoop_outer _ _ _ _ _
  · simp only [resolve, hg]
    simp [go_sem]
  · intro f' hf'; trivial
  · simp [invoke, go_sem, eg]
  · refine callsIn_wide.2 ?_
    refine (hseq (w.heap.size + 1)
      (fun T pre W => I (fun j => T j ∨ j = w.heap.size ∨ j = w.heap.size + 1) pre W ∧ (∀ j, T j → w.heap.size + 2 ≤ j) ∧ W.heap[w.heap.size + 1]? = some (.loop (rec .ready none)) ∧ W.heap[w.heap.size]? = some (.deferred (some [])))
      (fun T pre W => ∃ c, Ix c pre W ∧ W.heap[w.heap.size + 1]? = some (.loop (rec .done (some c))) ∧ W.heap[w.heap.size]? = some (.deferred (some [])))
      W1 hb1 ?held ?round ⟨hI _ _ _ _ _ hI1 (Apart.refl _ _) (fun j hj => by rcases hj with h | h; exact h.elim; exact .inl h), fun j h => h.elim, hL1, hK1⟩).mono ?_
    case held =>
      rintro T T' pre A C ⟨hi, hT, hl, hk⟩ hA hT'
      have hlt : w.heap.size + 1 < A.heap.size := (Array.getElem?_eq_some_iff.1 hl).1
      refine ⟨hI _ _ _ _ _ hi (hA.mono fun j hj => .inl hj) (fun j hj => ?_), fun j hj => ?_, (hA.same _ hlt (fun h => by have := hT _ h; omega)).trans hl, (hA.same _ (by omega) (fun h => by have := hT _ h; omega)).trans hk⟩
      · rcases hj with hj | hj
        · rcases hT' j hj with h | h
          · exact .inl (.inl h)
          · exact .inr h
        · exact .inl (.inr hj)
      · rcases hT' j hj with h | h
        · exact hT j h
        · omega
    case round =>
      rintro T pre x args W ⟨hi, hT, hl, hk⟩ hrd _
      have hlt : w.heap.size + 1 < W.heap.size := (Array.getElem?_eq_some_iff.1 hl).1
      have hnT : ¬ T (w.heap.size + 1) := fun h => by have := hT _ h; omega
      have hnR : ¬ (T (w.heap.size + 1) ∨ R (w.heap.size + 1)) := fun h => by rcases h with h | h; exact hnT h; have := hR _ h; omega
      have hy := run_yield (P := P) (args := args) hl (by rw [hrec]; exact hps T x args W hrd)
      rw [hrec] at hy
      refine yield_any (m := n + 1) ⟨fn, _, assign, body, hy, roundIn_any (m := n) (roundIn_of_wpIn hfn (hassign _ T x args W _ hrd ⟨_, run_beginRound hl (by rw [hrec]), ?_⟩))⟩
      have hl2 : (W.putObj (w.heap.size + 1) (.loop { rec .ready none with state := .busy })).heap[w.heap.size + 1]? = some (.loop { rec .ready none with state := .busy }) := World.putObj_heap_same hlt
      have hk2 : (W.putObj (w.heap.size + 1) (.loop { rec .ready none with state := .busy })).heap[w.heap.size]? = some (.deferred (some [])) := (World.putObj_heap_other (by omega)).trans hk
      have hi2 := hI _ _ _ _ _ hi ((Apart.putObj W (w.heap.size + 1) (.loop { rec .ready none with state := .busy })).mono fun j hj => .inr (.inr hj)) (fun j hj => .inl hj)
      have hst := Stays.putObj (S := fun j => T j ∨ R j) hnR W (.loop { rec .ready none with state := .busy })
      have hlz := (Array.getElem?_eq_some_iff.1 hl2).1
      have hkz := (Array.getElem?_eq_some_iff.1 hk2).1
      refine wpIn_mono (hbody _ T _ pre x args _ hi2 (hRd _ _ _ _ _ hrd (hst.mono fun j hj => .inl hj)) fun j hj => .inl hj) ?_
      have fin : ∀ (jump : Option Code) (W3 : World), W3.heap[w.heap.size + 1]? = some (.loop { rec .ready none with state := .busy }) → W3.heap[w.heap.size]? = some (.deferred (some [])) →
          (Instr.endRound (w.heap.size + 1) jump).run P W3 = .ok (.bool jump.isNone) (W3.putObj (w.heap.size + 1) (.loop (rec (if jump.isNone then .ready else .done) jump))) ∧
          (W3.putObj (w.heap.size + 1) (.loop (rec (if jump.isNone then .ready else .done) jump))).heap[w.heap.size + 1]? = some (.loop (rec (if jump.isNone then .ready else .done) jump)) ∧
          (W3.putObj (w.heap.size + 1) (.loop (rec (if jump.isNone then .ready else .done) jump))).heap[w.heap.size]? = some (.deferred (some [])) := fun jump W3 hl3 hk3 => by
        have := run_endRound (P := P) jump hl3
        rw [hrec] at this ⊢
        exact ⟨this, World.putObj_heap_same (Array.getElem?_eq_some_iff.1 hl3).1, (World.putObj_heap_other (by omega)).trans hk3⟩
      rintro e a3 W3 hp
      cases e with
      | normal =>
        obtain ⟨hs3, hi3⟩ := hp
        have hl3 := (hs3.same (w.heap.size + 1) hlz (.inl (.inr (.inr rfl)))).trans hl2
        have hk3 := (hs3.same w.heap.size hkz (.inl (.inr (.inl rfl)))).trans hk2
        obtain ⟨hr, hl4, hk4⟩ := fin none W3 hl3 hk3
        refine ⟨_, _, hr, .inl ⟨rfl, ⟨hI _ _ _ _ _ hi3 ((Apart.putObj W3 _ _).mono fun j hj => .inr (.inr hj)) (fun j hj => .inl hj), hT, hl4, hk4⟩, ?_⟩⟩
        exact (hst.trans (hs3.mono fun j hj => hj.elim (fun h => .inl (.inl h)) .inr)).trans (Stays.putObj (S := fun j => T j ∨ R j) hnR W3 _)
      | ret =>
        obtain ⟨hs3, hi3⟩ := hp
        obtain ⟨hr, hl4, hk4⟩ := fin (some .ret) W3 ((hs3.same (w.heap.size + 1) hlz (by omega)).trans hl2) ((hs3.same w.heap.size hkz (by omega)).trans hk2)
        exact ⟨_, _, hr, .inr ⟨rfl, .ret, hIx _ _ _ _ hi3 (Apart.putObj W3 _ _), hl4, hk4⟩⟩
      | exit id =>
        obtain ⟨hs3, hi3⟩ := hp
        obtain ⟨hr, hl4, hk4⟩ := fin (some (.exit id)) W3 ((hs3.same (w.heap.size + 1) hlz (by omega)).trans hl2) ((hs3.same w.heap.size hkz (by omega)).trans hk2)
        exact ⟨_, _, hr, .inr ⟨rfl, .exit id, hIx _ _ _ _ hi3 (Apart.putObj W3 _ _), hl4, hk4⟩⟩
      | goto t =>
        obtain ⟨hs3, hi3⟩ := hp
        obtain ⟨hr, hl4, hk4⟩ := fin (some (.goto t)) W3 ((hs3.same (w.heap.size + 1) hlz (by omega)).trans hl2) ((hs3.same w.heap.size hkz (by omega)).trans hk2)
        exact ⟨_, _, hr, .inr ⟨rfl, .goto t, hIx _ _ _ _ hi3 (Apart.putObj W3 _ _), hl4, hk4⟩⟩
      | panic ch => exact hp.elim
      | outgrown => exact hp.elim
    · rintro e W2 ⟨⟨v, rfl⟩, (⟨T, hi, hT, hl, hk⟩ | ⟨T, pre, x, hpre, c, hi, hl, hk⟩)⟩
      · exact ⟨none, _, by have := run_endLoop (P := P) hl (by rw [hrec]; simp); rw [hrec] at this; exact this, hdone _ _ (hI _ _ _ _ _ hi ((Apart.putObj W2 _ _).mono fun j hj => .inr (.inr hj)) (fun j hj => .inl hj)) ((World.putObj_heap_other (by omega)).trans hk)⟩
      · exact ⟨some c, _, by have := run_endLoop (P := P) hl (by rw [hrec]; simp); rw [hrec] at this; exact this, hstop c pre x _ hpre (hIx _ _ _ _ hi (Apart.putObj W2 _ _)) ((World.putObj_heap_other (by omega)).trans hk)⟩
end Go.Proofs.Ytmiecebdkadhbaa
/-
  A LIST OF NUMBERS THAT GROWS BY ONE WHILE THE SHORTER ONE IS STILL READ: 'append(told, a)' at a step of a region that draws its order.
-/
namespace Go.Proofs.Ytmiecebdkadhbaa
open Go.RowKit

/-- a list of numbers in a block of its own, which may have room behind -/
abbrev World.told (w : World) (A : Option Addr) (c : Nat) (l : List Int) : Prop := w.ownsRow 0 3 1 (.slice A l.length c) l.length (icells l)
/-- one more: the shorter list still stands; the longer lies in its block or in a new one -/
structure Grew (w w' : World) (A A' : Option Addr) (c c' : Nat) (l : List Int) (x : Int) : Prop where
  new : World.told w' A' c' (l ++ [x])
  old : World.told w' A c l
  grow : w.grownBy w' (Value.slice A l.length c).ownBlock
  same : A' = A ∧ c' = c ∧ A ≠ none ∨ w.grownBy w' none ∧ ∃ g, A' = some ⟨g, 0, none⟩ ∧ w.heap.size ≤ g
theorem told_front {w : World} {A : Option Addr} {c : Nat} {l : List Int} {x : Int} (h : World.told w A c (l ++ [x])) (hA : A ≠ none) : World.told w A c l := by
  rcases h.2 with ⟨hv, _⟩ | ⟨g, cap, cur, hv, hb, hg, hn, hm, hs, ht⟩
  · simp only [Value.slice.injEq] at hv
    exact absurd hv.1 hA
  · simp only [Value.slice.injEq] at hv
    obtain ⟨rfl, _, rfl⟩ := hv
    refine ⟨by simp [icells], .inr ⟨g, c, cur, rfl, hb, hg, ?_, hm, hs, ?_⟩⟩
    · rw [List.length_append] at hn; simp at hn; omega
    · have e := congrArg (List.take (l.length * 1)) ht
      rw [List.take_take, icells_append] at e
      rw [Nat.min_eq_left (by rw [List.length_append]; simp)] at e
      rw [e, Nat.mul_one]
      have : (icells l).length = l.length := icells_length l
      rw [← this, List.take_left]
theorem told_own {A : Option Addr} {c : Nat} {l : List Int} {g : Nat} (hA : A = some ⟨g, 0, none⟩) : (Value.slice A l.length c).ownBlock = some g := by rw [hA]; rfl

theorem step_append_told {ops : Array Oper} {o : Oper} {a : Act} {w : World} {K : Act → World → Prop} {Q : Exit → Act → World → Prop} {E : Prop}
    (hgd : o.guard = none) (s x : Operand) (ho : o.op = .call { callee := .builtin .append, args := #[s, x], argTypes := #[25, 25] })
    (A : Option Addr) (c : Nat) (l : List Int) (y : Int) (hs : a.eval s = .slice A l.length c) (hown : World.told w A c l)
    (ad : Addr) (hx : a.eval x = .slice (some ad) 1 1) (hcell : ∀ j u, [Value.int .i64 y][j]? = some u → w.cell? (ad.add j) = some u) (hlen : l.length ≤ 1000)
    (h : ∀ A' c' w', Grew w w' A A' c c' l y → K (a.put o.dst (.slice A' (l.length + 1) c')) w') :
    if Region.wanted o (yielded ops a.tmps) = true then Oper.wp Try.prog o a w K Q else E := by
  obtain ⟨i0, hi, hz0, hz1, hz2⟩ := info_parts Try.infoInt
  have hone : ∀ u ∈ [Value.int .i64 y], u.oneCell' = true := one_one rfl
  have hll : (l ++ [y]).length = l.length + 1 := by simp
  by_cases hroom : l.length + 1 ≤ c
  · have hw : Region.wanted o (yielded ops a.tmps) = true := by simp [Region.wanted, hgd]
    rw [if_pos hw]
    rcases hown.2 with ⟨hv, _⟩ | ⟨g, cap, cur, hv, hb, hg, hn, hm, hsz, ht⟩
    · simp only [Value.slice.injEq] at hv
      omega
    · simp only [Value.slice.injEq] at hv
      obtain ⟨rfl, _, rfl⟩ := hv
      obtain ⟨w', hrun, r1, r2⟩ := run_append_fits (P := Try.prog) w 0 25 o.type 3 i0 1 Try.underlying25 hi hz1 g l.length c (icells l) hown ad 1 1 [.int .i64 y] rfl hcell hone hroom
      unfold Oper.wp
      simp [execOp, ho, resolve, invoke, builtin, hs, hx, hrun, Result.andThen]
      have r3 : World.told w' (some ⟨g, 0, none⟩) c (l ++ [y]) := by rw [World.told, hll, icells_append]; exact r1
      exact h _ _ w' ⟨r3, told_front r3 (by simp), r2, .inl ⟨rfl, rfl, by simp⟩⟩
  · refine step_append_grows hgd s x 25 ho 3 i0 _ 1 8 Try.underlying25 hi hz0 hz1 hz2 rfl (by decide) A l.length c (icells l) hs ?_ (by simp [icells]) ?_ ad 1 1 [.int .i64 y] hx rfl hcell hone (by omega) (by unfold maxLen; omega) (by omega) ?_
    · intro e
      rcases hown.2 with ⟨hv, h0⟩ | ⟨g, cap, cur, hv, _⟩
      · simp only [Value.slice.injEq] at hv
        exact ⟨hv.2.1, hv.2.2⟩
      · simp [e] at hv
    · intro b e j u hj
      obtain ⟨b', off, e', _, hc⟩ := (CRead.of_own hown) j u hj
      rw [e] at e'
      simp only [Option.some.injEq] at e'
      rw [e', Addr.add_lit]
      exact hc
    · intro v' w' r1 r2
      obtain ⟨A', c', rfl, _⟩ := own_shape r1
      obtain ⟨g, hgA⟩ := own_form r1 (by omega)
      have hlt := (own_lower r1 (Nat.zero_le _))
      refine h A' c' w' ⟨by rw [World.told, hll, icells_append]; exact hlt, hown.kept r2 (by cases (Value.slice A l.length c).ownBlock <;> simp), ⟨r2.os, r2.tape, r2.output, r2.size, fun k hk _ => r2.block k hk (by simp)⟩, .inr ⟨r2, g, hgA, ?_⟩⟩
      subst hgA
      exact (own_lt r1).1
end Go.Proofs.Ytmiecebdkadhbaa
/-
  LISTS OF PEOPLE WHO ARE TIED, TWO AND TWO, as plain lists; sets of people as numbers of sixteen bits. Nothing here speaks of the program.
-/
namespace Go.Proofs.Ytmiecebdkadhbaa
open Go.RowKit

/-- the lists of so many more of the candidates behind those told, in order; every candidate is tied to all told -/
def listsC (t : Nat → Nat → Bool) : Nat → List Int → List Nat → List (List Int)
  | 0, told, _ => [told]
  | _ + 1, _, [] => []
  | k + 1, told, a :: cs => listsC t k (told ++ [(a : Int)]) (cs.filter (t a)) ++ listsC t (k + 1) told cs
termination_by k _ cs => (k, cs.length)
theorem listsC_zero (t : Nat → Nat → Bool) (told : List Int) (cs : List Nat) : listsC t 0 told cs = [told] := by cases cs <;> simp [listsC]
theorem listsC_nil (t : Nat → Nat → Bool) (k : Nat) (told : List Int) : listsC t (k + 1) told [] = [] := by simp [listsC]
theorem listsC_cons (t : Nat → Nat → Bool) (k : Nat) (told : List Int) (a : Nat) (cs : List Nat) :
    listsC t (k + 1) told (a :: cs) = listsC t k (told ++ [(a : Int)]) (cs.filter (t a)) ++ listsC t (k + 1) told cs := by rw [listsC]

/-- a number's bits are those of a rising list -/
structure IsSet (J : Nat) (cs : List Nat) : Prop where
  up : cs.Pairwise (· < ·)
  lt : ∀ b ∈ cs, b < 16
  mem : ∀ b, J.testBit b = true ↔ b ∈ cs
theorem IsSet.small {J : Nat} {cs : List Nat} (h : IsSet J cs) : J < 65536 := by
  refine Nat.lt_pow_two_of_testBit (n := 16) J fun i hi => ?_
  cases e : J.testBit i with
  | false => rfl
  | true => have := h.lt i ((h.mem i).1 e); omega
theorem IsSet.zero {J : Nat} (h : IsSet J []) : J = 0 := by
  refine Nat.eq_of_testBit_eq fun i => ?_
  rw [Nat.zero_testBit]
  cases e : J.testBit i with
  | false => rfl
  | true => have := (h.mem i).1 e; simp at this
theorem IsSet.pos {J a : Nat} {cs : List Nat} (h : IsSet J (a :: cs)) : J ≠ 0 := by
  intro e
  have := (h.mem a).2 List.mem_cons_self
  rw [e, Nat.zero_testBit] at this
  cases this
theorem IsSet.least {J a : Nat} {cs : List Nat} (h : IsSet J (a :: cs)) : Lib.ctz 16 J = a := by
  have hp := h.pos
  have hs := h.small
  obtain ⟨m, hm, hk⟩ := Lib.ctzFrom_spec 16 J (by omega) hs
  have e : Lib.ctz 16 J = Lib.ctzFrom 16 J := by simp [Lib.ctz, hp]
  rw [e]
  generalize Lib.ctzFrom 16 J = c at *
  have hb : ∀ b, J.testBit b = (decide (c ≤ b) && (2 * m + 1).testBit (b - c)) := fun b => by rw [hm, Nat.testBit_two_pow_mul]
  have h1 : J.testBit c = true := by rw [hb]; simp
  have h2 := (h.mem c).1 h1
  have h3 := (h.mem a).2 List.mem_cons_self
  rw [hb] at h3
  have h4 : c ≤ a := by simp only [Bool.and_eq_true, decide_eq_true_eq] at h3; exact h3.1
  rcases List.mem_cons.1 h2 with h5 | h5
  · exact h5
  · have := (List.pairwise_cons.1 h.up).1 c h5
    omega
theorem bit_off : ∀ a : Fin 16, ∀ b : Fin 16, (65535 - 2 ^ a.val).testBit b.val = decide (b.val ≠ a.val) := by decide
theorem IsSet.tail {J a : Nat} {cs : List Nat} (h : IsSet J (a :: cs)) : IsSet (J &&& (65535 - 2 ^ a)) cs := by
  have ha := h.lt a List.mem_cons_self
  have hp := List.pairwise_cons.1 h.up
  refine ⟨hp.2, fun b hb => h.lt b (List.mem_cons_of_mem _ hb), fun b => ?_⟩
  rw [Nat.testBit_and, Bool.and_eq_true, h.mem, List.mem_cons]
  constructor
  · rintro ⟨h1, h2⟩
    rcases h1 with rfl | h1
    · have := bit_off ⟨b, ha⟩ ⟨b, ha⟩
      simp only [ne_eq, not_true_eq_false, decide_false] at this
      rw [this] at h2
      cases h2
    · exact h1
  · intro hb
    have hb16 := h.lt b (List.mem_cons_of_mem _ hb)
    have := hp.1 b hb
    refine ⟨.inr hb, ?_⟩
    rw [bit_off ⟨a, ha⟩ ⟨b, hb16⟩]
    simp only [ne_eq, decide_eq_true_eq]
    omega
theorem IsSet.inter {J T : Nat} {cs : List Nat} {f : Nat → Bool} (h : IsSet J cs) (hT : ∀ b, b < 16 → T.testBit b = f b) : IsSet (J &&& T) (cs.filter f) := by
  refine ⟨h.up.filter _, fun b hb => h.lt b (List.mem_filter.1 hb).1, fun b => ?_⟩
  rw [Nat.testBit_and, Bool.and_eq_true, h.mem, List.mem_filter]
  constructor
  · rintro ⟨h1, h2⟩
    rw [hT b (h.lt b h1)] at h2
    exact ⟨h1, h2⟩
  · rintro ⟨h1, h2⟩
    exact ⟨h1, by rw [hT b (h.lt b h1)]; exact h2⟩
theorem IsSet.people {n : Nat} (hn : n ≤ 16) : IsSet (2 ^ n - 1) (List.range n) := by
  refine ⟨List.pairwise_lt_range, fun b hb => by have := List.mem_range.1 hb; omega, fun b => ?_⟩
  rw [Nat.testBit_two_pow_sub_one, decide_eq_true_eq, List.mem_range]
end Go.Proofs.Ytmiecebdkadhbaa
/-
  math/bits.TrailingZeros16 by its contract, where the library's table lies as its initialiser lays it.
-/
namespace Go.Proofs.Ytmiecebdkadhbaa
open Go.RowKit

def sliceLen : Value → Nat | .slice _ n _ => n | _ => 0
/-- The table in its variable (block 0). -/
def TabW (w : World) : Prop := ∀ j, j < 32 → w.cell? ⟨0, j, none⟩ = some (.int .u8 (Lib.deBruijn32tab.getD j 0))
theorem TabW.below {B : Nat} {w w' : World} (h : TabW w) (hb : Below B w w') (hB : 0 < B) : TabW w' := fun j hj => (hb.cell (p := ⟨0, j, none⟩) hB).trans (h j hj)
theorem TabW.pos {w : World} (h : TabW w) : 0 < w.heap.size := World.block_lt_of_cell? w _ (h 0 (by omega))

theorem tz16_key (x a : Nat) (hx : x < 65536) (hx0 : x ≠ 0) (hlow : x &&& (65536 - x) = 2 ^ a) (ha : a < 16) :
    bits BinOp.and IntKind.u16 (x : Int) (IntKind.u16.wrap (-(x : Int))) % 4294967296 * 125613361 % 4294967296 / 134217728 = ((2 ^ a * 125613361 % 4294967296 / 134217728 : Nat) : Int) := by
  have e1 : IntKind.u16.wrap (-(x : Int)) = ((65536 - x : Nat) : Int) := by rw [IntKind.wrap_u16]; omega
  have h2 : 2 ^ a < 2 ^ 16 := Nat.pow_lt_pow_right (by omega) ha
  rw [show (2 : Nat) ^ 16 = 65536 from rfl] at h2
  rw [e1, u16_and_nat x _ hx (by omega), hlow]
  omega

end Go.Proofs.Ytmiecebdkadhbaa
/-
  THE PROGRAM's RECURSIVE CLOSURE THAT GOES THROUGH THE LISTS OF PEOPLE WHO ARE TIED ('look' in 'allTied'), by its contract: induction on how many are still to come.
-/
namespace Go.Proofs.Ytmiecebdkadhbaa
open Go.RowKit

theorem told_kept {w w' : World} {A : Option Addr} {c : Nat} {l : List Int} (h : World.told w A c l) (hk : ∀ k, (Value.slice A l.length c).ownBlock = some k → w'.heap[k]? = w.heap[k]?) : World.told w' A c l := by
  refine ⟨h.1, ?_⟩
  rcases h.2 with h' | ⟨g, cap, cur, hv, hb, hg, rest⟩
  · exact .inl h'
  · exact .inr ⟨g, cap, cur, hv, hb, (hk g (by rw [hv]; rfl)).trans hg, rest⟩

/-- All lists have come. -/
structure LookYes (J : (Nat → Prop) → List (List Int) → World → Prop) (R S : Nat → Prop) (A : Option Addr) (c : Nat) (l : List Int) (xs : List (List Int)) (W W' : World) : Prop where
  ex : ∃ S', J S' xs W' ∧ (∀ j, S j → S' j) ∧ (∀ j, S' j → S j ∨ W.heap.size ≤ j)
  below : Below 0 W W'
  ro : ∀ j, R j → W'.heap[j]? = W.heap[j]?
  other : ∀ j, S j → j < W.heap.size → (Value.slice A l.length c).ownBlock ≠ some j → W'.heap[j]? = W.heap[j]?
  told : World.told W' A c l
/-- How a call of the closure ends. -/
def LookPost (J Jx : (Nat → Prop) → List (List Int) → World → Prop) (R S : Nat → Prop) (A : Option Addr) (c : Nat) (l : List Int) (pre L : List (List Int)) (W : World) : Bool → World → Prop
  | true, W' => LookYes J R S A c l (pre ++ L) W W'
  | false, W' => ∃ S' q x, q ++ [x] <+: L ∧ Jx S' (pre ++ (q ++ [x])) W'

section
variable {J Jx : (Nat → Prop) → List (List Int) → World → Prop} {R S S1 : Nat → Prop} {A A' : Option Addr} {c c' B : Nat} {l : List Int} {xs pre : List (List Int)} {W wr X w1 w2 : World}
theorem LookYes.start (hJ : J S xs W) (ht : World.told W A c l) : LookYes J R S A c l xs W W := ⟨⟨S, hJ, fun _ h => h, fun _ h => .inl h⟩, Below.refl _ _, fun _ _ => rfl, fun _ _ _ _ => rfl, ht⟩
/-- one person more: what holds where the closure is called again -/
theorem LookYes.step {x : Int} (hh : Held J) (h : LookYes J R S A c l xs W wr) (hA : ∀ k, (Value.slice A l.length c).ownBlock = some k → S k) (hS : ∀ j, S j → B ≤ j) (hR : ∀ j, R j → j < B) (hB : B ≤ W.heap.size)
    (hX : Below wr.heap.size wr X) (g : Grew X w1 A A' c c' l x) :
    (∃ S2, J S2 xs w1 ∧ (∀ j, S j → S2 j) ∧ (∀ j, S2 j → S j ∨ W.heap.size ≤ j) ∧ (∀ k, (Value.slice A' (l ++ [x]).length c').ownBlock = some k → S2 k)) ∧ (∀ j, R j → w1.heap[j]? = wr.heap[j]?) ∧ B ≤ w1.heap.size ∧ W.heap.size ≤ w1.heap.size := by
  obtain ⟨S1, hJ1, hs1, hs2⟩ := h.ex
  have hsz := h.below.size
  have hsX := hX.size
  have hs3 := g.grow.size
  have hap : Apart S1 wr w1 := ⟨(hX.mono (Nat.zero_le _)).trans ((Below.refl 0 X).grown g.grow (Nat.zero_le _) fun k _ => Nat.zero_le k), fun j hj hn => by
    rw [g.grow.block j (by omega) (fun e => hn (hs1 j (hA j e.symm))), hX.block j hj]⟩
  refine ⟨⟨fun j => S1 j ∨ (wr.heap.size ≤ j ∧ j < w1.heap.size), hh _ _ _ _ _ hJ1 hap (fun j hj => hj), fun j hj => .inl (hs1 j hj), fun j hj => ?_, fun k hk => ?_⟩, fun j hj => ?_, by omega, by omega⟩
  · rcases hj with hj | hj
    · exact hs2 j hj
    · exact .inr (by omega)
  · rcases g.same with ⟨rfl, rfl, _⟩ | ⟨_, b, rfl, hb⟩
    · exact .inl (hs1 k (hA k (by
        cases hA' : A' with
        | none => rw [hA'] at hk; simp [Value.ownBlock] at hk
        | some a => rw [hA'] at hk; exact hk)))
    · have hlt := (own_lt g.new).2
      have : b = k := by simpa [Value.ownBlock] using hk
      subst this
      exact .inr ⟨by omega, hlt⟩
  · have h1 := hR j hj
    rw [g.grow.block j (by omega) (fun e => by have := hS j (hA j e.symm); omega), hX.block j (by omega)]
theorem LookYes.next {x : Int} {S2 : Nat → Prop} {L : List (List Int)} (h : LookYes J R S A c l xs W wr) (hA : ∀ k, (Value.slice A l.length c).ownBlock = some k → S k) (hS : ∀ j, S j → B ≤ j) (hR : ∀ j, R j → j < B) (hB : B ≤ W.heap.size)
    (hX : Below wr.heap.size wr X) (g : Grew X w1 A A' c c' l x) (k1 : ∀ j, S j → S2 j) (k2 : ∀ j, S2 j → S j ∨ W.heap.size ≤ j) (h2 : LookYes J R S2 A' c' (l ++ [x]) L w1 w2) : LookYes J R S A c l L W w2 := by
  have hsz := h.below.size
  have hsX := hX.size
  have hs3 := g.grow.size
  have hoA : ∀ j, S j → (Value.slice A l.length c).ownBlock ≠ some j → w1.heap[j]? = wr.heap[j]? ∨ wr.heap.size ≤ j := fun j _ hne => by
    by_cases hlt : j < wr.heap.size
    · exact .inl (by rw [g.grow.block j (by omega) (fun e => hne e.symm), hX.block j hlt])
    · exact .inr (by omega)
  refine ⟨?_, (h.below.trans ((hX.mono (Nat.zero_le _)).trans ((Below.refl 0 X).grown g.grow (Nat.zero_le _) fun k _ => Nat.zero_le k))).trans h2.below, fun j hj => ?_, fun j hj hlt hne => ?_, ?_⟩
  · obtain ⟨S', hJ', e1, e2⟩ := h2.ex
    refine ⟨S', hJ', fun j hj => e1 j (k1 j hj), fun j hj => ?_⟩
    rcases e2 j hj with h' | h'
    · exact k2 j h'
    · exact .inr (by omega)
  · have h1 := hR j hj
    rw [h2.ro j hj, g.grow.block j (by omega) (fun e => by have := hS j (hA j e.symm); omega), hX.block j (by omega), h.ro j hj]
  · rw [h2.other j (k1 j hj) (by omega) ?_]
    · rcases hoA j hj hne with h' | h'
      · rw [h', h.other j hj hlt hne]
      · omega
    · rcases g.same with ⟨rfl, rfl, _⟩ | ⟨_, b, rfl, hb⟩
      · intro e
        refine hne ?_
        cases hA' : A' with
        | none => rw [hA'] at e; simp [Value.ownBlock] at e
        | some a => rw [hA'] at e; exact e
      · intro e
        have : b = j := by simpa [Value.ownBlock] using e
        omega
  · rcases g.same with ⟨rfl, rfl, hne⟩ | ⟨_, b, rfl, hb⟩
    · exact told_front h2.told hne
    · refine told_kept g.old fun k hk => ?_
      have hklt := (own_lies g.old k hk).2
      refine h2.other k (k1 k (hA k hk)) hklt fun e => ?_
      have hbk : b = k := by simpa [Value.ownBlock] using e
      have hkX := (own_lies h.told k hk).2
      omega
end
theorem IsSet.smaller {J a : Nat} {cs : List Nat} (h : IsSet J (a :: cs)) : J &&& (65535 - 2 ^ a) < J := by
  have h1 := Nat.and_le_left (n := J) (m := 65535 - 2 ^ a)
  rcases Nat.lt_or_eq_of_le h1 with h2 | h2
  · exact h2
  · have h3 := (h.mem a).2 List.mem_cons_self
    have h4 := h.tail.mem a
    rw [h2, h3] at h4
    have h5 := h4.1 rfl
    have := (List.pairwise_cons.1 h.up).1 a h5
    omega
end Go.Proofs.Ytmiecebdkadhbaa
/-
  THE PROGRAM's RECURSIVE CLOSURE THAT GOES THROUGH THE LISTS OF PEOPLE WHO ARE TIED, walked.
-/
namespace Go.Proofs.Ytmiecebdkadhbaa
open Go.RowKit Go.Shelf
attribute [local go_sem] Oper.semAt_some

theorem clear_bit {j a : Nat} (hj : j < 65536) (ha : a < 16) : bits BinOp.andNot IntKind.u16 (j : Int) (IntKind.u16.wrap (2 ^ min a 16)) = ((j &&& (65535 - 2 ^ a) : Nat) : Int) := by
  have h2 : 2 ^ a < 2 ^ 16 := Nat.pow_lt_pow_right (by omega) ha
  rw [show (2 : Nat) ^ 16 = 65536 from rfl] at h2
  have e : IntKind.u16.wrap (2 ^ min a 16) = ((2 ^ a : Nat) : Int) := by
    obtain ⟨m, hm⟩ : ∃ m, 2 ^ a = m := ⟨_, rfl⟩
    rw [Nat.min_eq_left (by omega), IntKind.wrap_u16, show (2 : Int) ^ a = ((2 ^ a : Nat) : Int) from by simp, hm]
    rw [hm] at h2
    omega
  rw [e, u16_andNot_nat j _ hj h2]

end Go.Proofs.Ytmiecebdkadhbaa
/-
  THE PROGRAM's ITERATOR OVER LISTS OF TIED PEOPLE ('allTied'): its contract, in the form that the law of the statement takes.
-/
namespace Go.Proofs.Ytmiecebdkadhbaa
open Go.RowKit

/-- ties as the program has them: twelve sets -/
def tcells (T : Nat → Nat) : Array Value := #[.int .u16 (T 0), .int .u16 (T 1), .int .u16 (T 2), .int .u16 (T 3), .int .u16 (T 4), .int .u16 (T 5), .int .u16 (T 6), .int .u16 (T 7), .int .u16 (T 8), .int .u16 (T 9), .int .u16 (T 10), .int .u16 (T 11)]
theorem tcells_at (T : Nat → Nat) : ∀ a, a < 12 → (tcells T)[a]? = some (.int .u16 (T a)) := by
  intro a ha
  match a, ha with
  | 0, _ => rfl
  | 1, _ => rfl
  | 2, _ => rfl
  | 3, _ => rfl
  | 4, _ => rfl
  | 5, _ => rfl
  | 6, _ => rfl
  | 7, _ => rfl
  | 8, _ => rfl
  | 9, _ => rfl
  | 10, _ => rfl
  | 11, _ => rfl
/-- sets of people that tell who is tied to whom -/
structure TiesOf (T : Nat → Nat) (t : Nat → Nat → Bool) : Prop where
  bit : ∀ a b, a < 12 → b < 16 → (T a).testBit b = t a b
  lt : ∀ a, a < 12 → T a < 65536

end Go.Proofs.Ytmiecebdkadhbaa
/-
  HOW MANY LISTS OF TIED PEOPLE THERE ARE ('countTied'), and whether there is one ('hasTied'), by their contracts.
-/
namespace Go.Proofs.Ytmiecebdkadhbaa
open Go.RowKit Go.Shelf
attribute [local go_sem] Oper.semAt_some

theorem listsC_length_le (t : Nat → Nat → Bool) : ∀ (k : Nat) (told : List Int) (cs : List Nat), (listsC t k told cs).length ≤ 2 ^ cs.length := by
  intro k told cs
  induction h : k + cs.length using Nat.strongRecOn generalizing k told cs with
  | _ n ih =>
    match k, cs with
    | 0, cs => rw [listsC_zero]; exact Nat.one_le_two_pow
    | k + 1, [] => rw [listsC_nil]; simp
    | k + 1, a :: cs =>
      rw [listsC_cons, List.length_append]
      simp only [List.length_cons] at h
      have h0 : (cs.filter (t a)).length ≤ cs.length := List.length_filter_le _ _
      have h1 := ih (k + (cs.filter (t a)).length) (by omega) k (told ++ [(a : Int)]) (cs.filter (t a)) rfl
      have h2 := ih (k + 1 + cs.length) (by omega) (k + 1) told cs rfl
      have h3 : 2 ^ (cs.filter (t a)).length ≤ 2 ^ cs.length := Nat.pow_le_pow_right (by omega) h0
      rw [List.length_cons, Nat.pow_succ]
      omega
theorem set_len {j : Nat} {cs : List Nat} (hs : IsSet j cs) (hcs : ∀ b ∈ cs, b < 12) : cs.length ≤ 12 := by
  have h := List.Nodup.length_le_of_subset (l₁ := cs) (l₂ := List.range 12) (hs.up.imp fun h => Nat.ne_of_lt h) (fun b hb => List.mem_range.2 (hcs b hb))
  simpa using h
theorem lists_few {t : Nat → Nat → Bool} {k : Nat} {told : List Int} {j : Nat} {cs : List Nat} (hs : IsSet j cs) (hcs : ∀ b ∈ cs, b < 12) : (listsC t k told cs).length ≤ 4096 := by
  have h1 := listsC_length_le t k told cs
  have h2 : 2 ^ cs.length ≤ 2 ^ 12 := Nat.pow_le_pow_right (by omega) (set_len hs hcs)
  omega
theorem wrap_next (n : Nat) : wrap64 (wrap64 (n : Int) + 1) = wrap64 ((n + 1 : Nat) : Int) := by unfold wrap64; omega

theorem below_putObj {B l : Nat} {A W : World} (h : Below B A W) (hB : B ≤ W.heap.size) (hl : B ≤ l) (o : Obj) : Below B A (W.putObj l o) := h.grown (grownBy_putObj' W l o) hB (fun k e => by cases e; exact hl)

theorem cell_putObj {W : World} {l b o : Nat} (ob : Obj) (hne : b ≠ l) : (W.putObj l ob).cell? ⟨b, o, none⟩ = W.cell? ⟨b, o, none⟩ := World.cell?_of_block (w := W) (w' := W.putObj l ob) (a := ⟨b, o, none⟩) (World.putObj_heap_other hne)

end Go.Proofs.Ytmiecebdkadhbaa
/-
  THE MODEL's TABLE OF A PARTY, AND THE PARTY OF A TABLE, by their contracts.
-/
namespace Go.Proofs.Ytmiecebdkadhbaa
open Go.RowKit

theorem Try.infoRow : (Try.prog.info? 70).map (fun i => (i.zero, i.size, i.bytes)) = some (some (.slice none 0 0), 1, 24) := by kernel_rfl

set_option maxHeartbeats 2000000 in
set_option maxRecDepth 100000 in
theorem paTable_any (p : Int) (l : PL) (A : Option Addr) (c : Nat) (w : World) (hp : isP p l = true) (hA : CRead w w.heap.size A (pcells l)) :
    Calls Try.prog 57 #[.agg #[.int .i64 p, .slice A l.length c]] w (GotTab w p.toNat (adj l)) := by
  obtain ⟨i0, hi, hz0, hz1, hz2⟩ := info_parts Try.infoRow
  obtain ⟨i1, hj, hy0, hy1, hy2⟩ := info_parts Try.infoBool
  obtain ⟨n, rfl⟩ : ∃ n : Nat, p = n := ⟨p.toNat, by have := isP_range hp; omega⟩
  have hn := isP_range hp
  have hlen : l.length ≤ 66 := by have h1 := isP_length hp; have h2 := people_sq hn.1 hn.2; omega
  simp only [Int.toNat_natCast]
  have Hp := Lib.hid hp
  clear hp
  generalize hB : w.heap.size + 1 = B
  have hBw : w.heap.size < B := by omega
  have HB := Lib.hid hB
  have hB0 : w.heap.size + 1 ≤ B := by omega
  have hB1 : B ≤ w.heap.size + 1 := by omega
  clear hB
  go_enter Try.func57, Try.ntmps57
  go_wp2
  go_loopw [3, 4] (fun v i wr => ∃ k : Nat, ∃ G, k ≤ n ∧ i = .int .i64 k ∧ TabG wr B v k n G (fun _ _ => false) ∧ Below B (w.alloc (Obj.cells #[.int .i64 (n : Int), .slice A l.length c] 31)) wr) (fun _ i _ => n - (intOf i).toNat)
  case atStart => exact ⟨0, fun _ => 0, Nat.zero_le _, rfl, TabG.nil _ _ _ _ _, Below.refl _ _⟩
  case round =>
    obtain ⟨k, G, hk, rfl, htab, hb⟩ := hrel
    have hs := hb.size
    simp only [World.size_alloc] at hs
    have u0 : wr.cell? ⟨w.heap.size, 0, none⟩ = some (.int .i64 n) := carry hb (by simp) hBw
    have u1 : wr.cell? ⟨w.heap.size, 1, none⟩ = some (.slice A l.length c) := carry hb (by simp) hBw
    by_cases hlt : k < n
    · have hki : (k : Int) < n := by omega
      go_wp2_with (first
        | (at_make; refine wpList_make_row _ rfl _ _ 70 rfl 4 i1 (.bool false) Try.underlying70 hj hy0 hy1 rfl _ _ n rfl rfl (by rw [hy2]; omega) (by omega) ?_)
        | (at_builtin; refine wpList_append_own _ rfl _ _ 63 rfl B 70 i0 (.slice none 0 0) 1 24 Try.underlying63 hi hz0 hz1 hz2 rfl (by decide) _ _ _ rfl ((htab.own.alloc _).alloc _) ⟨wr.heap.size + 1, 0, none⟩ 1 1 [.slice (some ⟨wr.heap.size, 0, none⟩) n n] rfl rfl (one_cell (by simp)) (one_one rfl) (by unfold maxLen; omega) (by omega) (by simp; omega) ?_; intro v' w1 hown' hgrow _; have htab' := htab.push (by omega) hgrow hown'))
      have hb1 : Below B (w.alloc (Obj.cells #[.int .i64 (n : Int), .slice A l.length c] 31)) w1 := ((hb.alloc (by omega) _).alloc (by simp; omega) _).grown hgrow (by simp; omega) (fun b hb => (htab.own.lt b hb).1)
      clear hown' hgrow
      go_roundw
      case rel => exact ⟨k + 1, _, by omega, by go_num, htab', hb1⟩
      case measure => simp [intOf]; omega
    · have hkl : n = k := by omega
      subst hkl
      have hge : ¬ ((n : Int) < n) := by omega
      obtain ⟨A', c', rfl, _⟩ := own_shape htab.own
      go_wp2
      go_loopw [22] (fun i wx => ∃ m : Nat, m ≤ l.length ∧ i = .int .i64 m ∧ TabG wx B (.slice A' n c') n n G (adj (l.take m)) ∧ Below B (w.alloc (Obj.cells #[.int .i64 (n : Int), .slice A l.length c] 31)) wx) (fun i _ => l.length - (intOf i).toNat)
      case atStart => exact ⟨0, Nat.zero_le _, rfl, by simpa [adj_nil] using htab, hb⟩
      case round =>
        clear htab hb u0 u1 hs
        obtain ⟨m, hm, rfl, htab, hb⟩ := hrel
        have hs := hb.size
        simp only [World.size_alloc] at hs
        have hbw : Below w.heap.size w wr := Below.trans (b := _) (by go_grown) (hb.mono (by omega))
        by_cases hmt : m < l.length
        · obtain ⟨⟨x, y⟩, hx⟩ := getSome l m hmt
          obtain ⟨h0, h1, h2⟩ := goodAt_pair (isP_good Hp.out hmt) hx
          obtain ⟨a, rfl⟩ : ∃ a : Nat, x = a := ⟨x.toNat, by omega⟩
          obtain ⟨b, rfl⟩ : ∃ b : Nat, y = b := ⟨y.toNat, by omega⟩
          obtain ⟨bb, off, rfl, hbb, c0, c1⟩ := (hA.below hbw (Nat.le_refl _)).pair hx
          obtain ⟨g, rfl⟩ := own_form htab.own (by omega)
          have hmi : (m : Int) < (l.length : Int) := by omega
          have han : a < n := by omega
          have hbn : b < n := by omega
          have ha : (a : Int) < n := by omega
          have hb' : (b : Int) < n := h2
          have hGa := htab.blk han
          have hGb := htab.blk hbn
          have Hx := Lib.hid hx
          clear hx
          go_wp2
          generalize hW : wr.alloc (Obj.cells #[.int .i64 (a : Int), .int .i64 (b : Int)] 95) = W
          have tW : TabG W B (.slice (some ⟨g, 0, none⟩) n c') n n G (adj (l.take m)) := by rw [← hW]; exact htab.alloc _
          have bW : Below B (w.alloc (Obj.cells #[.int .i64 (n : Int), .slice (some ⟨bb, off, none⟩) l.length c] 31)) W := by rw [← hW]; exact hb.alloc (by omega) _
          have e0 : W.cell? ⟨wr.heap.size, 0, none⟩ = some (.int .i64 a) := by rw [← hW]; simp
          have e1 : W.cell? ⟨wr.heap.size, 1, none⟩ = some (.int .i64 b) := by rw [← hW]; simp
          clear hW
          have t1 := tW.set (b := b) han true
          have t2 := t1.set (b := a) hbn true
          rw [← adj_snoc] at t2
          have d0 := tW.outer han
          have d1 := tW.cell han hbn
          have d2 := tW.frozen han b
          have d3 := t1.outer hbn
          have d4 := t1.cell hbn han
          have d5 := t1.frozen hbn a
          have e2 : (W.setCell ⟨G a, b, none⟩ (.bool true)).cell? ⟨wr.heap.size, 0, none⟩ = some (.int .i64 a) := by rw [World.cell?_setCell_other _ _ _ _ (by simp)]; exact e0
          have e3 : (W.setCell ⟨G a, b, none⟩ (.bool true)).cell? ⟨wr.heap.size, 1, none⟩ = some (.int .i64 b) := by rw [World.cell?_setCell_other _ _ _ _ (by simp)]; exact e1
          have T2 := Lib.hid t2
          clear t1 t2 tW htab
          refine wp_region_still_tail 8 (by kernel_rfl) (by kernel_rfl) ?_
          simp only [List.take_succ_cons, List.take_zero, List.drop_succ_cons, List.drop_zero]
          repeat still_step
          refine wpStill_nil ?_
          change wpList _ _ _ _ _ (World.drew _)
          go_wp2
          generalize hW2 : (W.setCell ⟨G a, b, none⟩ (.bool true)).drew = W2
          have f0 : W2.cell? ⟨wr.heap.size, 0, none⟩ = some (.int .i64 a) := by rw [← hW2]; exact e2
          have f1 : W2.cell? ⟨wr.heap.size, 1, none⟩ = some (.int .i64 b) := by rw [← hW2]; exact e3
          have f3 : W2.cell? ⟨g, b, none⟩ = some (.slice (some ⟨G b, 0, none⟩) n n) := by rw [← hW2]; exact d3
          have f4 : W2.cell? ⟨G b, a, none⟩ = some (.bool (upd (adj (l.take m)) a b true b a)) := by rw [← hW2]; exact d4
          have f5 : W2.frozen? ⟨G b, a, none⟩ = false := by rw [← hW2]; exact d5
          have b2 : Below B (w.alloc (Obj.cells #[.int .i64 (n : Int), .slice (some ⟨bb, off, none⟩) l.length c] 31)) (W2.setCell ⟨G b, a, none⟩ (.bool true)).drew := by
            rw [← hW2]
            exact (((bW.setCell (p := ⟨G a, b, none⟩) hGa.1 _).drew).setCell (p := ⟨G b, a, none⟩) hGb.1 _).drew
          have t3 : TabG (W2.setCell ⟨G b, a, none⟩ (.bool true)).drew B (.slice (some ⟨g, 0, none⟩) n c') n n G (adj (l.take m ++ [((a : Int), (b : Int))])) := by
            rw [← hW2]
            exact T2.out.of_blocks ⟨rfl, rfl, rfl, Nat.le_refl _, fun _ _ _ => rfl⟩
          have B2 := Lib.hid b2
          have T3 := Lib.hid t3
          clear hW2 d0 d1 d2 d3 d4 d5 e0 e1 e2 e3 T2 bW b2 t3
          refine wp_region_still_tail 8 (by kernel_rfl) (by kernel_rfl) ?_
          simp only [List.take_succ_cons, List.take_zero, List.drop_succ_cons, List.drop_zero]
          repeat still_step
          refine wpStill_nil ?_
          change wpList _ _ _ _ _ (World.drew _)
          go_wp2
          go_roundw
          case rel =>
            refine ⟨m + 1, by omega, by go_num, ?_, B2.out⟩
            rw [List.take_add_one, Hx.out, Option.toList_some]
            exact T3.out
          case measure => simp [intOf]; omega
        · have hml : m = l.length := by omega
          subst hml
          have hgm : ¬ ((l.length : Int) < l.length) := by omega
          go_wp2
          go_ret
          rw [List.take_length] at htab
          exact ⟨A', c', G, rfl, htab.lower (by omega), hbw⟩
end Go.Proofs.Ytmiecebdkadhbaa
/-
  TIES AS THE PROGRAM HAS THEM, twelve sets of people: made of a party's pairs ('friendsIn'); those missing ('strangersIn'); everybody. Written by wip/tools/gen_ties.py.
-/
namespace Go.Proofs.Ytmiecebdkadhbaa
open Go.RowKit

def updN (T : Nat → Nat) (a v : Nat) : Nat → Nat := fun i => if i = a then v else T i
/-- one pair more is tied -/
def withT (T : Nat → Nat) (a b : Nat) : Nat → Nat := updN (updN T a (T a ||| 2 ^ b)) b (updN T a (T a ||| 2 ^ b) b ||| 2 ^ a)
theorem tcells_row (T : Nat → Nat) : ∀ m, m < 12 → (tcells T)[m]? = some (Value.int .u16 (T m)) := tcells_at T
theorem rowIs_u16 (w : World) (T : Nat → Nat) (ty : TypeId) : (w.alloc (.cells (tcells T) ty)).rowIs w.heap.size ty 12 (fun j => .int .u16 (T j)) :=
  ⟨tcells T, heap_alloc_new w _, rfl, fun i hi => tcells_at T i hi⟩
theorem shl_bit {a : Nat} (ha : a < 16) : IntKind.u16.wrap (2 ^ min a 16) = ((2 ^ a : Nat) : Int) := by
  have h2 : 2 ^ a < 2 ^ 16 := Nat.pow_lt_pow_right (by omega) ha
  rw [show (2 : Nat) ^ 16 = 65536 from rfl] at h2
  obtain ⟨m, hm⟩ : ∃ m, 2 ^ a = m := ⟨_, rfl⟩
  rw [Nat.min_eq_left (by omega), IntKind.wrap_u16, show (2 : Int) ^ a = ((2 ^ a : Nat) : Int) from by simp, hm]
  rw [hm] at h2
  omega
theorem two_lt {a : Nat} (ha : a < 16) : 2 ^ a < 65536 := by
  have h2 : 2 ^ a < 2 ^ 16 := Nat.pow_lt_pow_right (by omega) ha
  rwa [show (2 : Nat) ^ 16 = 65536 from rfl] at h2
theorem or_bit {x a : Nat} (hx : x < 65536) (ha : a < 16) : bits BinOp.or IntKind.u16 (x : Int) (IntKind.u16.wrap (2 ^ min a 16)) = ((x ||| 2 ^ a : Nat) : Int) := by
  rw [shl_bit ha, u16_or_nat x _ hx (two_lt ha)]
theorem or_bit2 {x a : Nat} (hx : x < 65536) (ha : a < 16) : bits BinOp.or IntKind.u16 (x : Int) (IntKind.u16.wrap (2 ^ a)) = ((x ||| 2 ^ a : Nat) : Int) := by
  have := or_bit hx ha
  rwa [Nat.min_eq_left (by omega)] at this
theorem or_lt {x a : Nat} (hx : x < 65536) (ha : a < 16) : x ||| 2 ^ a < 65536 := Nat.or_lt_two_pow (n := 16) hx (two_lt ha)

set_option maxHeartbeats 4000000 in
set_option maxRecDepth 100000 in
theorem tiesWith_any (T : Nat → Nat) (a b : Nat) (ha : a < 12) (hb : b < 12) (hT : ∀ i, i < 12 → T i < 65536) (w : World) :
    Calls Try.prog 99 #[.agg (tcells T), .agg #[.int .i64 a, .int .i64 b]] w fun e w' => e = .returned (.agg (tcells (withT T a b))) ∧ Below w.heap.size w w' := by
  have hai : (a : Int) < 12 := by omega
  have hbi : (b : Int) < 12 := by omega
  obtain ⟨W, hW⟩ : ∃ W, ((w.alloc (Obj.cells (tcells T) 76)).alloc (Obj.cells #[.int .i64 a, .int .i64 b] 95)).alloc (Obj.cells #[.int .u16 0, .int .u16 0, .int .u16 0, .int .u16 0, .int .u16 0, .int .u16 0, .int .u16 0, .int .u16 0, .int .u16 0, .int .u16 0, .int .u16 0, .int .u16 0] 76) = W := ⟨_, rfl⟩
  have kW : Below w.heap.size w W := by rw [← hW]; go_grown
  have zW : W.heap.size = w.heap.size + 3 := by rw [← hW]; simp
  have row0 : W.rowIs w.heap.size 76 12 (fun j => .int .u16 (T j)) := by rw [← hW]; exact ((rowIs_u16 w T _).alloc _).alloc _
  have p0 : W.cell? ⟨w.heap.size + 1, 0, none⟩ = some (.int .i64 a) := by rw [← hW]; exact (World.cell?_alloc_lt _ _ _ (by simp)).trans (by simp)
  have p1 : W.cell? ⟨w.heap.size + 1, 1, none⟩ = some (.int .i64 b) := by rw [← hW]; exact (World.cell?_alloc_lt _ _ _ (by simp)).trans (by simp)
  have rowR : W.rowIs (w.heap.size + 2) 76 12 (fun _ => .int .u16 0) := by
    rw [← hW]
    have := rowIs_u16 ((w.alloc (Obj.cells (tcells T) 76)).alloc (Obj.cells #[.int .i64 a, .int .i64 b] 95)) (fun _ => 0) 76
    simp only [World.size_alloc] at this
    exact this
  have s1 : w.heap.size ≠ w.heap.size + 1 := by omega
  -- the first store
  have q0 := row0.cell ha
  have f0 := row0.frozen a
  have o1 := or_bit2 (hT a ha) (show b < 16 by omega)
  have l1 := or_lt (hT a ha) (show b < 16 by omega)
  have row1 := row0.set a (.int .u16 ((T a ||| 2 ^ b : Nat) : Int))
  have row1' : (W.setCell ⟨w.heap.size, a, none⟩ (.int .u16 ((T a ||| 2 ^ b : Nat) : Int))).rowIs w.heap.size 76 12 (fun j => .int .u16 (updN T a (T a ||| 2 ^ b) j : Nat)) := row1.congr fun j _ => by unfold updN; by_cases h : j = a <;> simp [h]
  obtain ⟨T1, hT1⟩ : ∃ T1, updN T a (T a ||| 2 ^ b) = T1 := ⟨_, rfl⟩
  have hT1l : T1 b < 65536 := by rw [← hT1]; unfold updN; split; exact l1; exact hT b hb
  have hw : withT T a b = updN T1 b (T1 b ||| 2 ^ a) := by unfold withT; rw [hT1]
  rw [hT1] at row1'
  rw [hw]
  obtain ⟨r1, hr1⟩ : ∃ r1, T a ||| 2 ^ b = r1 := ⟨_, rfl⟩
  rw [hr1] at o1 row1'
  have P0 := (World.cell?_setCell_other W ⟨w.heap.size, a, none⟩ ⟨w.heap.size + 1, 0, none⟩ (.int .u16 (r1 : Int)) (by simp)).trans p0
  have P1 := (World.cell?_setCell_other W ⟨w.heap.size, a, none⟩ ⟨w.heap.size + 1, 1, none⟩ (.int .u16 (r1 : Int)) (by simp)).trans p1
  have rowR1 := rowR.setOther (a := ⟨w.heap.size, a, none⟩) (by simp) (.int .u16 (r1 : Int))
  have kX := kW.setCell (p := ⟨w.heap.size, a, none⟩) (Nat.le_refl _) (.int .u16 (r1 : Int))
  have HW := Lib.hid hW
  have ROW1 := Lib.hid row1'
  have ROWR1 := Lib.hid rowR1
  have KX := Lib.hid kX
  have PP0 := Lib.hid P0
  have PP1 := Lib.hid P1
  clear hT hT1 hw hr1 row0 row1 row1' rowR rowR1 hW kX P0 P1
  unfold tcells at HW ⊢
  go_enter Try.func99, Try.ntmps99
  go_wp2_with fail
  rw [HW.out]
  refine wp_region_still_tail 9 (by kernel_rfl) (by kernel_rfl) ?_
  simp only [List.take_succ_cons, List.take_zero, List.drop_succ_cons, List.drop_zero]
  repeat still_step
  refine wpStill_nil ?_
  change wpList _ _ _ _ _ (World.drew _)
  go_wp2_with fail
  try rw [o1]
  obtain ⟨X, hX⟩ : ∃ X, (W.setCell ⟨w.heap.size, a, none⟩ (.int .u16 (r1 : Int))).drew = X := ⟨_, rfl⟩
  rw [hX]
  have rowX : X.rowIs w.heap.size 76 12 (fun j => .int .u16 (T1 j)) := by rw [← hX]; exact ROW1.out
  have rowZ : X.rowIs (w.heap.size + 2) 76 12 (fun _ => .int .u16 0) := by rw [← hX]; exact ROWR1.out
  have kX : Below w.heap.size w X := by rw [← hX]; exact KX.out.drew
  have p0 : X.cell? ⟨w.heap.size + 1, 0, none⟩ = some (.int .i64 a) := by rw [← hX]; exact PP0.out
  have p1 : X.cell? ⟨w.heap.size + 1, 1, none⟩ = some (.int .i64 b) := by rw [← hX]; exact PP1.out
  have q0 := rowX.cell hb
  have f0 := rowX.frozen b
  have o2 := or_bit2 hT1l (show a < 16 by omega)
  have row2 := rowX.set b (.int .u16 ((T1 b ||| 2 ^ a : Nat) : Int))
  have row2' : (X.setCell ⟨w.heap.size, b, none⟩ (.int .u16 ((T1 b ||| 2 ^ a : Nat) : Int))).rowIs w.heap.size 76 12 (fun j => .int .u16 (updN T1 b (T1 b ||| 2 ^ a) j : Nat)) := row2.congr fun j _ => by unfold updN; by_cases h : j = b <;> simp [h]
  obtain ⟨T2, hT2⟩ : ∃ T2, updN T1 b (T1 b ||| 2 ^ a) = T2 := ⟨_, rfl⟩
  have HT2 := Lib.hid hT2
  obtain ⟨r2, hr2⟩ : ∃ r2, T1 b ||| 2 ^ a = r2 := ⟨_, rfl⟩
  rw [hT2] at row2'
  rw [hr2] at o2 row2'
  have rowZ2 := rowZ.setOther (a := ⟨w.heap.size, b, none⟩) (by simp) (.int .u16 (r2 : Int))
  have kY := kX.setCell (p := ⟨w.heap.size, b, none⟩) (Nat.le_refl _) (.int .u16 (r2 : Int))
  have ROW2 := Lib.hid row2'
  have ROWZ2 := Lib.hid rowZ2
  have KY := Lib.hid kY
  clear hX rowX rowZ row2 row2' rowZ2 hT2 hr2 kX kY
  refine wp_region_still_tail 9 (by kernel_rfl) (by kernel_rfl) ?_
  simp only [List.take_succ_cons, List.take_zero, List.drop_succ_cons, List.drop_zero]
  repeat still_step
  refine wpStill_nil ?_
  change wpList _ _ _ _ _ (World.drew _)
  go_upto_region 3 with fail
  try rw [o2]
  obtain ⟨Y, hY⟩ : ∃ Y, (X.setCell ⟨w.heap.size, b, none⟩ (.int .u16 (r2 : Int))).drew = Y := ⟨_, rfl⟩
  rw [hY]
  have rowY : Y.rowIs w.heap.size 76 12 (fun j => .int .u16 (T2 j)) := by rw [← hY]; exact ROW2.out
  have rowZ : Y.rowIs (w.heap.size + 2) 76 12 (fun _ => .int .u16 0) := by rw [← hY]; exact ROWZ2.out
  have kY : Below w.heap.size w Y := by rw [← hY]; exact KY.out.drew
  clear hY p0 p1 q0 f0 o1 o2 hai hbi
  have r0 := rowY.cell (i := 0) (by omega)
  have r1 := rowY.cell (i := 1) (by omega)
  have r2 := rowY.cell (i := 2) (by omega)
  have r3 := rowY.cell (i := 3) (by omega)
  have r4 := rowY.cell (i := 4) (by omega)
  have r5 := rowY.cell (i := 5) (by omega)
  have r6 := rowY.cell (i := 6) (by omega)
  have r7 := rowY.cell (i := 7) (by omega)
  have r8 := rowY.cell (i := 8) (by omega)
  have r9 := rowY.cell (i := 9) (by omega)
  have r10 := rowY.cell (i := 10) (by omega)
  have r11 := rowY.cell (i := 11) (by omega)
  have g0 := rowZ.cell (i := 0) (by omega)
  have g1 := rowZ.cell (i := 1) (by omega)
  have g2 := rowZ.cell (i := 2) (by omega)
  have g3 := rowZ.cell (i := 3) (by omega)
  have g4 := rowZ.cell (i := 4) (by omega)
  have g5 := rowZ.cell (i := 5) (by omega)
  have g6 := rowZ.cell (i := 6) (by omega)
  have g7 := rowZ.cell (i := 7) (by omega)
  have g8 := rowZ.cell (i := 8) (by omega)
  have g9 := rowZ.cell (i := 9) (by omega)
  have g10 := rowZ.cell (i := 10) (by omega)
  have g11 := rowZ.cell (i := 11) (by omega)
  have e0 := rowZ.frozen 0
  have e1 := rowZ.frozen 1
  have e2 := rowZ.frozen 2
  have e3 := rowZ.frozen 3
  have e4 := rowZ.frozen 4
  have e5 := rowZ.frozen 5
  have e6 := rowZ.frozen 6
  have e7 := rowZ.frozen 7
  have e8 := rowZ.frozen 8
  have e9 := rowZ.frozen 9
  have e10 := rowZ.frozen 10
  have e11 := rowZ.frozen 11
  have KY2 := Lib.hid kY
  clear rowY rowZ kY
  go_wp2
  refine bodyPost_ret (v := .agg #[.int .u16 (T2 0), .int .u16 (T2 1), .int .u16 (T2 2), .int .u16 (T2 3), .int .u16 (T2 4), .int .u16 (T2 5), .int .u16 (T2 6), .int .u16 (T2 7), .int .u16 (T2 8), .int .u16 (T2 9), .int .u16 (T2 10), .int .u16 (T2 11)]) (by simp [results, Try.results99, go_sem, g0, g1, g2, g3, g4, g5, g6, g7, g8, g9, g10, g11]) rfl ?_
  rw [← HT2.out] 
  exact ⟨rfl, ((((((((((((KY2.out.setCell (p := ⟨w.heap.size + 2, 0, none⟩) (by simp) _).setCell (p := ⟨w.heap.size + 2, 1, none⟩) (by simp) _).setCell (p := ⟨w.heap.size + 2, 2, none⟩) (by simp) _).setCell (p := ⟨w.heap.size + 2, 3, none⟩) (by simp) _).setCell (p := ⟨w.heap.size + 2, 4, none⟩) (by simp) _).setCell (p := ⟨w.heap.size + 2, 5, none⟩) (by simp) _).setCell (p := ⟨w.heap.size + 2, 6, none⟩) (by simp) _).setCell (p := ⟨w.heap.size + 2, 7, none⟩) (by simp) _).setCell (p := ⟨w.heap.size + 2, 8, none⟩) (by simp) _).setCell (p := ⟨w.heap.size + 2, 9, none⟩) (by simp) _).setCell (p := ⟨w.heap.size + 2, 10, none⟩) (by simp) _).setCell (p := ⟨w.heap.size + 2, 11, none⟩) (by simp) _)⟩
end Go.Proofs.Ytmiecebdkadhbaa
/-
  TIES MADE OF A PARTY's PAIRS ('friendsIn'); everybody. Written by wip/tools/gen_ties2.py.
-/
namespace Go.Proofs.Ytmiecebdkadhbaa
open Go.RowKit

theorem TiesOf.none : TiesOf (fun _ => 0) (adj []) := ⟨fun a b _ _ => by rw [Nat.zero_testBit]; rfl, fun a _ => by omega⟩
theorem TiesOf.congr {T : Nat → Nat} {t t' : Nat → Nat → Bool} (h : TiesOf T t) (e : ∀ a b, a < 12 → b < 16 → t a b = t' a b) : TiesOf T t' := ⟨fun a b ha hb => (h.bit a b ha hb).trans (e a b ha hb), h.lt⟩
theorem TiesOf.with {T : Nat → Nat} {t : Nat → Nat → Bool} (h : TiesOf T t) {a b : Nat} (ha : a < 12) (hb : b < 12) (hab : a ≠ b) : TiesOf (withT T a b) (upd (upd t a b true) b a true) := by
  have e1 : ∀ i, withT T a b i = if i = b then T b ||| 2 ^ a else if i = a then T a ||| 2 ^ b else T i := fun i => by
    unfold withT updN
    by_cases h1 : i = b
    · rw [if_pos h1, if_pos h1, if_neg (by omega)]
    · rw [if_neg h1, if_neg h1]
  refine ⟨fun i j hi hj => ?_, fun i hi => ?_⟩
  · rw [e1]
    unfold upd
    by_cases h1 : i = b
    · rw [if_pos h1, Nat.testBit_or, Nat.testBit_two_pow, h.bit b j hb hj]
      by_cases h2 : j = a
      · simp [h1, h2]
      · have h3 : ¬ (a = j) := fun e => h2 e.symm
        have h4 : ¬ (b = a) := fun e => hab e.symm
        simp [h1, h2, h3, h4]
    · rw [if_neg h1]
      by_cases h2 : i = a
      · rw [if_pos h2, Nat.testBit_or, Nat.testBit_two_pow, h.bit a j ha hj]
        by_cases h3 : j = b
        · simp [h2, h3, hab]
        · have h4 : ¬ (b = j) := fun e => h3 e.symm
          simp [h2, h3, h4, hab]
      · rw [if_neg h2, h.bit i j hi hj]
        simp [h1, h2]
  · rw [e1]
    split
    · exact or_lt (h.lt b hb) (by omega)
    · split
      · exact or_lt (h.lt a ha) (by omega)
      · exact h.lt i hi
theorem people_bits : ∀ n : Fin 13, ((2 : Int) ^ n.val % 65536 - 1) % 65536 = ((2 ^ n.val - 1 : Nat) : Int) := by decide

set_option maxHeartbeats 1000000 in
theorem everybody_any (n : Nat) (hn : n ≤ 12) (w : World) : Calls Try.prog 115 #[.int .i64 n] w fun e w' => e = .returned (.int .u16 ((2 ^ n - 1 : Nat) : Int)) ∧ w = w' := by
  have h0 : (0 : Int) ≤ n := by omega
  have e := people_bits ⟨n, by omega⟩
  have hn12 : (n : Int) ≤ 12 := by omega
  go_enter Try.func115, Try.ntmps115
  go_wp2
  go_ret
  refine ⟨?_, rfl⟩
  rw [← e, IntKind.wrap_u16, IntKind.wrap_u16]
  rfl

/-- the ties of a list of pairs -/
def friendsT (l : PL) : Nat → Nat := l.foldl (fun T q => withT T q.1.toNat q.2.toNat) fun _ => 0
theorem friendsT_snoc (l : PL) (a b : Nat) : friendsT (l ++ [((a : Int), (b : Int))]) = withT (friendsT l) a b := by simp [friendsT]

set_option maxHeartbeats 4000000 in
set_option maxRecDepth 100000 in
theorem friendsIn_any (p : Int) (l : PL) (A : Option Addr) (c : Nat) (w : World) (hp : isP p l = true) (hA : CRead w w.heap.size A (pcells l)) :
    Calls Try.prog 66 #[.agg #[.int .i64 p, .slice A l.length c]] w fun e w' => e = .returned (.agg (tcells (friendsT l))) ∧ TiesOf (friendsT l) (adj l) ∧ Below w.heap.size w w' := by
  have hn := isP_range hp
  have hlen : l.length ≤ 66 := by have h1 := isP_length hp; have h2 := people_sq hn.1 hn.2; omega
  obtain ⟨W, hW⟩ : ∃ W, ((w.alloc (Obj.cells #[.int .i64 p, .slice A l.length c] 31)).alloc (Obj.cells #[.int .u16 0, .int .u16 0, .int .u16 0, .int .u16 0, .int .u16 0, .int .u16 0, .int .u16 0, .int .u16 0, .int .u16 0, .int .u16 0, .int .u16 0, .int .u16 0] 76)).alloc (Obj.cells #[.int .u16 0, .int .u16 0, .int .u16 0, .int .u16 0, .int .u16 0, .int .u16 0, .int .u16 0, .int .u16 0, .int .u16 0, .int .u16 0, .int .u16 0, .int .u16 0] 76) = W := ⟨_, rfl⟩
  have kW : Below w.heap.size w W := by rw [← hW]; go_grown
  have zW : W.heap.size = w.heap.size + 3 := by rw [← hW]; simp
  have p1 : W.cell? ⟨w.heap.size, 1, none⟩ = some (.slice A l.length c) := by rw [← hW]; exact (World.cell?_alloc_lt _ _ _ (by simp; omega)).trans ((World.cell?_alloc_lt _ _ _ (by simp)).trans (by simp))
  have rowR : W.rowIs (w.heap.size + 1) 76 12 (fun _ => .int .u16 0) := by
    rw [← hW]
    have := rowIs_u16 (w.alloc (Obj.cells #[.int .i64 p, .slice A l.length c] 31)) (fun _ => 0) 76
    simp only [World.size_alloc] at this
    exact this.alloc _
  have rowF : W.rowIs (w.heap.size + 2) 76 12 (fun _ => .int .u16 0) := by
    rw [← hW]
    have := rowIs_u16 ((w.alloc (Obj.cells #[.int .i64 p, .slice A l.length c] 31)).alloc (Obj.cells #[.int .u16 0, .int .u16 0, .int .u16 0, .int .u16 0, .int .u16 0, .int .u16 0, .int .u16 0, .int .u16 0, .int .u16 0, .int .u16 0, .int .u16 0, .int .u16 0] 76)) (fun _ => 0) 76
    simp only [World.size_alloc] at this
    exact this
  have Hp := Lib.hid hp
  have RF := Lib.hid rowF
  have RR := Lib.hid rowR
  have P1 := Lib.hid p1
  have HW := Lib.hid hW
  have KW := Lib.hid kW
  clear hp rowF rowR hW kW
  go_enter Try.func66, Try.ntmps66
  go_upto_region 2 with fail
  rw [HW.out]
  go_wp2_with fail
  clear p1
  go_loopw [9] (fun i wr => ∃ (m : Nat) (T : Nat → Nat), m ≤ l.length ∧ i = .int .i64 m ∧ TiesOf T (adj (l.take m)) ∧ T = friendsT (l.take m) ∧ wr.rowIs (w.heap.size + 2) 76 12 (fun j => .int .u16 (T j)) ∧ Below (w.heap.size + 2) W wr) (fun i _ => l.length - (intOf i).toNat)
  case atStart => exact ⟨0, fun _ => 0, Nat.zero_le _, rfl, TiesOf.none, rfl, RF.out, Below.refl _ _⟩
  case round =>
    obtain ⟨m, T, hm, rfl, hT, hTf, rowF, hb⟩ := hrel
    have HTf := Lib.hid hTf
    clear hTf
    have s0 := hb.size
    by_cases hlt : m < l.length
    · obtain ⟨⟨x, y⟩, hx⟩ := getSome l m hlt
      obtain ⟨h0, h1, h2⟩ := goodAt_pair (isP_good Hp.out hlt) hx
      obtain ⟨a, rfl⟩ : ∃ a : Nat, x = a := ⟨x.toNat, by omega⟩
      obtain ⟨b, rfl⟩ : ∃ b : Nat, y = b := ⟨y.toNat, by omega⟩
      have kr : Below w.heap.size w wr := KW.out.trans (hb.mono (by omega))
      obtain ⟨bb, off, rfl, hbb, c0, c1⟩ := (hA.below kr (Nat.le_refl _)).pair hx
      have hmi : (m : Int) < (l.length : Int) := by omega
      have HT := Lib.hid hT
      have Hx := Lib.hid hx
      have HB := Lib.hid hb
      have HF := Lib.hid rowF
      clear hT hx hb
      go_upto_region 5 with fail
      obtain ⟨X, hX⟩ : ∃ X, wr.alloc (Obj.cells #[.int .i64 (a : Int), .int .i64 (b : Int)] 95) = X := ⟨_, rfl⟩
      rw [hX]
      have rowX : X.rowIs (w.heap.size + 2) 76 12 (fun j => .int .u16 (T j)) := by rw [← hX]; exact rowF.alloc _
      have zX : X.heap.size = wr.heap.size + 1 := by rw [← hX]; simp
      have x0 : X.cell? ⟨wr.heap.size, 0, none⟩ = some (.int .i64 a) := by rw [← hX]; simp
      have x1 : X.cell? ⟨wr.heap.size, 1, none⟩ = some (.int .i64 b) := by rw [← hX]; simp
      have kX : Below (w.heap.size + 2) W X := by rw [← hX]; exact HB.out.alloc (by omega) _
      clear hX c0 c1 rowF
      have r0 := rowX.cell (i := 0) (by omega)
      have r1 := rowX.cell (i := 1) (by omega)
      have r2 := rowX.cell (i := 2) (by omega)
      have r3 := rowX.cell (i := 3) (by omega)
      have r4 := rowX.cell (i := 4) (by omega)
      have r5 := rowX.cell (i := 5) (by omega)
      have r6 := rowX.cell (i := 6) (by omega)
      have r7 := rowX.cell (i := 7) (by omega)
      have r8 := rowX.cell (i := 8) (by omega)
      have r9 := rowX.cell (i := 9) (by omega)
      have r10 := rowX.cell (i := 10) (by omega)
      have r11 := rowX.cell (i := 11) (by omega)
      have call := tiesWith_any T a b (by omega) (by omega) HT.out.lt X
      unfold tcells at call
      have Call := Lib.hid call
      clear call
      go_wp2_with fail
      refine Call.out.mono ?_
      rintro e w2 ⟨rfl, hb2⟩
      have row2 := rowX.of_block (hb2.block _ rowX.lt)
      have s2 := hb2.size
      have hTw := HT.out.with (a := a) (b := b) (by omega) (by omega) (by omega)
      rw [← adj_snoc] at hTw
      have hTf2 : withT T a b = friendsT (l.take m ++ [((a : Int), (b : Int))]) := by rw [friendsT_snoc, HTf.out]
      generalize withT T a b = T' at *
      have HTf2 := Lib.hid hTf2
      clear hTf2
      have k2 : Below (w.heap.size + 2) W w2 := kX.trans (hb2.mono (by omega))
      clear r0 r1 r2 r3 r4 r5 r6 r7 r8 r9 r10 r11
      have r0 := row2.cell (i := 0) (by omega)
      have r1 := row2.cell (i := 1) (by omega)
      have r2 := row2.cell (i := 2) (by omega)
      have r3 := row2.cell (i := 3) (by omega)
      have r4 := row2.cell (i := 4) (by omega)
      have r5 := row2.cell (i := 5) (by omega)
      have r6 := row2.cell (i := 6) (by omega)
      have r7 := row2.cell (i := 7) (by omega)
      have r8 := row2.cell (i := 8) (by omega)
      have r9 := row2.cell (i := 9) (by omega)
      have r10 := row2.cell (i := 10) (by omega)
      have r11 := row2.cell (i := 11) (by omega)
      have e0 := row2.frozen 0
      have e1 := row2.frozen 1
      have e2 := row2.frozen 2
      have e3 := row2.frozen 3
      have e4 := row2.frozen 4
      have e5 := row2.frozen 5
      have e6 := row2.frozen 6
      have e7 := row2.frozen 7
      have e8 := row2.frozen 8
      have e9 := row2.frozen 9
      have e10 := row2.frozen 10
      have e11 := row2.frozen 11
      have row3 : ((((((((((((w2.setCell ⟨w.heap.size + 2, 0, none⟩ (.int .u16 (T' 0))).setCell ⟨w.heap.size + 2, 1, none⟩ (.int .u16 (T' 1))).setCell ⟨w.heap.size + 2, 2, none⟩ (.int .u16 (T' 2))).setCell ⟨w.heap.size + 2, 3, none⟩ (.int .u16 (T' 3))).setCell ⟨w.heap.size + 2, 4, none⟩ (.int .u16 (T' 4))).setCell ⟨w.heap.size + 2, 5, none⟩ (.int .u16 (T' 5))).setCell ⟨w.heap.size + 2, 6, none⟩ (.int .u16 (T' 6))).setCell ⟨w.heap.size + 2, 7, none⟩ (.int .u16 (T' 7))).setCell ⟨w.heap.size + 2, 8, none⟩ (.int .u16 (T' 8))).setCell ⟨w.heap.size + 2, 9, none⟩ (.int .u16 (T' 9))).setCell ⟨w.heap.size + 2, 10, none⟩ (.int .u16 (T' 10))).setCell ⟨w.heap.size + 2, 11, none⟩ (.int .u16 (T' 11))).rowIs (w.heap.size + 2) 76 12 (fun j => .int .u16 (T' j)) := ((((((((((((row2.set 0 (.int .u16 (T' 0))).set 1 (.int .u16 (T' 1))).set 2 (.int .u16 (T' 2))).set 3 (.int .u16 (T' 3))).set 4 (.int .u16 (T' 4))).set 5 (.int .u16 (T' 5))).set 6 (.int .u16 (T' 6))).set 7 (.int .u16 (T' 7))).set 8 (.int .u16 (T' 8))).set 9 (.int .u16 (T' 9))).set 10 (.int .u16 (T' 10))).set 11 (.int .u16 (T' 11))).congr fun j hj => by
        match j, hj with
        | 0, _ => rfl
        | 1, _ => rfl
        | 2, _ => rfl
        | 3, _ => rfl
        | 4, _ => rfl
        | 5, _ => rfl
        | 6, _ => rfl
        | 7, _ => rfl
        | 8, _ => rfl
        | 9, _ => rfl
        | 10, _ => rfl
        | 11, _ => rfl
      have k3 := ((((((((((((k2.setCell (p := ⟨w.heap.size + 2, 0, none⟩) (Nat.le_refl _) (.int .u16 (T' 0))).setCell (p := ⟨w.heap.size + 2, 1, none⟩) (Nat.le_refl _) (.int .u16 (T' 1))).setCell (p := ⟨w.heap.size + 2, 2, none⟩) (Nat.le_refl _) (.int .u16 (T' 2))).setCell (p := ⟨w.heap.size + 2, 3, none⟩) (Nat.le_refl _) (.int .u16 (T' 3))).setCell (p := ⟨w.heap.size + 2, 4, none⟩) (Nat.le_refl _) (.int .u16 (T' 4))).setCell (p := ⟨w.heap.size + 2, 5, none⟩) (Nat.le_refl _) (.int .u16 (T' 5))).setCell (p := ⟨w.heap.size + 2, 6, none⟩) (Nat.le_refl _) (.int .u16 (T' 6))).setCell (p := ⟨w.heap.size + 2, 7, none⟩) (Nat.le_refl _) (.int .u16 (T' 7))).setCell (p := ⟨w.heap.size + 2, 8, none⟩) (Nat.le_refl _) (.int .u16 (T' 8))).setCell (p := ⟨w.heap.size + 2, 9, none⟩) (Nat.le_refl _) (.int .u16 (T' 9))).setCell (p := ⟨w.heap.size + 2, 10, none⟩) (Nat.le_refl _) (.int .u16 (T' 10))).setCell (p := ⟨w.heap.size + 2, 11, none⟩) (Nat.le_refl _) (.int .u16 (T' 11)))
      have ROW3 := Lib.hid row3
      have K3 := Lib.hid k3
      have HTw := Lib.hid hTw
      clear row2 row3 k3 hTw rowX k2 kX
      go_wp2
      go_roundw
      case rel => exact ⟨m + 1, T', by omega, by go_num, by rw [List.take_add_one, Hx.out, Option.toList_some]; exact HTw.out, by rw [List.take_add_one, Hx.out, Option.toList_some]; exact HTf2.out, ROW3.out, K3.out⟩
      case measure => simp [intOf]; omega
    · have hml : m = l.length := by omega
      subst hml
      have hge : ¬ ((l.length : Int) < (l.length : Int)) := by omega
      rw [List.take_length] at hT
      have HT := Lib.hid hT
      have rowR := RR.out.of_block (hb.block _ (by omega))
      have kr : Below w.heap.size w wr := KW.out.trans (hb.mono (by omega))
      clear hT hb
      have r0 := rowF.cell (i := 0) (by omega)
      have r1 := rowF.cell (i := 1) (by omega)
      have r2 := rowF.cell (i := 2) (by omega)
      have r3 := rowF.cell (i := 3) (by omega)
      have r4 := rowF.cell (i := 4) (by omega)
      have r5 := rowF.cell (i := 5) (by omega)
      have r6 := rowF.cell (i := 6) (by omega)
      have r7 := rowF.cell (i := 7) (by omega)
      have r8 := rowF.cell (i := 8) (by omega)
      have r9 := rowF.cell (i := 9) (by omega)
      have r10 := rowF.cell (i := 10) (by omega)
      have r11 := rowF.cell (i := 11) (by omega)
      have g0 := rowR.cell (i := 0) (by omega)
      have g1 := rowR.cell (i := 1) (by omega)
      have g2 := rowR.cell (i := 2) (by omega)
      have g3 := rowR.cell (i := 3) (by omega)
      have g4 := rowR.cell (i := 4) (by omega)
      have g5 := rowR.cell (i := 5) (by omega)
      have g6 := rowR.cell (i := 6) (by omega)
      have g7 := rowR.cell (i := 7) (by omega)
      have g8 := rowR.cell (i := 8) (by omega)
      have g9 := rowR.cell (i := 9) (by omega)
      have g10 := rowR.cell (i := 10) (by omega)
      have g11 := rowR.cell (i := 11) (by omega)
      have e0 := rowR.frozen 0
      have e1 := rowR.frozen 1
      have e2 := rowR.frozen 2
      have e3 := rowR.frozen 3
      have e4 := rowR.frozen 4
      have e5 := rowR.frozen 5
      have e6 := rowR.frozen 6
      have e7 := rowR.frozen 7
      have e8 := rowR.frozen 8
      have e9 := rowR.frozen 9
      have e10 := rowR.frozen 10
      have e11 := rowR.frozen 11
      have KR := Lib.hid kr
      clear rowF rowR kr
      go_wp2
      refine bodyPost_ret (v := .agg #[.int .u16 (T 0), .int .u16 (T 1), .int .u16 (T 2), .int .u16 (T 3), .int .u16 (T 4), .int .u16 (T 5), .int .u16 (T 6), .int .u16 (T 7), .int .u16 (T 8), .int .u16 (T 9), .int .u16 (T 10), .int .u16 (T 11)]) (by simp [results, Try.results66, go_sem, g0, g1, g2, g3, g4, g5, g6, g7, g8, g9, g10, g11]) rfl ?_
      have hfin := HTf.out
      rw [List.take_length] at hfin
      rw [← hfin]
      exact ⟨rfl, HT.out, ((((((((((((KR.out.setCell (p := ⟨w.heap.size + 1, 0, none⟩) (by simp) _).setCell (p := ⟨w.heap.size + 1, 1, none⟩) (by simp) _).setCell (p := ⟨w.heap.size + 1, 2, none⟩) (by simp) _).setCell (p := ⟨w.heap.size + 1, 3, none⟩) (by simp) _).setCell (p := ⟨w.heap.size + 1, 4, none⟩) (by simp) _).setCell (p := ⟨w.heap.size + 1, 5, none⟩) (by simp) _).setCell (p := ⟨w.heap.size + 1, 6, none⟩) (by simp) _).setCell (p := ⟨w.heap.size + 1, 7, none⟩) (by simp) _).setCell (p := ⟨w.heap.size + 1, 8, none⟩) (by simp) _).setCell (p := ⟨w.heap.size + 1, 9, none⟩) (by simp) _).setCell (p := ⟨w.heap.size + 1, 10, none⟩) (by simp) _).setCell (p := ⟨w.heap.size + 1, 11, none⟩) (by simp) _)⟩
end Go.Proofs.Ytmiecebdkadhbaa
/-
  WHETHER A NUMBER IS IN A LIST: the model's look; a list's front.
-/
namespace Go.Proofs.Ytmiecebdkadhbaa
open Go.RowKit

theorem icells_getD {l : List Int} {j : Nat} (h : j < l.length) : (icells l)[j]? = some (.int .i64 (l.getD j 0)) := by
  simp [icells, List.getD_eq_getElem?_getD, List.getElem?_eq_getElem h]
theorem CRead.ints {w : World} {B : Nat} {A : Option Addr} {q : List Int} (h : CRead w B A (icells q)) (hq : 0 < q.length) : ∃ b off, A = some ⟨b, off, none⟩ ∧ b < B ∧ ∀ j, j < q.length → w.cell? ⟨b, off + j, none⟩ = some (.int .i64 (q.getD j 0)) := by
  obtain ⟨b, off, rfl, hb, _⟩ := h 0 _ (icells_getD hq)
  refine ⟨b, off, rfl, hb, fun j hj => ?_⟩
  obtain ⟨b', off', e, _, hc⟩ := h j _ (icells_getD hj)
  simp only [Option.some.injEq, Addr.mk.injEq, and_true] at e
  obtain ⟨rfl, rfl⟩ := e
  exact hc

theorem CRead.front {w : World} {B : Nat} {A : Option Addr} {q : List Int} (h : CRead w B A (icells q)) (k : Nat) : CRead w B A (icells (q.take k)) := fun j u hu => by
  refine h j u ?_
  unfold icells at hu ⊢
  rw [List.map_take, List.getElem?_take] at hu
  split at hu
  · exact hu
  · cases hu


/-- whether a number is in a list -/
def hasI (q : List Int) (x : Int) : Bool := q.contains x
theorem hasI_mem {q : List Int} {x : Int} : hasI q x = true ↔ x ∈ q := List.contains_iff_mem
set_option maxHeartbeats 1000000 in
theorem l1Has_any (q : List Int) (x : Int) (A : Option Addr) (c : Nat) (w : World) (hl : q.length ≤ 1048576) (hA : CRead w w.heap.size A (icells q)) :
    Calls Try.prog 69 #[.slice A q.length c, .int .i64 x] w fun e w' => e = .returned (.bool (hasI q x)) ∧ w = w' := by
  go_enter Try.func69, Try.ntmps69
  go_wp2
  go_loop [9] (fun i => ∃ k : Nat, k ≤ q.length ∧ i = .int .i64 k ∧ ∀ (j : Nat) (y : Int), j < k → q[j]? = some y → y ≠ x) (fun i => q.length - (intOf i).toNat)
  case atStart => exact ⟨0, Nat.zero_le _, rfl, fun j x hj => by omega⟩
  case round =>
    obtain ⟨k, hk, rfl, hg⟩ := hrel
    have Hg := Lib.hid hg
    clear hg
    by_cases hlt : k < q.length
    · obtain ⟨y, hy⟩ := getSome q k hlt
      obtain ⟨b, off, rfl, hbb, c0⟩ := hA.int hy
      have hki : (k : Int) < (q.length : Int) := by omega
      have Hy := Lib.hid hy
      clear hy
      by_cases hyx : y = x
      · subst hyx
        have He := Lib.hid (show hasI q y = true from hasI_mem.2 (List.mem_of_getElem? Hy.out))
        go_wp2
        go_ret
        exact ⟨by rw [He.out]; rfl, rfl⟩
      · go_wp2
        go_round
        case rel =>
          refine ⟨k + 1, by omega, by go_num, fun j z hj hz => ?_⟩
          by_cases hjk : j = k
          · subst hjk
            rw [Hy.out] at hz
            simp only [Option.some.injEq] at hz
            subst hz
            exact hyx
          · exact Hg.out j z (by omega) hz
        case measure => simp [intOf]; omega
    · have hkl : k = q.length := by omega
      have e : hasI q x = false := by
        rw [Bool.eq_false_iff]
        intro hc
        rw [hasI_mem] at hc
        obtain ⟨i, hi, e⟩ := List.getElem_of_mem hc
        exact Hg.out i _ (by omega) (List.getElem?_eq_getElem hi) e
      have He := Lib.hid e
      clear e
      have hge : ¬ ((k : Int) < (q.length : Int)) := by omega
      go_wp2
      go_ret
      exact ⟨by rw [He.out]; rfl, rfl⟩
end Go.Proofs.Ytmiecebdkadhbaa
/-
  'spec.l1Own': a copy of a list of numbers, by its contract.
-/
namespace Go.Proofs.Ytmiecebdkadhbaa
open Go.RowKit

set_option maxHeartbeats 1000000 in
set_option maxRecDepth 100000 in
theorem l1Own_any (q : List Int) (A : Option Addr) (c : Nat) (w : World) (hq : q.length ≤ 1048576) (h0 : 0 < q.length) (hA : CRead w w.heap.size A (icells q)) :
    Calls Try.prog 75 #[.slice A q.length c] w fun e w' => ∃ A' c', e = .returned (.slice A' q.length c') ∧ w'.ownsRow w.heap.size 3 1 (.slice A' q.length c') q.length (icells q) ∧ Below w.heap.size w w' := by
  obtain ⟨i0, hi, hz0, hz1, hz2⟩ := info_parts Try.infoInt
  obtain ⟨b, off, rfl, hb, hr⟩ := hA.ints h0
  go_enter Try.func75, Try.ntmps75
  have hc : ∀ j u, (icells q)[j]? = some u → (w.alloc (Obj.cells #[] 3)).cell? ((⟨b, off, none⟩ : Addr).add j) = some u := fun j u hu => by
    rw [Addr.add_lit]
    obtain ⟨b', off', e, _, hcell⟩ := hA j u hu
    simp only [Option.some.injEq, Addr.mk.injEq, and_true] at e
    obtain ⟨rfl, rfl⟩ := e
    exact (World.cell?_alloc_lt _ _ _ hb).trans hcell
  clear hr
  go_wp2_with (at_builtin; refine wpList_append_grows _ rfl _ _ 25 rfl 3 i0 _ 1 8 Try.underlying25 hi hz0 hz1 hz2 rfl (by decide) (some ⟨w.heap.size, 0, none⟩) 0 0 [] rfl (fun h => by cases h) rfl (fun b' hb' m u hu => by simp at hu) ⟨b, off, none⟩ q.length c (icells q) rfl (by simp [icells]) hc (icells_one q) (by omega) (by unfold maxLen; omega) (by omega) ?_; intro v1 w4 own4 gr4; simp only [Nat.zero_add, List.nil_append] at own4; obtain ⟨A4, d4, rfl, _⟩ := own_shape own4)
  go_ret
  exact ⟨A4, d4, rfl, own_lower own4 (by simp), below_of_gb (gb_trans (World.grownBy_alloc w _ none) gr4) (Nat.le_refl _)⟩
end Go.Proofs.Ytmiecebdkadhbaa
/-
  LISTS OF NUMBERS UNDER ONE SLICE, each row in a block of the call's own; 'spec.l1Own' of any list; 'spec.trGroups' as a plain list.
-/
namespace Go.Proofs.Ytmiecebdkadhbaa
open Go.RowKit

structure LRows (w : World) (B : Nat) (v : Value) (LL : List (List Int)) (hs : List Value) : Prop where
  own : w.ownsRow B 25 1 v LL.length hs
  row : ∀ (i : Nat) (l : List Int), LL[i]? = some l → ∃ A c, hs[i]? = some (Value.slice A l.length c) ∧ w.ownsRow B 3 1 (Value.slice A l.length c) l.length (icells l)
  nil : LL = [] → v = Value.slice none 0 0
section
variable {w w' : World} {B B' : Nat} {v v' v2 : Value} {LL L2 : List (List Int)} {hs hs2 : List Value}
theorem LRows.none (w : World) (B : Nat) : LRows w B (Value.slice Option.none 0 0) [] [] := ⟨World.ownsRow_nil _ _ _ _, fun i l h => by simp at h, fun _ => rfl⟩
theorem LRows.below (h : LRows w B v LL hs) (hb : Below w.heap.size w w') : LRows w' B v LL hs :=
  ⟨own_below h.own hb (Nat.le_refl _), fun i l hi => by obtain ⟨A, c, e, o⟩ := h.row i l hi; exact ⟨A, c, e, own_below o hb (Nat.le_refl _)⟩, h.nil⟩
theorem LRows.lower (h : LRows w B v LL hs) (hB : B' ≤ B) : LRows w B' v LL hs :=
  ⟨own_lower h.own hB, fun i l hi => by obtain ⟨A, c, e, o⟩ := h.row i l hi; exact ⟨A, c, e, own_lower o hB⟩, h.nil⟩
theorem LRows.length (h : LRows w B v LL hs) : hs.length = LL.length := by have := h.own.1; omega
theorem LRows.one (h : LRows w B v LL hs) : ∀ u ∈ hs, u.oneCell' = true := by
  intro u hu
  obtain ⟨i, hi, rfl⟩ := List.getElem_of_mem hu
  have hl := h.length
  obtain ⟨A, c, e, _⟩ := h.row i LL[i] (List.getElem?_eq_getElem (by omega))
  rw [List.getElem?_eq_getElem hi] at e
  simp only [Option.some.injEq] at e
  rw [e]
  rfl
theorem blocks_apart {e e' : TypeId} {size size' n m : Nat} {xs ys : List Value} (h : w.ownsRow B e size v n xs) (h' : w.ownsRow B' e' size' v' m ys) (hne : e ≠ e') : v'.ownBlock = .none ∨ v'.ownBlock ≠ v.ownBlock := by
  rcases h'.2 with ⟨rfl, _⟩ | ⟨g, cap, cur, rfl, _, hg, _⟩
  · exact .inl rfl
  · refine .inr fun e => ?_
    rcases h.2 with ⟨rfl, _⟩ | ⟨g2, cap2, cur2, rfl, _, hg2, _⟩
    · simp [Value.ownBlock] at e
    · have : g = g2 := by simpa [Value.ownBlock] using e
      subst this
      rw [hg] at hg2
      simp only [Option.some.injEq, Obj.cells.injEq] at hg2
      exact hne hg2.2.1.symm
/-- rows appended to rows -/
theorem LRows.append (h : LRows w B v LL hs) (h2 : LRows w B v2 L2 hs2) (hown : w'.ownsRow B 25 1 v' (LL.length + L2.length) (hs ++ hs2)) (hg : w.grownBy w' v.ownBlock) (hn : L2 ≠ []) : LRows w' B v' (LL ++ L2) (hs ++ hs2) := by
  have keep : ∀ A c l, w.ownsRow B 3 1 (.slice A l.length c) l.length (icells l) → w'.ownsRow B 3 1 (.slice A l.length c) l.length (icells l) := fun A c l o => o.kept hg (blocks_apart h.own o (show (25 : TypeId) ≠ 3 by decide))
  refine ⟨by rw [List.length_append]; exact hown, fun i l hi => ?_, fun e => ?_⟩
  · have hl := h.length
    by_cases hlt : i < LL.length
    · rw [List.getElem?_append_left hlt] at hi
      obtain ⟨A, c, e, o⟩ := h.row i l hi
      exact ⟨A, c, by rw [List.getElem?_append_left (by omega)]; exact e, keep A c l o⟩
    · rw [List.getElem?_append_right (by omega)] at hi
      obtain ⟨A, c, e, o⟩ := h2.row _ l hi
      exact ⟨A, c, by rw [List.getElem?_append_right (by omega), hl]; exact e, keep A c l o⟩
  · simp at e
    exact absurd e.2 hn
end
/-- A call came back with lists of numbers. -/
def GotLL (w : World) (LL : List (List Int)) (e : Ending) (w' : World) : Prop := ∃ A c hs, e = .returned (.slice A LL.length c) ∧ LRows w' w.heap.size (.slice A LL.length c) LL hs ∧ Below w.heap.size w w'

set_option maxHeartbeats 1000000 in
set_option maxRecDepth 100000 in
theorem l1Own_all (q : List Int) (A : Option Addr) (c : Nat) (w : World) (hq : q.length ≤ 1048576) (hA : CRead w w.heap.size A (icells q)) (h0 : q = [] → A = none ∧ c = 0) :
    Calls Try.prog 75 #[.slice A q.length c] w fun e w' => ∃ A' c', e = .returned (.slice A' q.length c') ∧ w'.ownsRow w.heap.size 3 1 (.slice A' q.length c') q.length (icells q) ∧ Below w.heap.size w w' := by
  by_cases hz : q = []
  · obtain ⟨rfl, rfl⟩ := h0 hz
    subst hz
    obtain ⟨i0, hi, hz0, hz1, hz2⟩ := info_parts Try.infoInt
    have h1 : (w.alloc (.cells #[] 3)).ownsRow w.heap.size 3 1 (.slice (some ⟨w.heap.size, 0, none⟩) 0 0) 0 [] := World.ownsRow_made w #[] 0 (Nat.le_refl _) (Nat.zero_le _) rfl
    go_enter Try.func75, Try.ntmps75
    go_wp2_with (at_builtin; refine wpList_append_own_none rfl _ _ 25 rfl w.heap.size 3 i0 1 Try.underlying25 hi (.slice (some ⟨w.heap.size, 0, none⟩) 0 0) 0 [] rfl h1 rfl ?_)
    go_ret
    exact ⟨_, _, rfl, h1, by go_grown⟩
  · have hpos : 0 < q.length := by cases q with | nil => exact absurd rfl hz | cons x q => simp
    exact l1Own_any q A c w hq hpos hA

/-! ## The model's candidates -/
def fromQ (q : List Int) : Nat := match q.getLast? with | none => 0 | some x => x.toNat + 1
def candR (t : Nat → Nat → Bool) (n : Nat) (q : List Int) (a : Nat) : List Nat := (List.range' a (n - a)).filter fun b => q.all fun y => t b y.toNat
theorem candR_end (t : Nat → Nat → Bool) (n : Nat) (q : List Int) {a : Nat} (h : n ≤ a) : candR t n q a = [] := by unfold candR; rw [Nat.sub_eq_zero_of_le h]; rfl
theorem candR_no {t : Nat → Nat → Bool} {n : Nat} {q : List Int} {a : Nat} (h : a < n) (hk : (q.all fun y => t a y.toNat) = false) : candR t n q a = candR t n q (a + 1) := by
  unfold candR
  rw [show n - a = (n - (a + 1)) + 1 from by omega, List.range'_succ, List.filter_cons_of_neg (by simp [hk])]
theorem candR_yes {t : Nat → Nat → Bool} {n : Nat} {q : List Int} {a : Nat} (h : a < n) (hk : (q.all fun y => t a y.toNat) = true) : candR t n q a = a :: candR t n q (a + 1) := by
  unfold candR
  rw [show n - a = (n - (a + 1)) + 1 from by omega, List.range'_succ, List.filter_cons_of_pos (by simpa using hk)]
theorem candR_tied {t : Nat → Nat → Bool} (hs : ∀ i j, t i j = t j i) (n : Nat) (q : List Int) (a : Nat) : (candR t n q (a + 1)).filter (t a) = candR t n (q ++ [(a : Int)]) (fromQ (q ++ [(a : Int)])) := by
  unfold candR fromQ
  simp only [List.getLast?_append, List.getLast?_singleton, Option.some_or, Int.toNat_natCast]
  rw [List.filter_filter]
  refine List.filter_congr fun b _ => ?_
  rw [List.all_append]
  simp [hs a b, Bool.and_comm]
end Go.Proofs.Ytmiecebdkadhbaa
