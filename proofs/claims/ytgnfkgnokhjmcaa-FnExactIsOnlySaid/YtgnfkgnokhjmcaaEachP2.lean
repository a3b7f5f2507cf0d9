/-
  Texts put together for the claims of 'Each' (pack 2): Iter, Boxed, NumsW, Has, Own, LeftOf, ToldP, LookP, EachI.
-/
import Derived.Test.YtgnfkgnokhjmcaaEachP1
import Derived.RangeFuncNested
import Derived.RangeFuncBound
import Derived.RangeFuncCalls
import Derived.RangeFuncLeaves
import Derived.Shelf.Abstract
import Derived.Shelf.RegionOpen
import Derived.OwnWalkIn
import Derived.TacticsInMore
import Derived.LoopNIn
import Derived.LoopIn
import Derived.Laws.OwnMore
import Derived.ArgAppend
import Derived.Deep.OwnRows
import Derived.Lib.LazyBuf
import Derived.Laws.IdiomCopy
import Derived.Deep.RegionLawGrows
import Derived.BigQuiet
import Derived.Deep.Cut
import Derived.Deep.RegionHeldLaw
/-
  A RANGE OVER AN ITERATOR THAT WRITES CELLS OF ITS OWN BETWEEN TWO ROUNDS (and whose rounds read them): the contract of such an iterator ('Seq'), and the law of the statement. Nothing here speaks of the program.
-/
namespace Go.Proofs.Ytgnfkgnokhjmcaa
open Go.RowKit

/-- What lay is as it lay, but for blocks of S. -/
structure Apart (S : Nat → Prop) (A C : World) : Prop where
  below : Below 0 A C
  same : ∀ j, j < A.heap.size → ¬ S j → C.heap[j]? = A.heap[j]?
/-- The blocks of S are as they were. -/
structure Stays (S : Nat → Prop) (A C : World) : Prop where
  below : Below 0 A C
  same : ∀ j, j < A.heap.size → S j → C.heap[j]? = A.heap[j]?
theorem Apart.refl (S : Nat → Prop) (A : World) : Apart S A A := ⟨Below.refl _ _, fun _ _ _ => rfl⟩
theorem Apart.mono {S S' : Nat → Prop} {A C : World} (h : Apart S A C) (hS : ∀ j, S j → S' j) : Apart S' A C := ⟨h.below, fun j hj hn => h.same j hj fun hs => hn (hS j hs)⟩
theorem Stays.mono {S S' : Nat → Prop} {A C : World} (h : Stays S A C) (hS : ∀ j, S' j → S j) : Stays S' A C := ⟨h.below, fun j hj hs => h.same j hj (hS j hs)⟩
theorem Stays.refl (S : Nat → Prop) (A : World) : Stays S A A := ⟨Below.refl _ _, fun _ _ _ => rfl⟩
theorem Stays.trans {S : Nat → Prop} {A C D : World} (h : Stays S A C) (k : Stays S C D) : Stays S A D :=
  ⟨h.below.trans k.below, fun j hj hs => (k.same j (Nat.lt_of_lt_of_le hj h.below.size) hs).trans (h.same j hj hs)⟩
theorem Apart.trans {S S' : Nat → Prop} {A C D : World} (h : Apart S A C) (k : Apart S' C D) (hS : ∀ j, S' j → S j ∨ A.heap.size ≤ j) : Apart S A D :=
  ⟨h.below.trans k.below, fun j hj hn => (k.same j (Nat.lt_of_lt_of_le hj h.below.size) (fun hs => by rcases hS j hs with h' | h'; exact hn h'; omega)).trans (h.same j hj hn)⟩
theorem Apart.putObj (W : World) (l : Nat) (o : Obj) : Apart (fun j => j = l) W (W.putObj l o) :=
  ⟨(Below.refl 0 W).grown (grownBy_putObj' W l o) (Nat.zero_le _) (fun k _ => Nat.zero_le k), fun _ _ hn => World.putObj_heap_other hn⟩
theorem Apart.alloc (S : Nat → Prop) (W : World) (o : Obj) : Apart S W (W.alloc o) := ⟨(Below.refl 0 W).alloc (Nat.zero_le _) o, fun j hj _ => Below.heap_alloc W o j hj⟩
theorem Stays.alloc (S : Nat → Prop) (W : World) (o : Obj) : Stays S W (W.alloc o) := ⟨(Below.refl 0 W).alloc (Nat.zero_le _) o, fun j hj _ => Below.heap_alloc W o j hj⟩
theorem Stays.putObj {S : Nat → Prop} {l : Nat} (hl : ¬ S l) (W : World) (o : Obj) : Stays S W (W.putObj l o) :=
  ⟨(Below.refl 0 W).grown (grownBy_putObj' W l o) (Nat.zero_le _) (fun k _ => Nat.zero_le k), fun _ _ hs => World.putObj_heap_other fun e => hl (e ▸ hs)⟩
theorem Stays.setCell {S : Nat → Prop} {p : Addr} (hl : ¬ S p.block) (W : World) (u : Value) : Stays S W (W.setCell p u) :=
  ⟨(Below.refl 0 W).setCell (Nat.zero_le _) u, fun j _ hs => Below.heap_setCell W p u j fun e => hl (e ▸ hs)⟩
theorem Apart.grown {S : Nat → Prop} {W W' : World} {row : Option Nat} (hg : W.grownBy W' row) (h : ∀ k, row = some k → S k) : Apart S W W' :=
  ⟨(Below.refl 0 W).grown hg (Nat.zero_le _) (fun k _ => Nat.zero_le k), fun j hj hn => hg.block j hj fun e => hn (h j e.symm)⟩
theorem Stays.grown {S : Nat → Prop} {W W' : World} {row : Option Nat} (hg : W.grownBy W' row) (h : ∀ k, row = some k → ¬ S k) : Stays S W W' :=
  ⟨(Below.refl 0 W).grown hg (Nat.zero_le _) (fun k _ => Nat.zero_le k), fun j hj hs => hg.block j hj fun e => h j e.symm hs⟩
theorem Stays.of_below {S : Nat → Prop} {W W' : World} (h : Below W.heap.size W W') : Stays S W W' := ⟨h.mono (Nat.zero_le _), fun j hj _ => h.block j hj⟩
theorem Apart.of_below {S : Nat → Prop} {W W' : World} (h : Below W.heap.size W W') : Apart S W W' := ⟨h.mono (Nat.zero_le _), fun j hj _ => h.block j hj⟩
theorem Apart.cell {S : Nat → Prop} {A C : World} (h : Apart S A C) {p : Addr} {v : Value} (hc : A.cell? p = some v) (hn : ¬ S p.block) : C.cell? p = some v :=
  (World.cell?_of_block (h.same p.block (World.block_lt_of_cell? A p hc) hn)).trans hc
theorem Apart.frozen {S : Nat → Prop} {A C : World} (h : Apart S A C) {p : Addr} {v : Value} (hc : A.cell? p = some v) (hn : ¬ S p.block) : C.frozen? p = A.frozen? p :=
  World.frozen?_of_block (h.same p.block (World.block_lt_of_cell? A p hc) hn)
theorem Stays.cell {S : Nat → Prop} {A C : World} (h : Stays S A C) {p : Addr} {v : Value} (hc : A.cell? p = some v) (hn : S p.block) : C.cell? p = some v :=
  (World.cell?_of_block (h.same p.block (World.block_lt_of_cell? A p hc) hn)).trans hc
theorem Apart.below_of {S : Nat → Prop} {A C : World} (h : Apart S A C) {B : Nat} (hB : B ≤ A.heap.size) (hS : ∀ j, S j → B ≤ j) : Below B A C :=
  ⟨h.below.os, h.below.tape, h.below.output, h.below.size, fun k hk => h.same k (by omega) fun hs => by have := hS k hs; omega⟩

theorem roundIn_any {m m' : Nat} {P : Program} {l : Nat} {f : FuncId} {tmps : Array Value} {assign body : Code} {w : World} {R : Ending → World → Prop}
    (h : RoundIn Fence.wide m P l f tmps assign body w R) : RoundIn Fence.wide m' P l f tmps assign body w R := ⟨h.1, fun c cs _ => h.2 c cs (room_wide _)⟩
theorem yield_any {m m' : Nat} {P : Program} {l : Nat} {args : Array Value} {W : World} {R : Ending → World → Prop} (h : YieldAt Fence.wide m P l args W R) : YieldAt Fence.wide m' P l args W R := by
  obtain ⟨fn, tmps, assign, body, hy, hR⟩ := h
  exact ⟨fn, tmps, assign, body, hy, roundIn_any hR⟩

/-- What is held between two rounds abides whatever turns blocks that are not the holder's own. -/
def Held {α : Type} (J : (Nat → Prop) → List α → World → Prop) : Prop :=
  ∀ T T' pre A C, J T pre A → Apart T A C → (∀ j, T' j → T j ∨ (A.heap.size ≤ j ∧ j < C.heap.size)) → J T' pre C

/-- THE ITERATOR's CONTRACT: all of xs come, one after the other; or a round has said 'no more' behind some of them. 'Rd T x args W': what a round is handed, and what it may read of the iterator's own blocks T; R: other blocks that a round keeps. -/
def Seq {α : Type} (P : Program) (g : Nat) (lb : Array Value) (R : Nat → Prop) (Rd : (Nat → Prop) → α → Array Value → World → Prop) (xs : List α) (w0 : World) : Prop :=
  ∀ (l : Nat) (J Jx : (Nat → Prop) → List α → World → Prop) (W : World), Below w0.heap.size w0 W → Held J →
    (∀ T pre x args W1, J T pre W1 → Rd T x args W1 → pre ++ [x] <+: xs → YieldAt Fence.wide 0 P l args W1 fun e W' =>
      (e = .returned (.bool true) ∧ J T (pre ++ [x]) W' ∧ Stays (fun j => T j ∨ R j) W1 W') ∨ (e = .returned (.bool false) ∧ Jx T (pre ++ [x]) W')) →
    J (fun _ => False) [] W →
    Calls P g (#[.func (.yield l) #[] #[]] ++ lb) W fun e W' => (∃ v, e = .returned v) ∧ ((∃ T, J T xs W') ∨ (∃ T pre x, pre ++ [x] <+: xs ∧ Jx T (pre ++ [x]) W'))

/-- HOW THE BODY OF A ROUND MAY BE LEFT. -/
def iterPost {α : Type} (B : Nat) (S R : Nat → Prop) (I : (Nat → Prop) → List α → World → Prop) (Ix : Code → List α → World → Prop) (xs : List α) (W : World) : Exit → Act → World → Prop
  | .normal, _, W' => Stays (fun j => S j ∨ R j) W W' ∧ I S xs W'
  | .ret, _, W' => Stays (fun j => B ≤ j ∧ j ≤ B + 1) W W' ∧ Ix .ret xs W'
  | .exit id, _, W' => Stays (fun j => B ≤ j ∧ j ≤ B + 1) W W' ∧ Ix (.exit id) xs W'
  | .goto t, _, W' => Stays (fun j => B ≤ j ∧ j ≤ B + 1) W W' ∧ Ix (.goto t) xs W'
  | .panic _, _, _ => False
  | .outgrown, _, _ => False

variable {P : Program}
theorem wpIn_rangeFunc_iter {α : Type} {n : Nat} {g : Operand} {ps : Array Tmp} {assign body : Code} {Q : Exit → Act → World → Prop} {a : Act} {w : World}
    {gf : Nat} {lb : Array Value} (hg : a.eval g = .func (.func gf) #[] lb) (eg : ∀ args w, (callFunc gf args).run P w = .ok (.enter gf args) w)
    {R : Nat → Prop} {Rd : (Nat → Prop) → α → Array Value → World → Prop} {xs : List α} {w0 : World} (hseq : Seq P gf lb R Rd xs w0) (hb0 : Below w0.heap.size w0 w) (hR : ∀ j, R j → j < w.heap.size)
    (hRd : ∀ T x args A C, Rd T x args A → Stays T A C → Rd T x args C) (hps : ∀ T x args W, Rd T x args W → args.size = ps.size)
    (I : (Nat → Prop) → List α → World → Prop) (Ix : Code → List α → World → Prop) (hI : Held I) (hIx : ∀ c pre A C, Ix c pre A → Apart (fun j => j = w.heap.size + 1) A C → Ix c pre C)
    (h0 : I (fun _ => False) [] w) (a₁ : Array Value → Act)
    (hassign : ∀ (l : Nat) (T : Nat → Prop) (x : α) (args : Array Value) (W : World) (K : Act → World → Prop), Rd T x args W → K (a₁ args) W →
      assign.wpIn (Fence.wide.inRound l) n P (Exit.then K (fun _ _ _ => False)) { tmps := (ps.zip args).foldl (fun t (p, v) => t.setIfInBounds p v) a.tmps, defers := [] } W)
    (hbody : ∀ (l : Nat) (T S : Nat → Prop) (pre : List α) (x : α) (args : Array Value) (W : World), I S pre W → Rd T x args W → (∀ j, T j → S j) →
      body.wpIn (Fence.wide.inRound l) n P (iterPost w.heap.size S R I Ix (pre ++ [x]) W) (a₁ args) W)
    (hdone : ∀ (S : Nat → Prop) (W : World), I S xs W → W.heap[w.heap.size]? = some (.deferred (some [])) → Q .normal { a with defers := { target := .collected w.heap.size, args := #[] } :: a.defers } W)
    (hstop : ∀ (c : Code) (pre : List α) (x : α) (W : World), pre ++ [x] <+: xs → Ix c (pre ++ [x]) W → W.heap[w.heap.size]? = some (.deferred (some [])) → c.wpIn Fence.wide n P Q { a with defers := { target := .collected w.heap.size, args := #[] } :: a.defers } W) :
    (Code.rangeFunc g ps assign body).wpIn Fence.wide n P Q a w := by
  refine wpIn_rangeFunc ?_
  intro fn hfn
  rw [show Fence.wide.round = none from rfl]
  obtain ⟨rec, hrec⟩ : ∃ rec : LoopState → Option Code → Loop, rec = fun st pe => { state := st, pending := pe, fn, tmps := a.tmps, params := ps, assign, body, defers := w.heap.size } := ⟨_, rfl⟩
  obtain ⟨W1, hW1⟩ : ∃ W1, (w.alloc (.deferred (some []))).alloc (.loop (rec .ready none)) = W1 := ⟨_, rfl⟩
  have hL1 : W1.heap[w.heap.size + 1]? = some (.loop (rec .ready none)) := by
    rw [← hW1]; have := World.alloc_heap_new (w.alloc (.deferred (some []))) (.loop (rec .ready none)); rwa [World.size_alloc] at this
  have hK1 : W1.heap[w.heap.size]? = some (.deferred (some [])) := by
    rw [← hW1]; exact (Below.heap_alloc _ _ _ (by simp)).trans (World.alloc_heap_new w _)
  have hw1 : Below w.heap.size w W1 := by rw [← hW1]; exact (((Below.refl _ w).alloc (Nat.le_refl _) _).alloc (by simp) _)
  have hb1 : Below w0.heap.size w0 W1 := hb0.trans (hw1.mono hb0.size)
  have hz1 : W1.heap.size = w.heap.size + 2 := by rw [← hW1]; simp
  have hI1 : I (fun j => j = w.heap.size ∨ j = w.heap.size + 1) [] W1 := hI _ _ _ _ _ h0 (Apart.of_below hw1) (fun j hj => .inr (by omega))
  refine ⟨w.heap.size + 1, [{ target := .collected w.heap.size, args := #[] }], W1, { target := .fn (.func gf) lb, args := #[.func (.yield (w.heap.size + 1)) #[] #[]] }, W1, gf,
    #[.func (.yield (w.heap.size + 1)) #[] #[]] ++ lb, W1, ?_, ?_, ?_, ?_, fun h => (by cases h), ?_⟩
  · rw [← hW1, hrec]; exact run_enterLoop_outer _ _ _ _ _
  · simp only [resolve, hg]
    simp [go_sem]
  · intro f' hf'; trivial
  · simp [invoke, go_sem, eg]
  · refine callsIn_wide.2 ?_
    refine (hseq (w.heap.size + 1)
      (fun T pre W => I (fun j => T j ∨ j = w.heap.size ∨ j = w.heap.size + 1) pre W ∧ (∀ j, T j → w.heap.size + 2 ≤ j) ∧ W.heap[w.heap.size + 1]? = some (.loop (rec .ready none)) ∧ W.heap[w.heap.size]? = some (.deferred (some [])))
      (fun T pre W => ∃ c, Ix c pre W ∧ W.heap[w.heap.size + 1]? = some (.loop (rec .done (some c))) ∧ W.heap[w.heap.size]? = some (.deferred (some [])))
      W1 hb1 ?held ?round ⟨hI _ _ _ _ _ hI1 (Apart.refl _ _) (fun j hj => by rcases hj with h | h; exact h.elim; exact .inl h), fun j h => h.elim, hL1, hK1⟩).mono ?_
    case held =>
      rintro T T' pre A C ⟨hi, hT, hl, hk⟩ hA hT'
      have hlt : w.heap.size + 1 < A.heap.size := (Array.getElem?_eq_some_iff.1 hl).1
      refine ⟨hI _ _ _ _ _ hi (hA.mono fun j hj => .inl hj) (fun j hj => ?_), fun j hj => ?_, (hA.same _ hlt (fun h => by have := hT _ h; omega)).trans hl, (hA.same _ (by omega) (fun h => by have := hT _ h; omega)).trans hk⟩
      · rcases hj with hj | hj
        · rcases hT' j hj with h | h
          · exact .inl (.inl h)
          · exact .inr h
        · exact .inl (.inr hj)
      · rcases hT' j hj with h | h
        · exact hT j h
        · omega
    case round =>
      rintro T pre x args W ⟨hi, hT, hl, hk⟩ hrd _
      have hlt : w.heap.size + 1 < W.heap.size := (Array.getElem?_eq_some_iff.1 hl).1
      have hnT : ¬ T (w.heap.size + 1) := fun h => by have := hT _ h; omega
      have hnR : ¬ (T (w.heap.size + 1) ∨ R (w.heap.size + 1)) := fun h => by rcases h with h | h; exact hnT h; have := hR _ h; omega
      have hy := run_yield (P := P) (args := args) hl (by rw [hrec]; exact hps T x args W hrd)
      rw [hrec] at hy
      refine yield_any (m := n + 1) ⟨fn, _, assign, body, hy, roundIn_any (m := n) (roundIn_of_wpIn hfn (hassign _ T x args W _ hrd ⟨_, run_beginRound hl (by rw [hrec]), ?_⟩))⟩
      have hl2 : (W.putObj (w.heap.size + 1) (.loop { rec .ready none with state := .busy })).heap[w.heap.size + 1]? = some (.loop { rec .ready none with state := .busy }) := World.putObj_heap_same hlt
      have hk2 : (W.putObj (w.heap.size + 1) (.loop { rec .ready none with state := .busy })).heap[w.heap.size]? = some (.deferred (some [])) := (World.putObj_heap_other (by omega)).trans hk
      have hi2 := hI _ _ _ _ _ hi ((Apart.putObj W (w.heap.size + 1) (.loop { rec .ready none with state := .busy })).mono fun j hj => .inr (.inr hj)) (fun j hj => .inl hj)
      have hst := Stays.putObj (S := fun j => T j ∨ R j) hnR W (.loop { rec .ready none with state := .busy })
      have hlz := (Array.getElem?_eq_some_iff.1 hl2).1
      have hkz := (Array.getElem?_eq_some_iff.1 hk2).1
      refine wpIn_mono (hbody _ T _ pre x args _ hi2 (hRd _ _ _ _ _ hrd (hst.mono fun j hj => .inl hj)) fun j hj => .inl hj) ?_
      have fin : ∀ (jump : Option Code) (W3 : World), W3.heap[w.heap.size + 1]? = some (.loop { rec .ready none with state := .busy }) → W3.heap[w.heap.size]? = some (.deferred (some [])) →
          (Instr.endRound (w.heap.size + 1) jump).run P W3 = .ok (.bool jump.isNone) (W3.putObj (w.heap.size + 1) (.loop (rec (if jump.isNone then .ready else .done) jump))) ∧
          (W3.putObj (w.heap.size + 1) (.loop (rec (if jump.isNone then .ready else .done) jump))).heap[w.heap.size + 1]? = some (.loop (rec (if jump.isNone then .ready else .done) jump)) ∧
          (W3.putObj (w.heap.size + 1) (.loop (rec (if jump.isNone then .ready else .done) jump))).heap[w.heap.size]? = some (.deferred (some [])) := fun jump W3 hl3 hk3 => by
        have := run_endRound (P := P) jump hl3
        rw [hrec] at this ⊢
        exact ⟨this, World.putObj_heap_same (Array.getElem?_eq_some_iff.1 hl3).1, (World.putObj_heap_other (by omega)).trans hk3⟩
      rintro e a3 W3 hp
      cases e with
      | normal =>
        obtain ⟨hs3, hi3⟩ := hp
        have hl3 := (hs3.same (w.heap.size + 1) hlz (.inl (.inr (.inr rfl)))).trans hl2
        have hk3 := (hs3.same w.heap.size hkz (.inl (.inr (.inl rfl)))).trans hk2
        obtain ⟨hr, hl4, hk4⟩ := fin none W3 hl3 hk3
        refine ⟨_, _, hr, .inl ⟨rfl, ⟨hI _ _ _ _ _ hi3 ((Apart.putObj W3 _ _).mono fun j hj => .inr (.inr hj)) (fun j hj => .inl hj), hT, hl4, hk4⟩, ?_⟩⟩
        exact (hst.trans (hs3.mono fun j hj => hj.elim (fun h => .inl (.inl h)) .inr)).trans (Stays.putObj (S := fun j => T j ∨ R j) hnR W3 _)
      | ret =>
        obtain ⟨hs3, hi3⟩ := hp
        obtain ⟨hr, hl4, hk4⟩ := fin (some .ret) W3 ((hs3.same (w.heap.size + 1) hlz (by omega)).trans hl2) ((hs3.same w.heap.size hkz (by omega)).trans hk2)
        exact ⟨_, _, hr, .inr ⟨rfl, .ret, hIx _ _ _ _ hi3 (Apart.putObj W3 _ _), hl4, hk4⟩⟩
      | exit id =>
        obtain ⟨hs3, hi3⟩ := hp
        obtain ⟨hr, hl4, hk4⟩ := fin (some (.exit id)) W3 ((hs3.same (w.heap.size + 1) hlz (by omega)).trans hl2) ((hs3.same w.heap.size hkz (by omega)).trans hk2)
        exact ⟨_, _, hr, .inr ⟨rfl, .exit id, hIx _ _ _ _ hi3 (Apart.putObj W3 _ _), hl4, hk4⟩⟩
      | goto t =>
        obtain ⟨hs3, hi3⟩ := hp
        obtain ⟨hr, hl4, hk4⟩ := fin (some (.goto t)) W3 ((hs3.same (w.heap.size + 1) hlz (by omega)).trans hl2) ((hs3.same w.heap.size hkz (by omega)).trans hk2)
        exact ⟨_, _, hr, .inr ⟨rfl, .goto t, hIx _ _ _ _ hi3 (Apart.putObj W3 _ _), hl4, hk4⟩⟩
      | panic ch => exact hp.elim
      | outgrown => exact hp.elim
    · rintro e W2 ⟨⟨v, rfl⟩, (⟨T, hi, hT, hl, hk⟩ | ⟨T, pre, x, hpre, c, hi, hl, hk⟩)⟩
      · exact ⟨none, _, by have := run_endLoop (P := P) hl (by rw [hrec]; simp); rw [hrec] at this; exact this, hdone _ _ (hI _ _ _ _ _ hi ((Apart.putObj W2 _ _).mono fun j hj => .inr (.inr hj)) (fun j hj => .inl hj)) ((World.putObj_heap_other (by omega)).trans hk)⟩
      · exact ⟨some c, _, by have := run_endLoop (P := P) hl (by rw [hrec]; simp); rw [hrec] at this; exact this, hstop c pre x _ hpre (hIx _ _ _ _ hi (Apart.putObj W2 _ _)) ((World.putObj_heap_other (by omega)).trans hk)⟩
end Go.Proofs.Ytgnfkgnokhjmcaa
/-
  BOXES that a recursion is handed: their cells, and rows apart from them.
-/
namespace Go.Proofs.Ytgnfkgnokhjmcaa
open Go.RowKit

theorem own_none2 {w : World} {B : Nat} {e : TypeId} {size m c : Nat} {A : Option Addr} {xs : List Value} (h : w.ownsRow B e size (.slice A m c) m xs) : (A = none ∧ m = 0 ∧ c = 0) ∨ ∃ g, A = some ⟨g, 0, none⟩ := by
  rcases h.2 with ⟨h1, h2⟩ | ⟨g, cap, cur, hv, _⟩
  · simp only [Value.slice.injEq] at h1
    exact .inl ⟨h1.1, h2, h1.2.2⟩
  · simp only [Value.slice.injEq] at hv
    exact .inr ⟨g, hv.1⟩
theorem own_ap {S : Nat → Prop} {w w' : World} {B : Nat} {e : TypeId} {size n : Nat} {v : Value} {xs : List Value} (h : w.ownsRow B e size v n xs) (ha : Apart S w w') (hS : ∀ j, S j → j < B) : w'.ownsRow B e size v n xs := by
  refine ⟨h.1, ?_⟩
  rcases h.2 with h1 | ⟨g, cap, cur, hv, hb, hg, rest⟩
  · exact .inl h1
  · exact .inr ⟨g, cap, cur, hv, hb, (ha.same g (Array.getElem?_eq_some_iff.1 hg).1 (fun hs => by have := hS g hs; omega)).trans hg, rest⟩
theorem Apart.setCell {S : Nat → Prop} {A : World} {p : Addr} (hp : S p.block) (v : Value) : Apart S A (A.setCell p v) :=
  ⟨(Below.refl 0 A).setCell (Nat.zero_le _) v, fun j _ hn => Below.heap_setCell A p v j fun e => hn (e ▸ hp)⟩
theorem box_set {w : World} {b : Nat} {v u : Value} {t : TypeId} (h : w.heap[b]? = some (Obj.cells #[v] t)) : (w.setCell ⟨b, 0, none⟩ u).heap[b]? = some (Obj.cells #[u] t) := by
  simp [World.setCell, Array.getElem?_modify, h]
theorem cell_in {w : World} {b : Nat} {v : Value} {t : TypeId} (h : w.heap[b]? = some (Obj.cells #[v] t)) : w.cell? ⟨b, 0, none⟩ = some v := by rw [cell_of_row _ _ _ _ _ _ h]; rfl
theorem two_cellsB {w : World} {g : Nat} {u v : Value} (h : w.cell? ⟨g, 0, none⟩ = some u) (h' : w.cell? ⟨g, 1, none⟩ = some v) : ∀ j x, [u, v][j]? = some x → w.cell? ((⟨g, 0, none⟩ : Addr).add j) = some x := by
  intro j x hx
  match j, hx with
  | 0, hx => simp at hx; subst hx; simpa [Addr.add] using h
  | 1, hx => simp at hx; subst hx; simpa [Addr.add] using h'
theorem two_oneB {u v : Value} (h : u.oneCell' = true) (h' : v.oneCell' = true) : ∀ x ∈ [u, v], x.oneCell' = true := by
  intro x hx
  simp at hx
  rcases hx with rfl | rfl
  · exact h
  · exact h'
theorem own_cell {w : World} {B g n c : Nat} {l : List Int} {j : Nat} {x : Int} (h : w.ownsRow B 3 1 (.slice (some ⟨g, 0, none⟩) n c) n (icells l)) (hj : l[j]? = some x) : w.cell? ⟨g, j, none⟩ = some (.int .i64 x) := by
  obtain ⟨b, off, e, _, hc⟩ := (CRead.of_own h).int hj
  simp only [Option.some.injEq, Addr.mk.injEq, and_true] at e
  obtain ⟨rfl, rfl⟩ := e
  rwa [Nat.zero_add] at hc
theorem own_set {w : World} {B g n c : Nat} {l : List Int} (h : w.ownsRow B 3 1 (.slice (some ⟨g, 0, none⟩) n c) n (icells l)) (j : Nat) (x : Int) : (w.setCell ⟨g, j, none⟩ (.int .i64 x)).ownsRow B 3 1 (.slice (some ⟨g, 0, none⟩) n c) n (icells (l.set j x)) := by
  have h1 := (h.stored j (.int .i64 x)).1
  rwa [show (icells l).set j (.int .i64 x) = icells (l.set j x) by simp [icells, List.map_set]] at h1
end Go.Proofs.Ytgnfkgnokhjmcaa
/-
  NUMBERS OF FRIENDS: what they are, by the model's and the program's contracts.
-/
namespace Go.Proofs.Ytgnfkgnokhjmcaa
open Go.RowKit

def l1AllB (q : List Int) (lo hi : Int) : Bool := q.all fun x => decide (lo ≤ x ∧ x ≤ hi)
theorem l1AllB_yes {q : List Int} {lo hi : Int} (h : ∀ (j : Nat) (x : Int), j < q.length → q[j]? = some x → lo ≤ x ∧ x ≤ hi) : l1AllB q lo hi = true := by
  simp only [l1AllB, List.all_eq_true, decide_eq_true_eq]
  intro x hx
  obtain ⟨i, hi, rfl⟩ := List.getElem_of_mem hx
  exact h i _ hi (List.getElem?_eq_getElem hi)
theorem l1AllB_no {q : List Int} {lo hi : Int} {k : Nat} {x : Int} (hx : q[k]? = some x) (h : ¬ (lo ≤ x ∧ x ≤ hi)) : l1AllB q lo hi = false := by
  cases he : l1AllB q lo hi with
  | false => rfl
  | true =>
    simp only [l1AllB, List.all_eq_true, decide_eq_true_eq] at he
    exact absurd (he x (List.mem_of_getElem? hx)) h

set_option maxHeartbeats 1000000 in
theorem l1All_any (q : List Int) (A : Option Addr) (c : Nat) (lo hi : Int) (w : World) (hl : q.length ≤ 1048576) (hA : CRead w w.heap.size A (icells q)) :
    Calls Try.prog 35 #[.slice A q.length c, .int .i64 lo, .int .i64 hi] w fun e w' => e = .returned (.bool (l1AllB q lo hi)) ∧ w = w' := by
  go_enter Try.func35, Try.ntmps35
  go_wp2
  go_loop [11] (fun i => ∃ k : Nat, k ≤ q.length ∧ i = .int .i64 k ∧ ∀ (j : Nat) (x : Int), j < k → q[j]? = some x → lo ≤ x ∧ x ≤ hi) (fun i => q.length - (intOf i).toNat)
  case atStart => exact ⟨0, Nat.zero_le _, rfl, fun j x hj => by omega⟩
  case round =>
    obtain ⟨k, hk, rfl, hg⟩ := hrel
    have Hg := Lib.hid hg
    clear hg
    by_cases hlt : k < q.length
    · obtain ⟨x, hx⟩ := getSome q k hlt
      obtain ⟨b, off, rfl, hbb, c0⟩ := hA.int hx
      have hki : (k : Int) < (q.length : Int) := by omega
      have Hx := Lib.hid hx
      clear hx
      by_cases hin : lo ≤ x ∧ x ≤ hi
      · go_wp2_with (go_at_call 36; refine (l1In_yes _ _ _ hin.1 hin.2 _).mono ?_; rintro e w' ⟨rfl, rfl⟩)
        go_round
        case rel =>
          refine ⟨k + 1, by omega, by go_num, fun j y hj hy => ?_⟩
          by_cases hjk : j = k
          · subst hjk
            rw [Hx.out] at hy
            simp only [Option.some.injEq] at hy
            subst hy
            exact hin
          · exact Hg.out j y (by omega) hy
        case measure => simp [intOf]; omega
      · have e : l1AllB q lo hi = false := l1AllB_no Hx.out hin
        have He := Lib.hid e
        clear e
        go_wp2_with (go_at_call 36; refine (l1In_no _ _ _ (by omega) _).mono ?_; rintro e w' ⟨rfl, rfl⟩)
        go_ret
        exact ⟨by rw [He.out]; rfl, rfl⟩
    · have hkl : k = q.length := by omega
      have e : l1AllB q lo hi = true := l1AllB_yes fun j x hj hx => Hg.out j x (by omega) hx
      have He := Lib.hid e
      clear e
      have hge : ¬ ((k : Int) < (q.length : Int)) := by omega
      go_wp2
      go_ret
      exact ⟨by rw [He.out]; rfl, rfl⟩

theorem isNums_all {q : List Int} (h : q.length ≤ 12) : l1AllB q 0 ((q.length : Int) - 1) = isNums q := by
  unfold l1AllB isNums
  rw [decide_eq_true h, Bool.true_and]
  congr 1
  funext x
  congr 1
  apply propext
  omega

set_option maxHeartbeats 1000000 in
theorem deGood_any (q : List Int) (A : Option Addr) (c : Nat) (w : World) (hl : q.length ≤ 1048576) (hA : CRead w w.heap.size A (icells q)) :
    Calls Try.prog 28 #[.slice A q.length c] w fun e w' => e = .returned (.bool (isNums q)) ∧ w = w' := by
  by_cases h : q.length ≤ 12
  · have e := isNums_all h
    have He := Lib.hid e
    clear e
    have hi : (q.length : Int) ≤ 12 := by omega
    go_enter Try.func28, Try.ntmps28
    go_wp2_with fail
    refine (l1All_any _ _ _ _ _ _ hl hA).mono ?_
    rw [He.out]
    rintro e w' ⟨rfl, rfl⟩
    go_wp2
    go_ret
    exact ⟨rfl, rfl⟩
  · rw [isNums_many (by omega)]
    have hi : ¬ (q.length : Int) ≤ 12 := by omega
    go_enter Try.func28, Try.ntmps28
    go_wp2
    go_ret
    exact ⟨rfl, rfl⟩

def resIsNumbers (q : List Int) : Bool := isNums q
set_option maxHeartbeats 1000000 in
theorem isNumbers_any (q : List Int) (A : Option Addr) (c : Nat) (w : World) (hl : q.length ≤ 1048576) (hA : CRead w w.heap.size A (icells q)) :
    Calls Try.prog 31 #[.slice A q.length c] w fun e w' => e = .returned (.bool (isNums q)) ∧ w = w' := by
  by_cases h : q.length ≤ 12
  · have hi : ¬ (12 < (q.length : Int)) := by omega
    go_enter Try.func31, Try.ntmps31
    go_wp2
    go_loop [10] (fun i => ∃ k : Nat, k ≤ q.length ∧ i = .int .i64 k ∧ ∀ (j : Nat) (x : Int), j < k → q[j]? = some x → 0 ≤ x ∧ x < q.length) (fun i => q.length - (intOf i).toNat)
    case atStart => exact ⟨0, Nat.zero_le _, rfl, fun j x hj => by omega⟩
    case round =>
      obtain ⟨k, hk, rfl, hg⟩ := hrel
      have Hg := Lib.hid hg
      clear hg
      by_cases hlt : k < q.length
      · obtain ⟨x, hx⟩ := getSome q k hlt
        obtain ⟨b, off, rfl, hbb, c0⟩ := hA.int hx
        have hki : (k : Int) < (q.length : Int) := by omega
        have Hx := Lib.hid hx
        clear hx
        by_cases h0 : x < 0
        · have He := Lib.hid (isNums_bad Hx.out (by omega))
          go_wp2
          go_ret
          exact ⟨by rw [He.out]; rfl, rfl⟩
        · by_cases h1 : (q.length : Int) ≤ x
          · have He := Lib.hid (isNums_bad Hx.out (by omega))
            go_wp2
            go_ret
            exact ⟨by rw [He.out]; rfl, rfl⟩
          · go_wp2
            go_round
            case rel =>
              refine ⟨k + 1, by omega, by go_num, fun j y hj hy => ?_⟩
              by_cases hjk : j = k
              · subst hjk
                rw [Hx.out] at hy
                simp only [Option.some.injEq] at hy
                subst hy
                omega
              · exact Hg.out j y (by omega) hy
            case measure => simp [intOf]; omega
      · have hkl : k = q.length := by omega
        have He := Lib.hid (isNums_of h fun j x hj hx => Hg.out j x (by omega) hx)
        have hge : ¬ ((k : Int) < (q.length : Int)) := by omega
        go_wp2
        go_ret
        exact ⟨by rw [He.out]; rfl, rfl⟩
  · rw [isNums_many (by omega)]
    have hi : (12 : Int) < (q.length : Int) := by omega
    go_enter Try.func31, Try.ntmps31
    go_wp2
    go_ret
    exact ⟨rfl, rfl⟩
theorem implIsNumbers_any (q : List Int) (A : Option Addr) (c : Nat) (w : World) (hl : q.length ≤ 1048576) (hA : CRead w w.heap.size A (icells q)) :
    Calls Try.prog 31 #[.slice A q.length c] w fun e w' => e = .returned (.bool (resIsNumbers q)) ∧ Below w.heap.size w w' :=
  (isNumbers_any q A c w hl hA).mono fun e w' ⟨he, hw⟩ => ⟨he, by subst hw; exact Below.refl _ _⟩

/-! ## Sums -/
/-! ## Sorted so that they are falling: the model's -/
end Go.Proofs.Ytgnfkgnokhjmcaa
/-
  WHETHER A NUMBER IS IN A LIST: the model's look; a list's front.
-/
namespace Go.Proofs.Ytgnfkgnokhjmcaa
open Go.RowKit

theorem icells_getD {l : List Int} {j : Nat} (h : j < l.length) : (icells l)[j]? = some (.int .i64 (l.getD j 0)) := by
  simp [icells, List.getD_eq_getElem?_getD, List.getElem?_eq_getElem h]
theorem CRead.ints {w : World} {B : Nat} {A : Option Addr} {q : List Int} (h : CRead w B A (icells q)) (hq : 0 < q.length) : ∃ b off, A = some ⟨b, off, none⟩ ∧ b < B ∧ ∀ j, j < q.length → w.cell? ⟨b, off + j, none⟩ = some (.int .i64 (q.getD j 0)) := by
  obtain ⟨b, off, rfl, hb, _⟩ := h 0 _ (icells_getD hq)
  refine ⟨b, off, rfl, hb, fun j hj => ?_⟩
  obtain ⟨b', off', e, _, hc⟩ := h j _ (icells_getD hj)
  simp only [Option.some.injEq, Addr.mk.injEq, and_true] at e
  obtain ⟨rfl, rfl⟩ := e
  exact hc

theorem CRead.front {w : World} {B : Nat} {A : Option Addr} {q : List Int} (h : CRead w B A (icells q)) (k : Nat) : CRead w B A (icells (q.take k)) := fun j u hu => by
  refine h j u ?_
  unfold icells at hu ⊢
  rw [List.map_take, List.getElem?_take] at hu
  split at hu
  · exact hu
  · cases hu


/-- whether a number is in a list -/
def hasI (q : List Int) (x : Int) : Bool := q.contains x
theorem hasI_mem {q : List Int} {x : Int} : hasI q x = true ↔ x ∈ q := List.contains_iff_mem
end Go.Proofs.Ytgnfkgnokhjmcaa
/-
  'spec.l1Own': a copy of a list of numbers, by its contract.
-/
namespace Go.Proofs.Ytgnfkgnokhjmcaa
open Go.RowKit

set_option maxHeartbeats 1000000 in
set_option maxRecDepth 100000 in
theorem l1Own_any (q : List Int) (A : Option Addr) (c : Nat) (w : World) (hq : q.length ≤ 1048576) (h0 : 0 < q.length) (hA : CRead w w.heap.size A (icells q)) :
    Calls Try.prog 30 #[.slice A q.length c] w fun e w' => ∃ A' c', e = .returned (.slice A' q.length c') ∧ w'.ownsRow w.heap.size 3 1 (.slice A' q.length c') q.length (icells q) ∧ Below w.heap.size w w' := by
  obtain ⟨i0, hi, hz0, hz1, hz2⟩ := info_parts Try.infoInt
  obtain ⟨b, off, rfl, hb, hr⟩ := hA.ints h0
  go_enter Try.func30, Try.ntmps30
  have hc : ∀ j u, (icells q)[j]? = some u → (w.alloc (Obj.cells #[] 3)).cell? ((⟨b, off, none⟩ : Addr).add j) = some u := fun j u hu => by
    rw [Addr.add_lit]
    obtain ⟨b', off', e, _, hcell⟩ := hA j u hu
    simp only [Option.some.injEq, Addr.mk.injEq, and_true] at e
    obtain ⟨rfl, rfl⟩ := e
    exact (World.cell?_alloc_lt _ _ _ hb).trans hcell
  clear hr
  go_wp2_with (at_builtin; refine wpList_append_grows _ rfl _ _ 22 rfl 3 i0 _ 1 8 Try.underlying22 hi hz0 hz1 hz2 rfl (by decide) (some ⟨w.heap.size, 0, none⟩) 0 0 [] rfl (fun h => by cases h) rfl (fun b' hb' m u hu => by simp at hu) ⟨b, off, none⟩ q.length c (icells q) rfl (by simp [icells]) hc (icells_one q) (by omega) (by unfold maxLen; omega) (by omega) ?_; intro v1 w4 own4 gr4; simp only [Nat.zero_add, List.nil_append] at own4; obtain ⟨A4, d4, rfl, _⟩ := own_shape own4)
  go_ret
  exact ⟨A4, d4, rfl, own_lower own4 (by simp), below_of_gb (gb_trans (World.grownBy_alloc w _ none) gr4) (Nat.le_refl _)⟩
end Go.Proofs.Ytgnfkgnokhjmcaa
/-
  'impl.leftOf': what is left of twelve people, by its contract.
-/
namespace Go.Proofs.Ytgnfkgnokhjmcaa
open Go.RowKit

/-- what is left of twelve people: of those who are not there nothing -/
def leftF (l : List Int) (j : Nat) : Int := l.getD j 0
theorem leftF_at {l : List Int} {j : Nat} {x : Int} (h : l[j]? = some x) : leftF l j = x := by unfold leftF; rw [List.getD_eq_getElem?_getD, h]; rfl
theorem leftF_out {l : List Int} {j : Nat} (h : l.length ≤ j) : leftF l j = 0 := by
  unfold leftF
  rw [List.getD_eq_getElem?_getD, List.getElem?_eq_none h]
  rfl

set_option maxHeartbeats 2000000 in
set_option maxRecDepth 100000 in
theorem leftOf_any (q : List Int) (A : Option Addr) (c : Nat) (w : World) (hq : q.length ≤ 12) (h0 : 0 < q.length) (hA : CRead w w.heap.size A (icells q)) :
    Calls Try.prog 33 #[.slice A q.length c] w fun e w' => e = .returned (.agg #[.int .i64 (leftF q 0), .int .i64 (leftF q 1), .int .i64 (leftF q 2), .int .i64 (leftF q 3), .int .i64 (leftF q 4), .int .i64 (leftF q 5), .int .i64 (leftF q 6), .int .i64 (leftF q 7), .int .i64 (leftF q 8), .int .i64 (leftF q 9), .int .i64 (leftF q 10), .int .i64 (leftF q 11)]) ∧ Below w.heap.size w w' := by
  obtain ⟨b, off, rfl, hb, hr⟩ := hA.ints h0
  generalize hW : (w.alloc (Obj.cells #[.int .i64 0, .int .i64 0, .int .i64 0, .int .i64 0, .int .i64 0, .int .i64 0, .int .i64 0, .int .i64 0, .int .i64 0, .int .i64 0, .int .i64 0, .int .i64 0] 52)).alloc (Obj.cells #[.int .i64 0, .int .i64 0, .int .i64 0, .int .i64 0, .int .i64 0, .int .i64 0, .int .i64 0, .int .i64 0, .int .i64 0, .int .i64 0, .int .i64 0, .int .i64 0] 52) = W
  have kW : Below w.heap.size w W := by rw [← hW]; go_grown
  have sW : w.heap.size + 1 < W.heap.size := by rw [← hW]; simp
  have hrow : W.rowIs (w.heap.size + 1) 52 12 (fun _ => .int .i64 0) := by
    rw [← hW]
    refine ⟨#[.int .i64 0, .int .i64 0, .int .i64 0, .int .i64 0, .int .i64 0, .int .i64 0, .int .i64 0, .int .i64 0, .int .i64 0, .int .i64 0, .int .i64 0, .int .i64 0], by have := heap_alloc_new (w.alloc (Obj.cells #[.int .i64 0, .int .i64 0, .int .i64 0, .int .i64 0, .int .i64 0, .int .i64 0, .int .i64 0, .int .i64 0, .int .i64 0, .int .i64 0, .int .i64 0, .int .i64 0] 52)) (Obj.cells #[.int .i64 0, .int .i64 0, .int .i64 0, .int .i64 0, .int .i64 0, .int .i64 0, .int .i64 0, .int .i64 0, .int .i64 0, .int .i64 0, .int .i64 0, .int .i64 0] 52); simpa using this, rfl, fun i hi => ?_⟩
    match i, hi with
    | 0, _ | 1, _ | 2, _ | 3, _ | 4, _ | 5, _ | 6, _ | 7, _ | 8, _ | 9, _ | 10, _ | 11, _ => rfl
  have hrow0 : W.rowIs w.heap.size 52 12 (fun _ => .int .i64 0) := by
    rw [← hW]
    refine ⟨#[.int .i64 0, .int .i64 0, .int .i64 0, .int .i64 0, .int .i64 0, .int .i64 0, .int .i64 0, .int .i64 0, .int .i64 0, .int .i64 0, .int .i64 0, .int .i64 0], (Below.heap_alloc _ _ _ (by simp)).trans (heap_alloc_new w _), rfl, fun i hi => ?_⟩
    match i, hi with
    | 0, _ | 1, _ | 2, _ | 3, _ | 4, _ | 5, _ | 6, _ | 7, _ | 8, _ | 9, _ | 10, _ | 11, _ => rfl
  have hlen : (icells q).length = q.length := icells_length q
  have hrun : ∀ ty, (Builtin.copy_ #[22, 22] ty #[.slice (some ⟨w.heap.size + 1, 0, none⟩) 12 12, .slice (some ⟨b, off, none⟩) q.length c]).run Try.prog W = .ok (goInt q.length) (W.setCells (w.heap.size + 1) 0 (icells q)) := fun ty => by
    have := run_copy_cells (P := Try.prog) W 22 22 ty 3 (w.heap.size + 1) 0 12 12 ⟨b, off, none⟩ q.length c (icells q) Try.underlying22 (by kernel_rfl) (by rw [hlen]; exact (Nat.min_eq_left hq).symm)
      (fun j u hj => by
        rw [Addr.add_lit]
        obtain ⟨b', off', e, _, hcell⟩ := hA j u hj
        simp only [Option.some.injEq, Addr.mk.injEq, and_true] at e
        obtain ⟨rfl, rfl⟩ := e
        exact (kW.cell (p := ⟨b, off + j, none⟩) hb).trans hcell)
      (fun j hj => by rw [Nat.zero_add, hrow.cell (by omega)]; rfl)
      (fun j _ => hrow.frozen _)
      (icells_one q)
    rw [hlen] at this
    simpa using this
  have hrow2 := (rowIs_setCells (icells q) 0 _ _ hrow).congr (g := fun j => .int .i64 (leftF q j)) (fun j hj => by
    rw [hlen]
    by_cases hjq : j < q.length
    · rw [if_pos ⟨Nat.zero_le _, by omega⟩, Nat.sub_zero, icells_getD hjq]
      rfl
    · rw [if_neg (by omega), leftF_out (by omega)])
  have hrow3 := rowIs_setCells_other (b := w.heap.size + 1) (b' := w.heap.size) (by omega) (icells q) 0 _ hrow0
  have kV : Below w.heap.size w (W.setCells (w.heap.size + 1) 0 (icells q)) := (below_setCells (Nat.le_succ _) _ _ _ kW)
  obtain ⟨V, hV⟩ : ∃ V, W.setCells (w.heap.size + 1) 0 (icells q) = V := ⟨_, rfl⟩
  rw [hV] at hrow2 hrow3 kV
  have hrun2 : ∀ ty, (Builtin.copy_ #[22, 22] ty #[.slice (some ⟨w.heap.size + 1, 0, none⟩) 12 12, .slice (some ⟨b, off, none⟩) q.length c]).run Try.prog ((w.alloc (Obj.cells #[.int .i64 0, .int .i64 0, .int .i64 0, .int .i64 0, .int .i64 0, .int .i64 0, .int .i64 0, .int .i64 0, .int .i64 0, .int .i64 0, .int .i64 0, .int .i64 0] 52)).alloc (Obj.cells #[.int .i64 0, .int .i64 0, .int .i64 0, .int .i64 0, .int .i64 0, .int .i64 0, .int .i64 0, .int .i64 0, .int .i64 0, .int .i64 0, .int .i64 0, .int .i64 0] 52)) = .ok (goInt q.length) V := fun ty => by rw [hW, ← hV]; exact hrun ty
  clear hrun hV hW hrow hrow0
  have c0 := hrow2.cell (i := 0) (by omega)
  have c1 := hrow2.cell (i := 1) (by omega)
  have c2 := hrow2.cell (i := 2) (by omega)
  have c3 := hrow2.cell (i := 3) (by omega)
  have c4 := hrow2.cell (i := 4) (by omega)
  have c5 := hrow2.cell (i := 5) (by omega)
  have c6 := hrow2.cell (i := 6) (by omega)
  have c7 := hrow2.cell (i := 7) (by omega)
  have c8 := hrow2.cell (i := 8) (by omega)
  have c9 := hrow2.cell (i := 9) (by omega)
  have c10 := hrow2.cell (i := 10) (by omega)
  have c11 := hrow2.cell (i := 11) (by omega)
  have f0 : ∀ j, V.frozen? ⟨w.heap.size, j, none⟩ = false := fun j => hrow3.frozen j
  have e0 := f0 0
  have r0 := hrow3.cell (i := 0) (by omega)
  have e1 := f0 1
  have r1 := hrow3.cell (i := 1) (by omega)
  have e2 := f0 2
  have r2 := hrow3.cell (i := 2) (by omega)
  have e3 := f0 3
  have r3 := hrow3.cell (i := 3) (by omega)
  have e4 := f0 4
  have r4 := hrow3.cell (i := 4) (by omega)
  have e5 := f0 5
  have r5 := hrow3.cell (i := 5) (by omega)
  have e6 := f0 6
  have r6 := hrow3.cell (i := 6) (by omega)
  have e7 := f0 7
  have r7 := hrow3.cell (i := 7) (by omega)
  have e8 := f0 8
  have r8 := hrow3.cell (i := 8) (by omega)
  have e9 := f0 9
  have r9 := hrow3.cell (i := 9) (by omega)
  have e10 := f0 10
  have r10 := hrow3.cell (i := 10) (by omega)
  have e11 := f0 11
  have r11 := hrow3.cell (i := 11) (by omega)
  have Hrow3 := Lib.hid hrow3
  clear hrow2 hrow3
  go_enter Try.func33, Try.ntmps33
  go_wp2
  refine bodyPost_ret (v := .agg #[.int .i64 (leftF q 0), .int .i64 (leftF q 1), .int .i64 (leftF q 2), .int .i64 (leftF q 3), .int .i64 (leftF q 4), .int .i64 (leftF q 5), .int .i64 (leftF q 6), .int .i64 (leftF q 7), .int .i64 (leftF q 8), .int .i64 (leftF q 9), .int .i64 (leftF q 10), .int .i64 (leftF q 11)]) (by simp [results, Try.results33, go_sem, r0, r1, r2, r3, r4, r5, r6, r7, r8, r9, r10, r11]) rfl ?_
  exact ⟨rfl, ((((((((((((kV.setCell (p := ⟨w.heap.size, 0, none⟩) (Nat.le_refl _) _).setCell (p := ⟨w.heap.size, 1, none⟩) (Nat.le_refl _) _).setCell (p := ⟨w.heap.size, 2, none⟩) (Nat.le_refl _) _).setCell (p := ⟨w.heap.size, 3, none⟩) (Nat.le_refl _) _).setCell (p := ⟨w.heap.size, 4, none⟩) (Nat.le_refl _) _).setCell (p := ⟨w.heap.size, 5, none⟩) (Nat.le_refl _) _).setCell (p := ⟨w.heap.size, 6, none⟩) (Nat.le_refl _) _).setCell (p := ⟨w.heap.size, 7, none⟩) (Nat.le_refl _) _).setCell (p := ⟨w.heap.size, 8, none⟩) (Nat.le_refl _) _).setCell (p := ⟨w.heap.size, 9, none⟩) (Nat.le_refl _) _).setCell (p := ⟨w.heap.size, 10, none⟩) (Nat.le_refl _) _).setCell (p := ⟨w.heap.size, 11, none⟩) (Nat.le_refl _) _)⟩

end Go.Proofs.Ytgnfkgnokhjmcaa
/-
  A LIST OF PAIRS THAT GROWS BY ONE WHILE THE SHORTER ONE IS STILL READ: 'append(told, pair)' at a step of a region that draws its order.
-/
namespace Go.Proofs.Ytgnfkgnokhjmcaa
open Go.RowKit

/-- a list of pairs in a block of its own, which may have room behind -/
abbrev World.toldP (w : World) (A : Option Addr) (c : Nat) (l : PL) : Prop := w.ownsRow 0 43 2 (.slice A l.length c) l.length (pcells l)
/-- one more: the shorter list still stands; the longer lies in its block or in a new one -/
structure GrewP (w w' : World) (A A' : Option Addr) (c c' : Nat) (l : PL) (x : Int × Int) : Prop where
  new : World.toldP w' A' c' (l ++ [x])
  old : World.toldP w' A c l
  grow : w.grownBy w' (Value.slice A l.length c).ownBlock
  same : A' = A ∧ c' = c ∧ A ≠ none ∨ w.grownBy w' none ∧ ∃ g, A' = some ⟨g, 0, none⟩ ∧ w.heap.size ≤ g
theorem toldP_front {w : World} {A : Option Addr} {c : Nat} {l : PL} {x : Int × Int} (h : World.toldP w A c (l ++ [x])) (hA : A ≠ none) : World.toldP w A c l := by
  rcases h.2 with ⟨hv, _⟩ | ⟨g, cap, cur, hv, hb, hg, hn, hm, hs, ht⟩
  · simp only [Value.slice.injEq] at hv
    exact absurd hv.1 hA
  · simp only [Value.slice.injEq] at hv
    obtain ⟨rfl, _, rfl⟩ := hv
    refine ⟨pcells_length l, .inr ⟨g, c, cur, rfl, hb, hg, ?_, hm, hs, ?_⟩⟩
    · rw [List.length_append] at hn; simp at hn; omega
    · have e := congrArg (List.take (l.length * 2)) ht
      rw [List.take_take, pcells_append] at e
      rw [Nat.min_eq_left (by rw [List.length_append]; simp; omega)] at e
      rw [e]
      have : (pcells l).length = l.length * 2 := pcells_length l
      rw [← this, List.take_left]
theorem toldP_own {A : Option Addr} {c : Nat} {l : PL} {g : Nat} (hA : A = some ⟨g, 0, none⟩) : (Value.slice A l.length c).ownBlock = some g := by rw [hA]; rfl

theorem step_append_toldP {ops : Array Oper} {o : Oper} {a : Act} {w : World} {K : Act → World → Prop} {Q : Exit → Act → World → Prop} {E : Prop}
    (hw : Region.wanted o (yielded ops a.tmps) = true) (s x : Operand) (ho : o.op = .call { callee := .builtin .append, args := #[s, x], argTypes := #[23, 23] })
    (A : Option Addr) (c : Nat) (l : PL) (y z : Int) (hs : a.eval s = .slice A l.length c) (hown : World.toldP w A c l)
    (ad : Addr) (hx : a.eval x = .slice (some ad) 1 1) (hcell : ∀ j u, [Value.int .i64 y, .int .i64 z][j]? = some u → w.cell? (ad.add j) = some u) (hlen : l.length ≤ 1000)
    (h : ∀ A' c' w', GrewP w w' A A' c c' l (y, z) → K (a.put o.dst (.slice A' (l.length + 1) c')) w') :
    if Region.wanted o (yielded ops a.tmps) = true then Oper.wp Try.prog o a w K Q else E := by
  obtain ⟨i0, hi, hz0, hz1, hz2⟩ := info_parts Try.infoPair
  have hone : ∀ u ∈ [Value.int .i64 y, .int .i64 z], u.oneCell' = true := by simp; exact ⟨rfl, rfl⟩
  have hll : (l ++ [(y, z)]).length = l.length + 1 := by simp
  rw [if_pos hw]
  by_cases hroom : l.length + 1 ≤ c
  · rcases hown.2 with ⟨hv, _⟩ | ⟨g, cap, cur, hv, hb, hg, hn, hm, hsz, ht⟩
    · simp only [Value.slice.injEq] at hv
      omega
    · simp only [Value.slice.injEq] at hv
      obtain ⟨rfl, _, rfl⟩ := hv
      obtain ⟨w', hrun, r1, r2⟩ := run_append_fits (P := Try.prog) w 0 23 o.type 43 i0 2 Try.underlying23 hi hz1 g l.length c (pcells l) hown ad 1 1 [.int .i64 y, .int .i64 z] rfl hcell hone hroom
      unfold Oper.wp
      simp [execOp, ho, resolve, invoke, builtin, hs, hx, hrun, Result.andThen]
      have r3 : World.toldP w' (some ⟨g, 0, none⟩) c (l ++ [(y, z)]) := by rw [World.toldP, hll, pcells_append]; exact r1
      exact h _ _ w' ⟨r3, toldP_front r3 (by simp), r2, .inl ⟨rfl, rfl, by simp⟩⟩
  · have hgrows := step_append_grows (ops := ops) (o := { o with guard := none }) (a := a) (w := w) (K := K) (Q := Q) (E := E) rfl s x 23 ho 43 i0 _ 2 16 Try.underlying23 hi hz0 hz1 hz2 rfl (by decide) A l.length c (pcells l) hs (by
        intro e
        rcases hown.2 with ⟨hv, h0⟩ | ⟨g, cap, cur, hv, _⟩
        · simp only [Value.slice.injEq] at hv
          exact ⟨hv.2.1, hv.2.2⟩
        · simp [e] at hv) (pcells_length l) (by
        intro b e j u hj
        obtain ⟨b', off, e', _, hc⟩ := (CRead.of_own hown) j u hj
        rw [e] at e'
        simp only [Option.some.injEq] at e'
        rw [e', Addr.add_lit]
        exact hc) ad 1 1 [.int .i64 y, .int .i64 z] hx rfl hcell hone (by omega) (by unfold maxLen; omega) (by omega) (by
        intro v' w' r1 r2
        obtain ⟨A', c', rfl, _⟩ := own_shape r1
        obtain ⟨g, hgA⟩ := own_form r1 (by omega)
        have hlt := (own_lower r1 (Nat.zero_le _))
        refine h A' c' w' ⟨by rw [World.toldP, hll, pcells_append]; exact hlt, hown.kept r2 (by cases (Value.slice A l.length c).ownBlock <;> simp), ⟨r2.os, r2.tape, r2.output, r2.size, fun k hk _ => r2.block k hk (by simp)⟩, .inr ⟨r2, g, hgA, ?_⟩⟩
        subst hgA
        exact (own_lt r1).1)
    rw [if_pos (by simp [Region.wanted])] at hgrows
    exact hgrows
end Go.Proofs.Ytgnfkgnokhjmcaa
/-
  A CLOSURE THAT GOES THROUGH LISTS OF PAIRS, handed to a round each: how a call of it ends (written by program after XLook).
-/
namespace Go.Proofs.Ytgnfkgnokhjmcaa
open Go.RowKit

theorem toldP_kept {w w' : World} {A : Option Addr} {c : Nat} {l : PL} (h : World.toldP w A c l) (hk : ∀ k, (Value.slice A l.length c).ownBlock = some k → w'.heap[k]? = w.heap[k]?) : World.toldP w' A c l := by
  refine ⟨h.1, ?_⟩
  rcases h.2 with h' | ⟨g, cap, cur, hv, hb, hg, rest⟩
  · exact .inl h'
  · exact .inr ⟨g, cap, cur, hv, hb, (hk g (by rw [hv]; rfl)).trans hg, rest⟩

/-- All lists have come. -/
structure LookYesP (J : (Nat → Prop) → List PL → World → Prop) (R S : Nat → Prop) (A : Option Addr) (c : Nat) (l : PL) (xs : List PL) (W W' : World) : Prop where
  ex : ∃ S', J S' xs W' ∧ (∀ j, S j → S' j) ∧ (∀ j, S' j → S j ∨ W.heap.size ≤ j)
  below : Below 0 W W'
  ro : ∀ j, R j → W'.heap[j]? = W.heap[j]?
  other : ∀ j, S j → j < W.heap.size → (Value.slice A l.length c).ownBlock ≠ some j → W'.heap[j]? = W.heap[j]?
  told : World.toldP W' A c l
/-- How a call of the closure ends. -/
def LookPostP (J Jx : (Nat → Prop) → List PL → World → Prop) (R S : Nat → Prop) (A : Option Addr) (c : Nat) (l : PL) (pre L : List PL) (W : World) : Bool → World → Prop
  | true, W' => LookYesP J R S A c l (pre ++ L) W W'
  | false, W' => ∃ S' q x, q ++ [x] <+: L ∧ Jx S' (pre ++ (q ++ [x])) W'

section
variable {J Jx : (Nat → Prop) → List PL → World → Prop} {R S S1 : Nat → Prop} {A A' : Option Addr} {c c' B : Nat} {l : PL} {xs pre : List PL} {W wr X w1 w2 : World}
theorem LookYesP.start (hJ : J S xs W) (ht : World.toldP W A c l) : LookYesP J R S A c l xs W W := ⟨⟨S, hJ, fun _ h => h, fun _ h => .inl h⟩, Below.refl _ _, fun _ _ => rfl, fun _ _ _ _ => rfl, ht⟩
/-- one person more: what holds where the closure is called again -/
theorem LookYesP.step {x : Int × Int} (hh : Held J) (h : LookYesP J R S A c l xs W wr) (hA : ∀ k, (Value.slice A l.length c).ownBlock = some k → S k) (hS : ∀ j, S j → B ≤ j) (hR : ∀ j, R j → j < B) (hB : B ≤ W.heap.size)
    (hX : Below wr.heap.size wr X) (g : GrewP X w1 A A' c c' l x) :
    (∃ S2, J S2 xs w1 ∧ (∀ j, S j → S2 j) ∧ (∀ j, S2 j → S j ∨ W.heap.size ≤ j) ∧ (∀ k, (Value.slice A' (l ++ [x]).length c').ownBlock = some k → S2 k)) ∧ (∀ j, R j → w1.heap[j]? = wr.heap[j]?) ∧ B ≤ w1.heap.size ∧ W.heap.size ≤ w1.heap.size := by
  obtain ⟨S1, hJ1, hs1, hs2⟩ := h.ex
  have hsz := h.below.size
  have hsX := hX.size
  have hs3 := g.grow.size
  have hap : Apart S1 wr w1 := ⟨(hX.mono (Nat.zero_le _)).trans ((Below.refl 0 X).grown g.grow (Nat.zero_le _) fun k _ => Nat.zero_le k), fun j hj hn => by
    rw [g.grow.block j (by omega) (fun e => hn (hs1 j (hA j e.symm))), hX.block j hj]⟩
  refine ⟨⟨fun j => S1 j ∨ (wr.heap.size ≤ j ∧ j < w1.heap.size), hh _ _ _ _ _ hJ1 hap (fun j hj => hj), fun j hj => .inl (hs1 j hj), fun j hj => ?_, fun k hk => ?_⟩, fun j hj => ?_, by omega, by omega⟩
  · rcases hj with hj | hj
    · exact hs2 j hj
    · exact .inr (by omega)
  · rcases g.same with ⟨rfl, rfl, _⟩ | ⟨_, b, rfl, hb⟩
    · exact .inl (hs1 k (hA k (by
        cases hA' : A' with
        | none => rw [hA'] at hk; simp [Value.ownBlock] at hk
        | some a => rw [hA'] at hk; exact hk)))
    · have hlt := (own_lt g.new).2
      have : b = k := by simpa [Value.ownBlock] using hk
      subst this
      exact .inr ⟨by omega, hlt⟩
  · have h1 := hR j hj
    rw [g.grow.block j (by omega) (fun e => by have := hS j (hA j e.symm); omega), hX.block j (by omega)]
theorem LookYesP.next {x : Int × Int} {S2 : Nat → Prop} {L : List PL} (h : LookYesP J R S A c l xs W wr) (hA : ∀ k, (Value.slice A l.length c).ownBlock = some k → S k) (hS : ∀ j, S j → B ≤ j) (hR : ∀ j, R j → j < B) (hB : B ≤ W.heap.size)
    (hX : Below wr.heap.size wr X) (g : GrewP X w1 A A' c c' l x) (k1 : ∀ j, S j → S2 j) (k2 : ∀ j, S2 j → S j ∨ W.heap.size ≤ j) (h2 : LookYesP J R S2 A' c' (l ++ [x]) L w1 w2) : LookYesP J R S A c l L W w2 := by
  have hsz := h.below.size
  have hsX := hX.size
  have hs3 := g.grow.size
  have hoA : ∀ j, S j → (Value.slice A l.length c).ownBlock ≠ some j → w1.heap[j]? = wr.heap[j]? ∨ wr.heap.size ≤ j := fun j _ hne => by
    by_cases hlt : j < wr.heap.size
    · exact .inl (by rw [g.grow.block j (by omega) (fun e => hne e.symm), hX.block j hlt])
    · exact .inr (by omega)
  refine ⟨?_, (h.below.trans ((hX.mono (Nat.zero_le _)).trans ((Below.refl 0 X).grown g.grow (Nat.zero_le _) fun k _ => Nat.zero_le k))).trans h2.below, fun j hj => ?_, fun j hj hlt hne => ?_, ?_⟩
  · obtain ⟨S', hJ', e1, e2⟩ := h2.ex
    refine ⟨S', hJ', fun j hj => e1 j (k1 j hj), fun j hj => ?_⟩
    rcases e2 j hj with h' | h'
    · exact k2 j h'
    · exact .inr (by omega)
  · have h1 := hR j hj
    rw [h2.ro j hj, g.grow.block j (by omega) (fun e => by have := hS j (hA j e.symm); omega), hX.block j (by omega), h.ro j hj]
  · rw [h2.other j (k1 j hj) (by omega) ?_]
    · rcases hoA j hj hne with h' | h'
      · rw [h', h.other j hj hlt hne]
      · omega
    · rcases g.same with ⟨rfl, rfl, _⟩ | ⟨_, b, rfl, hb⟩
      · intro e
        refine hne ?_
        cases hA' : A' with
        | none => rw [hA'] at e; simp [Value.ownBlock] at e
        | some a => rw [hA'] at e; exact e
      · intro e
        have : b = j := by simpa [Value.ownBlock] using e
        omega
  · rcases g.same with ⟨rfl, rfl, hne⟩ | ⟨_, b, rfl, hb⟩
    · exact toldP_front h2.told hne
    · refine toldP_kept g.old fun k hk => ?_
      have hklt := (own_lies g.old k hk).2
      refine h2.other k (k1 k (hA k hk)) hklt fun e => ?_
      have hbk : b = k := by simpa [Value.ownBlock] using e
      have hkX := (own_lies h.told k hk).2
      omega
theorem LookYesP.later (hh : Held J) (h : LookYesP J R S A c l xs W wr) (hR : ∀ j, R j → j < B) (hB : B ≤ W.heap.size) (hX : Below wr.heap.size wr X) : LookYesP J R S A c l xs W X := by
  obtain ⟨S', hJ', e1, e2⟩ := h.ex
  have hsz := h.below.size
  refine ⟨⟨S', hh _ _ _ _ _ hJ' (Apart.of_below hX) (fun j hj => .inl hj), e1, e2⟩, h.below.trans (hX.mono (Nat.zero_le _)), fun j hj => ?_, fun j hj hlt hne => ?_, toldP_kept h.told fun k hk => hX.block k (own_lies h.told k hk).2⟩
  · have := hR j hj
    rw [hX.block j (by omega), h.ro j hj]
  · rw [hX.block j (by omega), h.other j hj hlt hne]
end
end Go.Proofs.Ytgnfkgnokhjmcaa
/-
  ALL PARTIES OF SOME NUMBERS: the program's recursion ('eachFrom') that counts them, by its contract.
-/
namespace Go.Proofs.Ytgnfkgnokhjmcaa
open Go.RowKit Go.Shelf

/-- what the closure has counted, apart from the list that is shown -/
def KeptC (o : Nat) (S : Nat → Prop) (xs : List PL) (W : World) : Prop :=
  (∀ j, S j → o < j ∧ j < W.heap.size) ∧ W.heap[o]? = some (Obj.cells #[.int .i64 (xs.length : Int)] 3)
theorem keptC_held (o : Nat) : Held (KeptC o) := by
  rintro T T' pre B C ⟨a1, a2⟩ hap hT'
  have hsz := hap.below.size
  have hlt : o < B.heap.size := (Array.getElem?_eq_some_iff.1 a2).1
  refine ⟨fun j hj => ?_, (hap.same o hlt (fun h => by have := (a1 _ h).1; omega)).trans a2⟩
  rcases hT' j hj with h | h
  · have := a1 j h; omega
  · omega
set_option maxHeartbeats 1000000 in
set_option maxRecDepth 100000 in
theorem countOne_any (o : Nat) (t : PL) (A : Option Addr) (c : Nat) (S : Nat → Prop) (pre : List PL) (W : World) (hJ : KeptC o S pre W) (hfew : pre.length + 1 ≤ 2 ^ 60) :
    Calls Try.prog 27 #[.slice A t.length c, .pointer (some ⟨o, 0, none⟩)] W fun e W' => e = .returned (.bool true) ∧ KeptC o S (pre ++ [t]) W' ∧ Stays (fun j => S j ∨ j < o) W W' := by
  obtain ⟨a1, a2⟩ := hJ
  have cc := cell_in a2
  have fcz := frozen_of_row _ _ 0 _ _ a2
  have lpc : o < W.heap.size := (Array.getElem?_eq_some_iff.1 a2).1
  have hp60 : (2 : Nat) ^ 60 = 1152921504606846976 := by decide
  have A1 := Lib.hid a1
  have A2 := Lib.hid a2
  clear a1 a2
  go_enter Try.func27, Try.ntmps27
  go_wp2
  go_ret
  refine ⟨rfl, ⟨fun j hj => by have := A1.out j hj; simp; omega, ?_⟩, Stays.setCell (p := ⟨o, 0, none⟩) (fun h => h.elim (fun h => by have := (A1.out o h).1; omega) (fun h => by have h2 : o < o := h; omega)) W _⟩
  rw [box_set A2.out, List.length_append]
  rfl
theorem LookYesP.before {J : (Nat → Prop) → List PL → World → Prop} {R S : Nat → Prop} {A : Option Addr} {c : Nat} {l : PL} {xs : List PL} {W Y W' : World} (hb : Below W.heap.size W Y) (hR : ∀ j, R j → j < W.heap.size) (h : LookYesP J R S A c l xs Y W') : LookYesP J R S A c l xs W W' := by
  have hs := hb.size
  obtain ⟨S', hJ, e1, e2⟩ := h.ex
  exact ⟨⟨S', hJ, e1, fun j hj => (e2 j hj).elim .inl (fun h => .inr (by omega))⟩, (hb.mono (Nat.zero_le _)).trans h.below, fun j hj => (h.ro j hj).trans (hb.block j (hR j hj)), fun j hj hlt hne => (h.other j hj (by omega) hne).trans (hb.block j hlt), h.told⟩
theorem rangeAt_eq {w w' : World} {b o : Nat} {cs : List Value} (h : w.rangeAt b o cs) (e : w'.heap[b]? = w.heap[b]?) : w'.rangeAt b o cs := fun j v hv => (World.cell?_of_block (w := w) (a := ⟨b, o + j, none⟩) e).trans (h j v hv)
theorem LookYesP.again {J : (Nat → Prop) → List PL → World → Prop} {R S S' : Nat → Prop} {A : Option Addr} {c : Nat} {l : PL} {xs ys : List PL} {W Y W' : World} (h : LookYesP J R S A c l xs W Y) (h1 : ∀ j, S j → S' j) (h3 : ∀ j, S' j → S j ∨ W.heap.size ≤ j) (h2 : LookYesP J R S' A c l ys Y W') : LookYesP J R S A c l ys W W' := by
  have hs := h.below.size
  obtain ⟨S2, hJ, e1, e2⟩ := h2.ex
  exact ⟨⟨S2, hJ, fun j hj => e1 j (h1 j hj), fun j hj => (e2 j hj).elim (h3 j) (fun h => .inr (by omega))⟩, h.below.trans h2.below, fun j hj => (h2.ro j hj).trans (h.ro j hj), fun j hj hlt hne => (h2.other j (h1 j hj) (by omega) hne).trans (h.other j hj hlt hne), h2.told⟩
/-- the closure's value -/
abbrev cntV (o : Nat) : Value := .func (.func 27) #[] #[.pointer (some ⟨o, 0, none⟩)]
set_option maxHeartbeats 8000000 in
set_option maxRecDepth 100000 in
theorem eachFrom_any (n : Nat) (hn : n ≤ 7) (o : Nat) :
    ∀ (k : Nat) (l : List Int) (a b : Nat) (told : PL) (A : Option Addr) (c : Nat) (S : Nat → Prop) (pre : List PL) (W : World), StepN n k a b → l.length = n → FewN l → told.length + k ≤ 60 → pre.length + 2 ^ k ≤ 2 ^ 60 → KeptC o S pre W → World.toldP W A c told → (∀ k, (Value.slice A told.length c).ownBlock = some k → S k) → o < W.heap.size →
    Calls Try.prog 32 #[.agg #[.int .i64 a, .int .i64 b], .int .i64 n, .agg #[.int .i64 (leftF l 0), .int .i64 (leftF l 1), .int .i64 (leftF l 2), .int .i64 (leftF l 3), .int .i64 (leftF l 4), .int .i64 (leftF l 5), .int .i64 (leftF l 6), .int .i64 (leftF l 7), .int .i64 (leftF l 8), .int .i64 (leftF l 9), .int .i64 (leftF l 10), .int .i64 (leftF l 11)], .slice A told.length c, cntV o] W fun e W' => e = .returned (.bool true) ∧ LookYesP (KeptC o) (fun j => j < o) S A c told (pre ++ lookN n k l a b told) W W' := by
  have hnI : (n : Int) ≤ 7 := by omega
  intro k
  induction k with
  | zero =>
    intro l a b told A c S pre W hs hl hfew h60 hcnt hJ ht hA ho
    have ha := hs.ended
    subst ha
    have ek : lookN a 0 l a b told = [told] := rfl
    rw [ek]
    obtain ⟨X, hX⟩ : ∃ X, (W.alloc (Obj.cells #[.int .i64 a, .int .i64 b] 43)).alloc (Obj.cells #[.int .i64 (leftF l 0), .int .i64 (leftF l 1), .int .i64 (leftF l 2), .int .i64 (leftF l 3), .int .i64 (leftF l 4), .int .i64 (leftF l 5), .int .i64 (leftF l 6), .int .i64 (leftF l 7), .int .i64 (leftF l 8), .int .i64 (leftF l 9), .int .i64 (leftF l 10), .int .i64 (leftF l 11)] 52) = X := ⟨_, rfl⟩
    have kX : Below W.heap.size W X := by rw [← hX]; go_grown
    have sX : X.heap.size = W.heap.size + 2 := by rw [← hX]; simp
    have p0 : X.cell? ⟨W.heap.size, 0, none⟩ = some (.int .i64 a) := by rw [← hX]; exact (World.cell?_alloc_lt _ _ _ (by simp)).trans (by simp)
    have JX : KeptC o S pre X := keptC_held o _ _ _ _ _ hJ (Apart.of_below kX) (fun j hj => .inl hj)
    have hk := countOne_any o told A c S pre X JX (by simpa using hcnt)
    have Hk := Lib.hid hk
    have Ht := Lib.hid ht
    have HA := Lib.hid hA
    have HX := Lib.hid hX
    have KX := Lib.hid kX
    have HJ := Lib.hid hJ
    clear hk ht hA hX kX JX hJ hcnt hfew hs
    go_enter Try.func32, Try.ntmps32
    go_upto_region 1 with (fail)
    rw [HX.out]
    go_wp2_with fail
    refine Hk.out.mono ?_
    rintro e W' ⟨rfl, hJ', st⟩
    clear Hk
    go_wp2
    go_ret
    have st2 := (Stays.of_below (S := fun j => S j ∨ j < o) KX.out).trans st
    exact ⟨rfl, ⟨S, hJ', fun _ h => h, fun _ h => .inl h⟩, st2.below, fun j hj => st2.same j (by have hj' : j < o := hj; omega) (.inr hj), fun j hj hlt _ => st2.same j hlt (.inl hj), toldP_kept Ht.out fun k hk => st2.same k (own_lies Ht.out k hk).2 (.inl (HA.out k hk))⟩
  | succ k ih =>
    intro l a b told A c S pre W hs hl hfew h60 hcnt hJ ht hA ho
    have h1 := hs.lt
    have hp60 : (2 : Nat) ^ 60 = 1152921504606846976 := by decide
    have hp : 2 ^ (k + 1) = 2 ^ k * 2 := Nat.pow_succ 2 k
    obtain ⟨X, hX⟩ : ∃ X, (W.alloc (Obj.cells #[.int .i64 a, .int .i64 b] 43)).alloc (Obj.cells #[.int .i64 (leftF l 0), .int .i64 (leftF l 1), .int .i64 (leftF l 2), .int .i64 (leftF l 3), .int .i64 (leftF l 4), .int .i64 (leftF l 5), .int .i64 (leftF l 6), .int .i64 (leftF l 7), .int .i64 (leftF l 8), .int .i64 (leftF l 9), .int .i64 (leftF l 10), .int .i64 (leftF l 11)] 52) = X := ⟨_, rfl⟩
    have kX : Below W.heap.size W X := by rw [← hX]; go_grown
    have sX : X.heap.size = W.heap.size + 2 := by rw [← hX]; simp
    have p0 : X.cell? ⟨W.heap.size, 0, none⟩ = some (.int .i64 a) := by rw [← hX]; exact (World.cell?_alloc_lt _ _ _ (by simp)).trans (by simp)
    have p1 : X.cell? ⟨W.heap.size, 1, none⟩ = some (.int .i64 b) := by rw [← hX]; exact (World.cell?_alloc_lt _ _ _ (by simp)).trans (by simp)
    have rowX : X.rowIs (W.heap.size + 1) 52 12 (fun j => .int .i64 (leftF l j)) := by
      rw [← hX]
      refine ⟨#[.int .i64 (leftF l 0), .int .i64 (leftF l 1), .int .i64 (leftF l 2), .int .i64 (leftF l 3), .int .i64 (leftF l 4), .int .i64 (leftF l 5), .int .i64 (leftF l 6), .int .i64 (leftF l 7), .int .i64 (leftF l 8), .int .i64 (leftF l 9), .int .i64 (leftF l 10), .int .i64 (leftF l 11)], by have h := World.alloc_heap_new (W.alloc (Obj.cells #[.int .i64 a, .int .i64 b] 43)) (Obj.cells #[.int .i64 (leftF l 0), .int .i64 (leftF l 1), .int .i64 (leftF l 2), .int .i64 (leftF l 3), .int .i64 (leftF l 4), .int .i64 (leftF l 5), .int .i64 (leftF l 6), .int .i64 (leftF l 7), .int .i64 (leftF l 8), .int .i64 (leftF l 9), .int .i64 (leftF l 10), .int .i64 (leftF l 11)] 52); simpa only [World.size_alloc] using h, rfl, fun i hi => ?_⟩
      match i, hi with
      | 0, _ | 1, _ | 2, _ | 3, _ | 4, _ | 5, _ | 6, _ | 7, _ | 8, _ | 9, _ | 10, _ | 11, _ => rfl
    obtain ⟨la, hla⟩ : ∃ la, leftF l a = la := ⟨_, rfl⟩
    have hlaD : l.getD a 0 = la := hla
    have ca := rowX.cell (i := a) (by omega)
    rw [hla] at ca
    have hla0 := hfew a
    rw [hlaD] at hla0
    have hai : (a : Int) < n := by omega
    have hai2 : ¬ (n : Int) ≤ (a : Int) := by omega
    have ha12 : (a : Int) < 12 := by omega
    have ha12n : a < 12 := by omega
    have JX : KeptC o S pre X := keptC_held o _ _ _ _ _ hJ (Apart.of_below kX) (fun j hj => .inl hj)
    have start : LookYesP (KeptC o) (fun j => j < o) S A c told pre W X := ⟨⟨S, JX, fun _ h => h, fun _ h => .inl h⟩, kX.mono (Nat.zero_le _), fun j hj => kX.block j (by have hj' : j < o := hj; omega), fun j _ hlt _ => kX.block j hlt, own_below ht kX (Nat.le_refl _)⟩
    have HX := Lib.hid hX
    have KX := Lib.hid kX
    have Start := Lib.hid start
    have HA := Lib.hid hA
    have Ht := Lib.hid ht
    have HJ := Lib.hid hJ
    have IH := Lib.hid ih
    have Hs := Lib.hid hs
    have Hl := Lib.hid hl
    have Hfew := Lib.hid hfew
    have HlaD := Lib.hid hlaD
    have Row := Lib.hid rowX
    clear hX kX start JX hA ht hJ ih hs hl hfew hlaD hla rowX
    by_cases hpr : (n : Int) - b < la
    · have ek : lookN n (k + 1) l a b told = [] := lookN_none n k l a b told Hs.out Hl.out (by rw [HlaD.out]; exact hpr)
      rw [ek, List.append_nil]
      clear ek
      go_enter Try.func32, Try.ntmps32
      go_upto_region 1 with (fail)
      rw [HX.out]
      go_wp2_with fail
      go_quiet (fail)
      go_wp2_with fail
      go_ret
      exact ⟨rfl, Start.out.later (B := o + 1) (keptC_held o) (fun j hj => Nat.lt_succ_of_lt hj) (by omega) (show Below X.heap.size X (X.drewN nq) from ⟨rfl, rfl, rfl, Nat.le_refl _, fun _ _ => rfl⟩)⟩
    · by_cases hb : b < n
      · have hbi : (b : Int) < n := by omega
        have hbi2 : ¬ (n : Int) ≤ (b : Int) := by omega
        have hb12 : (b : Int) < 12 := by omega
        have hb12n : b < 12 := by omega
        obtain ⟨lb, hlb⟩ : ∃ lb, leftF l b = lb := ⟨_, rfl⟩
        have hlbD : l.getD b 0 = lb := hlb
        have cb := Row.out.cell (i := b) (by omega)
        rw [hlb] at cb
        have HlbD := Lib.hid hlbD
        obtain ⟨LL, hLL⟩ : ∃ LL, lookN n (k + 1) l a b told = LL := ⟨_, rfl⟩
        rw [hLL]
        have HLL := Lib.hid hLL
        clear hLL hlb
        have hlb0 := Hfew.out b
        rw [hlbD] at hlb0
        clear hlbD
        go_enter Try.func32, Try.ntmps32
        go_upto_region 1 with (fail)
        rw [HX.out]
        go_wp2_with fail
        go_quiet (fail)
        go_upto_region 8 with (fail)
        have eb : ((b + 1 : Nat) : Int) = (b : Int) + 1 := by omega
        obtain ⟨Y, hY⟩ : ∃ Y, (X.drewN nq).alloc (Obj.cells #[Value.int IntKind.i64 (a : Int), Value.int IntKind.i64 ((b : Int) + 1)] 43) = Y := ⟨_, rfl⟩
        have kY : Below X.heap.size X Y := by rw [← hY]; exact (show Below X.heap.size X (X.drewN nq) from ⟨rfl, rfl, rfl, Nat.le_refl _, fun _ _ => rfl⟩).alloc (Nat.le_refl _) _
        have sY : Y.heap.size = X.heap.size + 1 := by rw [← hY]; simp
        have hm : Y.heap[W.heap.size + 2]? = some (Obj.cells #[.int .i64 (a : Int), .int .i64 ((b : Int) + 1)] 43) := by rw [← hY, ← sX]; exact World.alloc_heap_new (X.drewN nq) _
        have m0 : Y.cell? ⟨W.heap.size + 2, 0, none⟩ = some (.int .i64 a) := by rw [cell_of_row _ _ _ _ _ _ hm]; rfl
        have m1 : Y.cell? ⟨W.heap.size + 2, 1, none⟩ = some (.int .i64 ((b : Int) + 1)) := by rw [cell_of_row _ _ _ _ _ _ hm]; rfl
        have kWY : Below W.heap.size W Y := KX.out.trans (kY.mono (by omega))
        have rowY := Row.out.of_block (kY.block _ Row.out.lt)
        have JY := Lib.hid (keptC_held o _ _ _ _ _ HJ.out (Apart.of_below kWY) (fun j hj => .inl hj))
        have ToldY := Lib.hid (own_below Ht.out kWY (Nat.le_refl _))
        have y0 := carry kY p0 (by omega)
        have y1 := carry kY p1 (by omega)
        have ya := carry kY ca (by omega)
        have yb := carry kY cb (by omega)
        have RowY := Lib.hid rowY
        have KWY := Lib.hid kWY
        have KY := Lib.hid kY
        rw [hY]
        have P0 := Lib.hid p0
        have P1 := Lib.hid p1
        clear p0 p1 ca cb kY kWY rowY hY
        by_cases hpa : 0 < la
        · by_cases hpb : 0 < lb
          · skip
            have r0 := RowY.out.cell (i := 0) (by omega)
            have r1 := RowY.out.cell (i := 1) (by omega)
            have r2 := RowY.out.cell (i := 2) (by omega)
            have r3 := RowY.out.cell (i := 3) (by omega)
            have r4 := RowY.out.cell (i := 4) (by omega)
            have r5 := RowY.out.cell (i := 5) (by omega)
            have r6 := RowY.out.cell (i := 6) (by omega)
            have r7 := RowY.out.cell (i := 7) (by omega)
            have r8 := RowY.out.cell (i := 8) (by omega)
            have r9 := RowY.out.cell (i := 9) (by omega)
            have r10 := RowY.out.cell (i := 10) (by omega)
            have r11 := RowY.out.cell (i := 11) (by omega)
            go_upto_region 10 with (fail)
            obtain ⟨Z0, hZ0⟩ : ∃ Z0, Y.alloc (Obj.cells #[.int .i64 (leftF l 0), .int .i64 (leftF l 1), .int .i64 (leftF l 2), .int .i64 (leftF l 3), .int .i64 (leftF l 4), .int .i64 (leftF l 5), .int .i64 (leftF l 6), .int .i64 (leftF l 7), .int .i64 (leftF l 8), .int .i64 (leftF l 9), .int .i64 (leftF l 10), .int .i64 (leftF l 11)] 52) = Z0 := ⟨_, rfl⟩
            have kZ0 : Below Y.heap.size Y Z0 := by rw [← hZ0]; exact (Below.refl _ _).alloc (Nat.le_refl _) _
            have sZ0 : Z0.heap.size = W.heap.size + 2 + 1 + 1 := by rw [← hZ0]; simp; omega
            have row0 : Z0.rowIs (W.heap.size + 2 + 1) 52 12 (fun j => .int .i64 (leftF l j)) := by
              refine ⟨#[.int .i64 (leftF l 0), .int .i64 (leftF l 1), .int .i64 (leftF l 2), .int .i64 (leftF l 3), .int .i64 (leftF l 4), .int .i64 (leftF l 5), .int .i64 (leftF l 6), .int .i64 (leftF l 7), .int .i64 (leftF l 8), .int .i64 (leftF l 9), .int .i64 (leftF l 10), .int .i64 (leftF l 11)], by rw [← hZ0, show W.heap.size + 2 + 1 = Y.heap.size by omega]; exact World.alloc_heap_new Y _, rfl, fun i hi => ?_⟩
              match i, hi with
              | 0, _ | 1, _ | 2, _ | 3, _ | 4, _ | 5, _ | 6, _ | 7, _ | 8, _ | 9, _ | 10, _ | 11, _ => rfl
            have hlaF : leftF l a = la := HlaD.out
            have hlbF : leftF l b = lb := HlbD.out
            have za := row0.cell (i := a) (by omega)
            rw [hlaF] at za
            have zf := row0.frozen a
            have x0 := carry kZ0 y0 (by omega)
            have x1 := carry kZ0 y1 (by omega)
            have x2 := carry kZ0 m0 (by omega)
            have x3 := carry kZ0 m1 (by omega)
            have row1 := row0.set a (.int .i64 (la - 1))
            have hab : a ≠ b := by omega
            obtain ⟨Z1, hZ1⟩ : ∃ Z1, Z0.setCell ⟨W.heap.size + 2 + 1, a, none⟩ (.int .i64 (la - 1)) = Z1 := ⟨_, rfl⟩
            rw [hZ1] at row1
            have kZ1 : Below Y.heap.size Y Z1 := by rw [← hZ1]; exact kZ0.setCell (p := ⟨W.heap.size + 2 + 1, a, none⟩) (by show Y.heap.size ≤ W.heap.size + 2 + 1; omega) _
            have sZ1 : Z1.heap.size = W.heap.size + 2 + 1 + 1 := by rw [← hZ1]; simpa using sZ0
            have wb := row1.cell (i := b) (by omega)
            simp only [if_neg (Ne.symm hab), hlbF] at wb
            have wf := row1.frozen b
            have w0 := carry kZ1 y0 (by omega)
            have w1 := carry kZ1 y1 (by omega)
            have row2 := row1.set b (.int .i64 (lb - 1))
            obtain ⟨Z, hZ⟩ : ∃ Z, Z1.setCell ⟨W.heap.size + 2 + 1, b, none⟩ (.int .i64 (lb - 1)) = Z := ⟨_, rfl⟩
            rw [hZ] at row2
            have kZ : Below Y.heap.size Y Z := by rw [← hZ]; exact kZ1.setCell (p := ⟨W.heap.size + 2 + 1, b, none⟩) (by show Y.heap.size ≤ W.heap.size + 2 + 1; omega) _
            have sZ : Z.heap.size = W.heap.size + 2 + 1 + 1 := by rw [← hZ]; simpa using sZ1
            have rowZ : Z.rowIs (W.heap.size + 2 + 1) 52 12 (fun j => .int .i64 (leftF (lessN l a b) j)) := row2.congr (fun j hj => by
              have h := lessN_at (l := l) h1.1 (by rw [Hl.out]; exact hb) j
              show _ = Value.int .i64 ((lessN l a b).getD j 0)
              rw [h, HlaD.out, HlbD.out]
              by_cases e1 : j = b
              · rw [if_pos e1, if_pos e1]
              · rw [if_neg e1, if_neg e1]
                by_cases e2 : j = a
                · rw [if_pos e2, if_pos e2]
                · rw [if_neg e2, if_neg e2]; rfl)
            have HZ0 := Lib.hid hZ0
            have HZ1 := Lib.hid hZ1
            have HZ := Lib.hid hZ
            clear hZ0 hZ1 hZ row1 row2 row0 r0 r1 r2 r3 r4 r5 r6 r7 r8 r9 r10 r11
            rw [HZ0.out]
            clear y0 y1 ya yb
            have M0 := Lib.hid m0
            have M1 := Lib.hid m1
            have Wb := Lib.hid wb
            have Wf := Lib.hid wf
            have W0 := Lib.hid w0
            have W1 := Lib.hid w1
            clear m0 m1 wb wf w0 w1
            go_upto_region 11 with (fail)
            rw [HZ1.out]
            clear x0 x1 x2 x3 za zf
            have wb := Wb.out
            have wf := Wf.out
            have w0 := W0.out
            have w1 := W1.out
            go_upto_region 12 with (fail)
            rw [HZ.out]
            clear w0 w1 wb wf
            have hrg : Z.rangeAt (W.heap.size + 2 + 1) 0 [.int .i64 (leftF (lessN l a b) 0), .int .i64 (leftF (lessN l a b) 1), .int .i64 (leftF (lessN l a b) 2), .int .i64 (leftF (lessN l a b) 3), .int .i64 (leftF (lessN l a b) 4), .int .i64 (leftF (lessN l a b) 5), .int .i64 (leftF (lessN l a b) 6), .int .i64 (leftF (lessN l a b) 7), .int .i64 (leftF (lessN l a b) 8), .int .i64 (leftF (lessN l a b) 9), .int .i64 (leftF (lessN l a b) 10), .int .i64 (leftF (lessN l a b) 11)] := fun j v hv => by
              have hj : j < 12 := by simpa using (List.getElem?_eq_some_iff.1 hv).1
              have hc := rowZ.cell hj
              rw [Nat.zero_add, hc]
              match j, hj with
              | 0, _ | 1, _ | 2, _ | 3, _ | 4, _ | 5, _ | 6, _ | 7, _ | 8, _ | 9, _ | 10, _ | 11, _ => exact hv
            have hu52 := Try.underlying52
            have hi52 : (Try.prog.info? 52).map (·.size) = some ([.int .i64 (leftF (lessN l a b) 0), .int .i64 (leftF (lessN l a b) 1), .int .i64 (leftF (lessN l a b) 2), .int .i64 (leftF (lessN l a b) 3), .int .i64 (leftF (lessN l a b) 4), .int .i64 (leftF (lessN l a b) 5), .int .i64 (leftF (lessN l a b) 6), .int .i64 (leftF (lessN l a b) 7), .int .i64 (leftF (lessN l a b) 8), .int .i64 (leftF (lessN l a b) 9), .int .i64 (leftF (lessN l a b) 10), .int .i64 (leftF (lessN l a b) 11)] : List Value).length := by kernel_rfl
            have z0 := carry kZ (carry KY.out P0.out (by omega)) (by omega)
            have z1 := carry kZ (carry KY.out P1.out (by omega)) (by omega)
            have z2 := carry kZ M0.out (by omega)
            have z3 := carry kZ M1.out (by omega)
            have kWZ : Below W.heap.size W Z := KWY.out.trans (kZ.mono (by omega))
            have kS : ∀ V : World, Below Z.heap.size Z V → V.cell? ⟨W.heap.size, 0, none⟩ = some (.int .i64 a) ∧ V.cell? ⟨W.heap.size, 1, none⟩ = some (.int .i64 b) ∧ V.cell? ⟨W.heap.size + 2, 0, none⟩ = some (.int .i64 a) ∧ V.cell? ⟨W.heap.size + 2, 1, none⟩ = some (.int .i64 ((b : Int) + 1)) ∧ V.rangeAt (W.heap.size + 2 + 1) 0 [.int .i64 (leftF (lessN l a b) 0), .int .i64 (leftF (lessN l a b) 1), .int .i64 (leftF (lessN l a b) 2), .int .i64 (leftF (lessN l a b) 3), .int .i64 (leftF (lessN l a b) 4), .int .i64 (leftF (lessN l a b) 5), .int .i64 (leftF (lessN l a b) 6), .int .i64 (leftF (lessN l a b) 7), .int .i64 (leftF (lessN l a b) 8), .int .i64 (leftF (lessN l a b) 9), .int .i64 (leftF (lessN l a b) 10), .int .i64 (leftF (lessN l a b) 11)] := fun V h => ⟨carry h z0 (by omega), carry h z1 (by omega), carry h z2 (by omega), carry h z3 (by omega), rangeAt_eq hrg (h.block _ (by omega))⟩
            have lies : Lies (.slice A told.length c) 0 W.heap.size := own_lies Ht.out
            have kG : ∀ V V' : World, Below Z.heap.size Z V → V.grownBy V' (Value.slice A told.length c).ownBlock → V'.cell? ⟨W.heap.size, 0, none⟩ = some (.int .i64 a) ∧ V'.cell? ⟨W.heap.size, 1, none⟩ = some (.int .i64 b) ∧ V'.cell? ⟨W.heap.size + 2, 0, none⟩ = some (.int .i64 a) ∧ V'.cell? ⟨W.heap.size + 2, 1, none⟩ = some (.int .i64 ((b : Int) + 1)) ∧ V'.rangeAt (W.heap.size + 2 + 1) 0 [.int .i64 (leftF (lessN l a b) 0), .int .i64 (leftF (lessN l a b) 1), .int .i64 (leftF (lessN l a b) 2), .int .i64 (leftF (lessN l a b) 3), .int .i64 (leftF (lessN l a b) 4), .int .i64 (leftF (lessN l a b) 5), .int .i64 (leftF (lessN l a b) 6), .int .i64 (leftF (lessN l a b) 7), .int .i64 (leftF (lessN l a b) 8), .int .i64 (leftF (lessN l a b) 9), .int .i64 (leftF (lessN l a b) 10), .int .i64 (leftF (lessN l a b) 11)] := fun V V' h g => by
              obtain ⟨z0, z1, z2, z3, hrv⟩ := kS V h
              have hsv := h.size
              exact ⟨carryG g lies z0 (by omega), carryG g lies z1 (by omega), carryG g lies z2 (by omega), carryG g lies z3 (by omega), rangeAt_eq hrv (g.block _ (by omega) (fun e => by have := (lies _ e.symm).2; omega))⟩
            have kW : ∀ V : World, (∀ j, W.heap.size ≤ j → j < Z.heap.size → V.heap[j]? = Z.heap[j]?) → V.cell? ⟨W.heap.size, 0, none⟩ = some (.int .i64 a) ∧ V.cell? ⟨W.heap.size, 1, none⟩ = some (.int .i64 b) ∧ V.cell? ⟨W.heap.size + 2, 0, none⟩ = some (.int .i64 a) ∧ V.cell? ⟨W.heap.size + 2, 1, none⟩ = some (.int .i64 ((b : Int) + 1)) ∧ V.rangeAt (W.heap.size + 2 + 1) 0 [.int .i64 (leftF (lessN l a b) 0), .int .i64 (leftF (lessN l a b) 1), .int .i64 (leftF (lessN l a b) 2), .int .i64 (leftF (lessN l a b) 3), .int .i64 (leftF (lessN l a b) 4), .int .i64 (leftF (lessN l a b) 5), .int .i64 (leftF (lessN l a b) 6), .int .i64 (leftF (lessN l a b) 7), .int .i64 (leftF (lessN l a b) 8), .int .i64 (leftF (lessN l a b) 9), .int .i64 (leftF (lessN l a b) 10), .int .i64 (leftF (lessN l a b) 11)] := fun V h => ⟨(World.cell?_of_block (w := Z) (a := ⟨W.heap.size, 0, none⟩) (h (W.heap.size) (by omega) (by omega))).trans z0, (World.cell?_of_block (w := Z) (a := ⟨W.heap.size, 1, none⟩) (h (W.heap.size) (by omega) (by omega))).trans z1, (World.cell?_of_block (w := Z) (a := ⟨W.heap.size + 2, 0, none⟩) (h (W.heap.size + 2) (by omega) (by omega))).trans z2, (World.cell?_of_block (w := Z) (a := ⟨W.heap.size + 2, 1, none⟩) (h (W.heap.size + 2) (by omega) (by omega))).trans z3, rangeAt_eq hrg (h (W.heap.size + 2 + 1) (by omega) (by omega))⟩
            have kD : Below Z.heap.size Z Z.drew := (Below.refl _ _).drew
            have g1 : Below Z.heap.size Z (Z.drew.alloc (Obj.cells #[.int .i64 a, .int .i64 b] 43)) := kD.alloc (Nat.le_refl _) _
            have toldZ : World.toldP (Z.drew.alloc (Obj.cells #[.int .i64 a, .int .i64 b] 43)) A c told := own_below Ht.out (kWZ.trans (g1.mono (by omega))) (Nat.le_refl _)
            have Tz := Lib.hid toldZ
            have hnn : (Z.drew.alloc (Obj.cells #[.int .i64 a, .int .i64 b] 43)).heap[W.heap.size + 2 + 1 + 1]? = some (Obj.cells #[.int .i64 a, .int .i64 b] 43) := by rw [← sZ]; exact World.alloc_heap_new Z.drew _
            have n0 : (Z.drew.alloc (Obj.cells #[.int .i64 a, .int .i64 b] 43)).cell? ⟨W.heap.size + 2 + 1 + 1, 0, none⟩ = some (.int .i64 a) := by rw [cell_of_row _ _ _ _ _ _ hnn]; rfl
            have n1 : (Z.drew.alloc (Obj.cells #[.int .i64 a, .int .i64 b] 43)).cell? ⟨W.heap.size + 2 + 1 + 1, 1, none⟩ = some (.int .i64 b) := by rw [cell_of_row _ _ _ _ _ _ hnn]; rfl
            have hyes : LookYesP (KeptC o) (fun j => j < o) S A c told pre W Z := ⟨⟨S, keptC_held o _ _ _ _ _ HJ.out (Apart.of_below kWZ) (fun j hj => .inl hj), fun _ h => h, fun _ h => .inl h⟩, kWZ.mono (Nat.zero_le _), fun j hj => kWZ.block j (by have hj' : j < o := hj; omega), fun j _ hlt _ => kWZ.block j hlt, own_below Ht.out kWZ (Nat.le_refl _)⟩
            have Hyes := Lib.hid hyes
            have KZ := Lib.hid kZ
            clear toldZ hyes kZ
            have hhi : ∀ j, S j → o + 1 ≤ j := fun j hj => (HJ.out.1 j hj).1
            have hlen := lookN_len n k (lessN l a b) a (b + 1) (told ++ [((a : Int), (b : Int))])
            obtain ⟨L1, hL1⟩ : ∃ L1, lookN n k (lessN l a b) a (b + 1) (told ++ [((a : Int), (b : Int))]) = L1 := ⟨_, rfl⟩
            rw [hL1] at hlen
            have callC : ∀ (A1 : Option Addr) (c1 : Nat) (w4 : World), GrewP (Z.drew.alloc (Obj.cells #[.int .i64 a, .int .i64 b] 43)) w4 A A1 c c1 told ((a : Int), (b : Int)) →
                Calls Try.prog 32 #[.agg #[.int .i64 a, .int .i64 ((b : Int) + 1)], .int .i64 n, .agg #[.int .i64 (leftF (lessN l a b) 0), .int .i64 (leftF (lessN l a b) 1), .int .i64 (leftF (lessN l a b) 2), .int .i64 (leftF (lessN l a b) 3), .int .i64 (leftF (lessN l a b) 4), .int .i64 (leftF (lessN l a b) 5), .int .i64 (leftF (lessN l a b) 6), .int .i64 (leftF (lessN l a b) 7), .int .i64 (leftF (lessN l a b) 8), .int .i64 (leftF (lessN l a b) 9), .int .i64 (leftF (lessN l a b) 10), .int .i64 (leftF (lessN l a b) 11)], .slice A1 (told.length + 1) c1, cntV o] w4 fun e w5 => e = .returned (.bool true) ∧ LookYesP (KeptC o) (fun j => j < o) S A c told (pre ++ L1) W w5 ∧ ∀ j, W.heap.size ≤ j → j < Z.heap.size → w5.heap[j]? = Z.heap[j]? := by
              intro A1 c1 w4 G1
              have s4 := G1.grow.size
              simp only [World.size_alloc] at s4
              have sD : Z.drew.heap.size = Z.heap.size := rfl
              have bA : ∀ j, (Value.slice A told.length c).ownBlock = some j → j < W.heap.size := fun j hj => (lies j hj).2
              have hll : (told ++ [((a : Int), (b : Int))]).length = told.length + 1 := by simp
              have hJ4 : KeptC o (fun j => S j ∨ (W.heap.size ≤ j ∧ j < w4.heap.size)) pre w4 := by
                refine ⟨fun j hj => ?_, ?_⟩
                · rcases hj with h | h
                  · have := HJ.out.1 j h; omega
                  · omega
                · rw [G1.grow.block o (by simp only [World.size_alloc]; omega) (fun e => by have := hhi o (HA.out o e.symm); omega), g1.block o (by omega), kWZ.block o ho]
                  exact HJ.out.2
              have e4 : ∀ j, (Value.slice A1 (told ++ [((a : Int), (b : Int))]).length c1).ownBlock = some j → S j ∨ (W.heap.size ≤ j ∧ j < w4.heap.size) := by
                intro j hj
                rcases G1.same with ⟨rfl, rfl, _⟩ | ⟨_, g, rfl, hg⟩
                · exact .inl (HA.out j (by
                    cases hA' : A1 with
                    | none => rw [hA'] at hj; simp [Value.ownBlock] at hj
                    | some x => rw [hA'] at hj; exact hj))
                · have hlt := (own_lt G1.new).2
                  have : g = j := by simpa [Value.ownBlock] using hj
                  subst this
                  simp only [World.size_alloc] at hg
                  exact .inr ⟨by omega, hlt⟩
              have ihc := IH.out (lessN l a b) a (b + 1) (told ++ [((a : Int), (b : Int))]) A1 c1 (fun j => S j ∨ (W.heap.size ≤ j ∧ j < w4.heap.size)) pre w4 (Hs.out.more hb) (by rw [lessN_len]; exact Hl.out) (Hfew.out.less h1.1 (by rw [Hl.out]; exact hb) (by rw [HlaD.out]; exact hpa) (by rw [HlbD.out]; exact hpb)) (by rw [hll]; omega) (by omega) hJ4 G1.new e4 (by omega)
              rw [hL1, hll, eb] at ihc
              refine ihc.mono ?_
              rintro e w5 ⟨rfl, h2⟩
              refine ⟨rfl, Hyes.out.next (B := o + 1) HA.out hhi (fun j hj => Nat.lt_succ_of_lt hj) (by omega) g1 G1 (fun j hj => .inl hj) (fun j hj => hj.elim .inl (fun h => .inr h.1)) h2, fun j hj1 hj2 => ?_⟩
              rw [h2.other j (.inr ⟨hj1, by omega⟩) (by omega) ?_, G1.grow.block j (by simp only [World.size_alloc]; omega) (fun e => by have := bA j e.symm; omega), g1.block j hj2]
              intro hj
              rcases G1.same with ⟨rfl, rfl, _⟩ | ⟨_, g, rfl, hg⟩
              · have := bA j (by
                  cases hA' : A1 with
                  | none => rw [hA'] at hj; simp [Value.ownBlock] at hj
                  | some x => rw [hA'] at hj; exact hj)
                omega
              · have : g = j := by simpa [Value.ownBlock] using hj
                simp only [World.size_alloc] at hg
                omega
            have CallC := Lib.hid callC
            have HL1 := Lib.hid hL1
            have Hhi := Lib.hid hhi
            have RZ := Lib.hid rowZ
            clear callC hL1 hhi rowZ
            go_region_held_law (fun w' => w'.cell? ⟨W.heap.size, 0, none⟩ = some (.int .i64 a) ∧ w'.cell? ⟨W.heap.size, 1, none⟩ = some (.int .i64 b) ∧ w'.cell? ⟨W.heap.size + 2, 0, none⟩ = some (.int .i64 a) ∧ w'.cell? ⟨W.heap.size + 2, 1, none⟩ = some (.int .i64 ((b : Int) + 1)) ∧ w'.rangeAt (W.heap.size + 2 + 1) 0 [.int .i64 (leftF (lessN l a b) 0), .int .i64 (leftF (lessN l a b) 1), .int .i64 (leftF (lessN l a b) 2), .int .i64 (leftF (lessN l a b) 3), .int .i64 (leftF (lessN l a b) 4), .int .i64 (leftF (lessN l a b) 5), .int .i64 (leftF (lessN l a b) 6), .int .i64 (leftF (lessN l a b) 7), .int .i64 (leftF (lessN l a b) 8), .int .i64 (leftF (lessN l a b) 9), .int .i64 (leftF (lessN l a b) 10), .int .i64 (leftF (lessN l a b) 11)]) (first | exact kW _ hbx | exact kG _ _ g1 G1.grow | exact kS _ kD | exact kS _ g1) ((first
              | (refine step_append_toldP (by rfl) _ _ (by rfl) A c told a b (by rfl) Tz.out ⟨W.heap.size + 2 + 1 + 1, 0, none⟩ (by rfl) (two_cellsB n0 n1) (by omega) ?_; intro A1 c1 w4 G1)
              | (go_at_call 32; go_loud (refine (CallC.out A1 c1 w4 G1).mono ?_; rintro e w5 ⟨rfl, hL, hbx⟩))
              | fail))
            all_goals
              have bx : ∀ j, W.heap.size ≤ j → j < Y.heap.size → w5.heap[j]? = Y.heap[j]? := fun j j1 j2 => (hbx j j1 (by omega)).trans (KZ.out.block j j2)
              have m0 : w5.cell? ⟨W.heap.size + 2, 0, none⟩ = some (.int .i64 a) := (World.cell?_of_block (w := Y) (a := ⟨W.heap.size + 2, 0, none⟩) (bx (W.heap.size + 2) (by omega) (by omega))).trans M0.out
              have m1 : w5.cell? ⟨W.heap.size + 2, 1, none⟩ = some (.int .i64 ((b : Int) + 1)) := (World.cell?_of_block (w := Y) (a := ⟨W.heap.size + 2, 1, none⟩) (bx (W.heap.size + 2) (by omega) (by omega))).trans M1.out
              have row5 := RowY.out.of_block (bx (W.heap.size + 1) (by omega) (by omega))
              have r0 := row5.cell (i := 0) (by omega)
              have r1 := row5.cell (i := 1) (by omega)
              have r2 := row5.cell (i := 2) (by omega)
              have r3 := row5.cell (i := 3) (by omega)
              have r4 := row5.cell (i := 4) (by omega)
              have r5 := row5.cell (i := 5) (by omega)
              have r6 := row5.cell (i := 6) (by omega)
              have r7 := row5.cell (i := 7) (by omega)
              have r8 := row5.cell (i := 8) (by omega)
              have r9 := row5.cell (i := 9) (by omega)
              have r10 := row5.cell (i := 10) (by omega)
              have r11 := row5.cell (i := 11) (by omega)
              obtain ⟨S', hJ5, e1, e2⟩ := hL.ex
              have ihd := IH.out l a (b + 1) told A c S' (pre ++ L1) w5 (Hs.out.more hb) Hl.out Hfew.out (by omega) (by rw [List.length_append]; omega) hJ5 hL.told (fun j hj => e1 j (HA.out j hj)) (by have := hL.below.size; omega)
              rw [eb, List.append_assoc] at ihd
              have IHD := Lib.hid ihd
              have HLm := Lib.hid hL
              have E1 := Lib.hid e1
              have E2 := Lib.hid e2
              clear ihd hL e1 e2 hJ5 row5 bx hbx CallC
              go_wp2_with fail
              refine IHD.out.mono ?_
              rintro e w9 ⟨rfl, h9⟩
              have fin := HLm.out.again E1.out E2.out h9
              clear IHD h9 HLm
              go_wp2
              go_ret
              exact ⟨rfl, by rw [← HLL.out, lookN_take hb ⟨by rw [HlaD.out]; exact hpa, by rw [HlbD.out]; exact hpb⟩, HL1.out]; exact fin⟩
          · have hno : ¬ (0 < l.getD a 0 ∧ 0 < l.getD b 0) := by rw [HlaD.out, HlbD.out]; exact fun h => hpb h.2
            have ihc := IH.out l a (b + 1) told A c S pre Y (Hs.out.more hb) Hl.out Hfew.out (by omega) (by omega) JY.out ToldY.out HA.out (by omega)
            rw [eb] at ihc
            have IHC := Lib.hid ihc
            clear ihc
            have r0 := RowY.out.cell (i := 0) (by omega)
            have r1 := RowY.out.cell (i := 1) (by omega)
            have r2 := RowY.out.cell (i := 2) (by omega)
            have r3 := RowY.out.cell (i := 3) (by omega)
            have r4 := RowY.out.cell (i := 4) (by omega)
            have r5 := RowY.out.cell (i := 5) (by omega)
            have r6 := RowY.out.cell (i := 6) (by omega)
            have r7 := RowY.out.cell (i := 7) (by omega)
            have r8 := RowY.out.cell (i := 8) (by omega)
            have r9 := RowY.out.cell (i := 9) (by omega)
            have r10 := RowY.out.cell (i := 10) (by omega)
            have r11 := RowY.out.cell (i := 11) (by omega)
            go_wp2_with fail
            refine IHC.out.mono ?_
            rintro e w' ⟨rfl, hL⟩
            have fin := LookYesP.before KWY.out (fun j hj => by have hj' : j < o := hj; omega) hL
            clear hL IHC r0 r1 r2 r3 r4 r5 r6 r7 r8 r9 r10 r11
            go_wp2
            go_ret
            exact ⟨rfl, by rw [← HLL.out, lookN_not hb hno]; exact fin⟩
        · have hno : ¬ (0 < l.getD a 0 ∧ 0 < l.getD b 0) := by rw [HlaD.out, HlbD.out]; exact fun h => hpa h.1
          have ihc := IH.out l a (b + 1) told A c S pre Y (Hs.out.more hb) Hl.out Hfew.out (by omega) (by omega) JY.out ToldY.out HA.out (by omega)
          rw [eb] at ihc
          have IHC := Lib.hid ihc
          clear ihc
          have r0 := RowY.out.cell (i := 0) (by omega)
          have r1 := RowY.out.cell (i := 1) (by omega)
          have r2 := RowY.out.cell (i := 2) (by omega)
          have r3 := RowY.out.cell (i := 3) (by omega)
          have r4 := RowY.out.cell (i := 4) (by omega)
          have r5 := RowY.out.cell (i := 5) (by omega)
          have r6 := RowY.out.cell (i := 6) (by omega)
          have r7 := RowY.out.cell (i := 7) (by omega)
          have r8 := RowY.out.cell (i := 8) (by omega)
          have r9 := RowY.out.cell (i := 9) (by omega)
          have r10 := RowY.out.cell (i := 10) (by omega)
          have r11 := RowY.out.cell (i := 11) (by omega)
          go_wp2_with fail
          refine IHC.out.mono ?_
          rintro e w' ⟨rfl, hL⟩
          have fin := LookYesP.before KWY.out (fun j hj => by have hj' : j < o := hj; omega) hL
          clear hL IHC r0 r1 r2 r3 r4 r5 r6 r7 r8 r9 r10 r11
          go_wp2
          go_ret
          exact ⟨rfl, by rw [← HLL.out, lookN_not hb hno]; exact fin⟩
      · have hbn : ¬ (b : Int) < n := by omega
        have hbi2 : (n : Int) ≤ (b : Int) := by omega
        have hla00 : la = 0 := by omega
        have ek : lookN n (k + 1) l a b told = lookN n k l (a + 1) (a + 2) told := by rw [lookN_end hb, if_pos (by rw [HlaD.out]; exact hla00)]
        have ea : ((a + 1 : Nat) : Int) = (a : Int) + 1 := by omega
        have ea2 : ((a + 2 : Nat) : Int) = (a : Int) + 2 := by omega
        have ihAll := fun (Y : World) (hY : Below W.heap.size W Y) => IH.out l (a + 1) (a + 2) told A c S pre Y (Hs.out.next hb) Hl.out Hfew.out (by omega) (by omega) (keptC_held o _ _ _ _ _ HJ.out (Apart.of_below hY) (fun j hj => .inl hj)) (own_below Ht.out hY (Nat.le_refl _)) HA.out (by have := hY.size; omega)
        rw [ea, ea2] at ihAll
        rw [ek]
        have IHA := Lib.hid ihAll
        clear ihAll ek ea ea2
        have r0 := Row.out.cell (i := 0) (by omega)
        have r1 := Row.out.cell (i := 1) (by omega)
        have r2 := Row.out.cell (i := 2) (by omega)
        have r3 := Row.out.cell (i := 3) (by omega)
        have r4 := Row.out.cell (i := 4) (by omega)
        have r5 := Row.out.cell (i := 5) (by omega)
        have r6 := Row.out.cell (i := 6) (by omega)
        have r7 := Row.out.cell (i := 7) (by omega)
        have r8 := Row.out.cell (i := 8) (by omega)
        have r9 := Row.out.cell (i := 9) (by omega)
        have r10 := Row.out.cell (i := 10) (by omega)
        have r11 := Row.out.cell (i := 11) (by omega)
        go_enter Try.func32, Try.ntmps32
        go_upto_region 1 with (fail)
        rw [HX.out]
        go_wp2_with fail
        go_quiet (fail)
        have kN : Below W.heap.size W (X.drewN nq) := KX.out.trans (show Below W.heap.size X (X.drewN nq) from ⟨rfl, rfl, rfl, Nat.le_refl _, fun _ _ => rfl⟩)
        go_wp2_with fail
        refine (IHA.out _ kN).mono ?_
        rintro e w' ⟨rfl, hL⟩
        have fin := LookYesP.before kN (fun j hj => by have hj' : j < o := hj; omega) hL
        clear hL IHA r0 r1 r2 r3 r4 r5 r6 r7 r8 r9 r10 r11
        go_wp2
        go_ret
        exact ⟨rfl, fin⟩
end Go.Proofs.Ytgnfkgnokhjmcaa
