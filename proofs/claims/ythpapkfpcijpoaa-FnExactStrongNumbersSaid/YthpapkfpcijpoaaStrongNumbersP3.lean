/-
  Texts put together for the claim of 'StrongNumbers' (pack 3): CommonS, Iter, Told, Tz, Look, LookW, Tied, CountT, Ties, Ties2, Has, Own, LRows, ChooseP, Ways.
-/
import Derived.Test.YthpapkfpcijpoaaStrongNumbersP1
import Derived.Test.YthpapkfpcijpoaaStrongNumbersP2
import Derived.RangeFuncNested
import Derived.RangeFuncBound
import Derived.RangeFuncCalls
import Derived.RangeFuncLeaves
import Derived.Shelf.Abstract
import Derived.Shelf.RegionOpen
import Derived.OwnWalkIn
import Derived.TacticsInMore
import Derived.LoopNIn
import Derived.LoopIn
import Derived.Deep.RegionLawGrows
import Derived.Laws.OwnMore
import Derived.ScopeJumps
import Derived.WalkMore
import Derived.Laws.EntriesVeiled
import Derived.StillTailTactics
import Derived.Deep.DeepCutAuto
import Derived.ArgAppend
import Derived.Laws.AppendOwnNone
/-
  COMMON FRIENDS: the model's list of two people's, by its contract; how many the program counts.
-/
namespace Go.Proofs.Ythpapkfpcijpoaa
open Go.RowKit

/-- the common friends -/
def commonL (n : Nat) (t : Nat → Nat → Bool) (a b : Nat) : List Int := friendR n fun x => t a x && t b x
theorem commonL_le (n : Nat) (t : Nat → Nat → Bool) (a b : Nat) : (commonL n t a b).length ≤ n := friendR_le n _
theorem commonL_comm (n : Nat) (t : Nat → Nat → Bool) (a b : Nat) : commonL n t a b = commonL n t b a := by
  unfold commonL
  congr 1
  funext x
  rw [Bool.and_comm]
set_option maxHeartbeats 2000000 in
set_option maxRecDepth 100000 in
theorem cfCommon_any (n a b : Nat) (t : Nat → Nat → Bool) (A : Option Addr) (c : Nat) (G : Nat → Nat) (B : Nat) (w : World) (hn : n ≤ 12) (ha : a < n) (hb0 : b < n) (tab : TabG w B (.slice A n c) n n G t) :
    Calls Try.prog 51 #[.slice A n c, .int .i64 a, .int .i64 b] w fun e w' => ∃ A' c', e = .returned (.slice A' (commonL n t a b).length c') ∧
      w'.ownsRow w.heap.size 3 1 (.slice A' (commonL n t a b).length c') (commonL n t a b).length (icells (commonL n t a b)) ∧ Below w.heap.size w w' := by
  obtain ⟨i0, hi, hz0, hz1, hz2⟩ := info_parts Try.infoInt
  obtain ⟨g, rfl⟩ := own_form tab.own (by omega)
  have hai : (a : Int) < n := by omega
  have hbi : (b : Int) < n := by omega
  unfold commonL
  obtain ⟨f, hf⟩ : ∃ f, (fun x => t a x && t b x) = f := ⟨_, rfl⟩
  have hfx : ∀ x, (t a x && t b x) = f x := fun x => by rw [← hf]
  rw [hf]
  have Hfx := Lib.hid hfx
  clear hf hfx
  go_enter Try.func51, Try.ntmps51
  go_wp2
  go_loopw [7, 11] (fun v i wr => ∃ k : Nat, k ≤ n ∧ i = .int .i64 k ∧ wr.ownsRow w.heap.size 3 1 v (friendR k f).length (icells (friendR k f)) ∧ Below w.heap.size w wr) (fun _ i _ => n - (intOf i).toNat)
  case atStart => exact ⟨0, Nat.zero_le _, rfl, World.ownsRow_nil _ _ _ _, Below.refl _ _⟩
  case round =>
    obtain ⟨k, hk, rfl, hown, hb⟩ := hrel
    have hs := hb.size
    by_cases hlt : k < n
    · have hki : (k : Int) < n := by omega
      have tb := tab.below hb (Nat.le_refl _)
      have d0 := tb.outer ha
      have d1 := tb.outer hb0
      have e0 := tb.cell ha hlt
      have e1 := tb.cell hb0 hlt
      have hle := friendR_le k f
      have Hsn := Lib.hid (friendR_snoc k f)
      have hx := Hfx.out k
      cases ht : t a k with
      | false =>
        rw [ht] at e0 hx
        have Hx := Lib.hid (show f k = false from hx.symm)
        clear ht hx e1 d1 tb
        go_wp2
        go_roundw
        case rel =>
          refine ⟨k + 1, by omega, by go_num, ?_, hb⟩
          rw [Hsn.out, Hx.out]
          simp only [Bool.false_eq_true, if_false, List.append_nil]
          exact hown
        case measure => simp [intOf]; omega
      | true =>
        cases ht2 : t b k with
        | false =>
          rw [ht] at e0 hx
          rw [ht2] at e1 hx
          have Hx := Lib.hid (show f k = false from hx.symm)
          clear ht ht2 hx tb
          go_wp2
          go_roundw
          case rel =>
            refine ⟨k + 1, by omega, by go_num, ?_, hb⟩
            rw [Hsn.out, Hx.out]
            simp only [Bool.false_eq_true, if_false, List.append_nil]
            exact hown
          case measure => simp [intOf]; omega
        | true =>
          rw [ht] at e0 hx
          rw [ht2] at e1 hx
          have Hx := Lib.hid (show f k = true from hx.symm)
          clear ht ht2 hx tb
          go_wp2_with (at_builtin; refine wpList_append_own _ rfl _ _ 45 rfl w.heap.size 3 i0 _ 1 8 Try.underlying45 hi hz0 hz1 hz2 rfl (by decide) _ _ _ rfl (hown.alloc _) ⟨wr.heap.size, 0, none⟩ 1 1 [.int .i64 k] rfl rfl (one_cell (by simp)) (one_one rfl) (by unfold maxLen; omega) (by omega) (by simp; omega) ?_; intro v1 w3 hown3 hg3 _; obtain ⟨A1, d1', rfl, _⟩ := own_shape hown3)
          go_roundw
          case rel =>
            refine ⟨k + 1, by omega, by go_num, ?_, ?_⟩
            · rw [Hsn.out, Hx.out]
              simp only [if_true]
              rw [icells_append, List.length_append]
              exact hown3
            · exact (hb.alloc hs _).grown hg3 (by simp; omega) (fun k hk => (hown.lt k hk).1)
          case measure => simp [intOf]; omega
    · have hkl : n = k := by omega
      subst hkl
      have hge : ¬ ((n : Int) < n) := by omega
      obtain ⟨A', c', rfl, _⟩ := own_shape hown
      have Hown := Lib.hid hown
      clear hown
      go_wp2
      go_ret
      exact ⟨A', c', rfl, Hown.out, hb⟩
end Go.Proofs.Ythpapkfpcijpoaa
/-
  A RANGE OVER AN ITERATOR THAT WRITES CELLS OF ITS OWN BETWEEN TWO ROUNDS (and whose rounds read them): the contract of such an iterator ('Seq'), and the law of the statement. Nothing here speaks of the program.
-/
namespace Go.Proofs.Ythpapkfpcijpoaa
open Go.RowKit

/-- What lay is as it lay, but for blocks of S. -/
structure Apart (S : Nat → Prop) (A C : World) : Prop where
  below : Below 0 A C
  same : ∀ j, j < A.heap.size → ¬ S j → C.heap[j]? = A.heap[j]?
/-- The blocks of S are as they were. -/
structure Stays (S : Nat → Prop) (A C : World) : Prop where
  below : Below 0 A C
  same : ∀ j, j < A.heap.size → S j → C.heap[j]? = A.heap[j]?
theorem Apart.refl (S : Nat → Prop) (A : World) : Apart S A A := ⟨Below.refl _ _, fun _ _ _ => rfl⟩
theorem Apart.mono {S S' : Nat → Prop} {A C : World} (h : Apart S A C) (hS : ∀ j, S j → S' j) : Apart S' A C := ⟨h.below, fun j hj hn => h.same j hj fun hs => hn (hS j hs)⟩
theorem Stays.mono {S S' : Nat → Prop} {A C : World} (h : Stays S A C) (hS : ∀ j, S' j → S j) : Stays S' A C := ⟨h.below, fun j hj hs => h.same j hj (hS j hs)⟩
theorem Stays.refl (S : Nat → Prop) (A : World) : Stays S A A := ⟨Below.refl _ _, fun _ _ _ => rfl⟩
theorem Stays.trans {S : Nat → Prop} {A C D : World} (h : Stays S A C) (k : Stays S C D) : Stays S A D :=
  ⟨h.below.trans k.below, fun j hj hs => (k.same j (Nat.lt_of_lt_of_le hj h.below.size) hs).trans (h.same j hj hs)⟩
theorem Apart.trans {S S' : Nat → Prop} {A C D : World} (h : Apart S A C) (k : Apart S' C D) (hS : ∀ j, S' j → S j ∨ A.heap.size ≤ j) : Apart S A D :=
  ⟨h.below.trans k.below, fun j hj hn => (k.same j (Nat.lt_of_lt_of_le hj h.below.size) (fun hs => by rcases hS j hs with h' | h'; exact hn h'; omega)).trans (h.same j hj hn)⟩
theorem Apart.putObj (W : World) (l : Nat) (o : Obj) : Apart (fun j => j = l) W (W.putObj l o) :=
  ⟨(Below.refl 0 W).grown (grownBy_putObj' W l o) (Nat.zero_le _) (fun k _ => Nat.zero_le k), fun _ _ hn => World.putObj_heap_other hn⟩
theorem Apart.alloc (S : Nat → Prop) (W : World) (o : Obj) : Apart S W (W.alloc o) := ⟨(Below.refl 0 W).alloc (Nat.zero_le _) o, fun j hj _ => Below.heap_alloc W o j hj⟩
theorem Stays.alloc (S : Nat → Prop) (W : World) (o : Obj) : Stays S W (W.alloc o) := ⟨(Below.refl 0 W).alloc (Nat.zero_le _) o, fun j hj _ => Below.heap_alloc W o j hj⟩
theorem Stays.putObj {S : Nat → Prop} {l : Nat} (hl : ¬ S l) (W : World) (o : Obj) : Stays S W (W.putObj l o) :=
  ⟨(Below.refl 0 W).grown (grownBy_putObj' W l o) (Nat.zero_le _) (fun k _ => Nat.zero_le k), fun _ _ hs => World.putObj_heap_other fun e => hl (e ▸ hs)⟩
theorem Stays.setCell {S : Nat → Prop} {p : Addr} (hl : ¬ S p.block) (W : World) (u : Value) : Stays S W (W.setCell p u) :=
  ⟨(Below.refl 0 W).setCell (Nat.zero_le _) u, fun j _ hs => Below.heap_setCell W p u j fun e => hl (e ▸ hs)⟩
theorem Apart.grown {S : Nat → Prop} {W W' : World} {row : Option Nat} (hg : W.grownBy W' row) (h : ∀ k, row = some k → S k) : Apart S W W' :=
  ⟨(Below.refl 0 W).grown hg (Nat.zero_le _) (fun k _ => Nat.zero_le k), fun j hj hn => hg.block j hj fun e => hn (h j e.symm)⟩
theorem Stays.grown {S : Nat → Prop} {W W' : World} {row : Option Nat} (hg : W.grownBy W' row) (h : ∀ k, row = some k → ¬ S k) : Stays S W W' :=
  ⟨(Below.refl 0 W).grown hg (Nat.zero_le _) (fun k _ => Nat.zero_le k), fun j hj hs => hg.block j hj fun e => h j e.symm hs⟩
theorem Stays.of_below {S : Nat → Prop} {W W' : World} (h : Below W.heap.size W W') : Stays S W W' := ⟨h.mono (Nat.zero_le _), fun j hj _ => h.block j hj⟩
theorem Apart.of_below {S : Nat → Prop} {W W' : World} (h : Below W.heap.size W W') : Apart S W W' := ⟨h.mono (Nat.zero_le _), fun j hj _ => h.block j hj⟩
theorem Apart.cell {S : Nat → Prop} {A C : World} (h : Apart S A C) {p : Addr} {v : Value} (hc : A.cell? p = some v) (hn : ¬ S p.block) : C.cell? p = some v :=
  (World.cell?_of_block (h.same p.block (World.block_lt_of_cell? A p hc) hn)).trans hc
theorem Apart.frozen {S : Nat → Prop} {A C : World} (h : Apart S A C) {p : Addr} {v : Value} (hc : A.cell? p = some v) (hn : ¬ S p.block) : C.frozen? p = A.frozen? p :=
  World.frozen?_of_block (h.same p.block (World.block_lt_of_cell? A p hc) hn)
theorem Stays.cell {S : Nat → Prop} {A C : World} (h : Stays S A C) {p : Addr} {v : Value} (hc : A.cell? p = some v) (hn : S p.block) : C.cell? p = some v :=
  (World.cell?_of_block (h.same p.block (World.block_lt_of_cell? A p hc) hn)).trans hc
theorem Apart.below_of {S : Nat → Prop} {A C : World} (h : Apart S A C) {B : Nat} (hB : B ≤ A.heap.size) (hS : ∀ j, S j → B ≤ j) : Below B A C :=
  ⟨h.below.os, h.below.tape, h.below.output, h.below.size, fun k hk => h.same k (by omega) fun hs => by have := hS k hs; omega⟩

theorem roundIn_any {m m' : Nat} {P : Program} {l : Nat} {f : FuncId} {tmps : Array Value} {assign body : Code} {w : World} {R : Ending → World → Prop}
    (h : RoundIn Fence.wide m P l f tmps assign body w R) : RoundIn Fence.wide m' P l f tmps assign body w R := ⟨h.1, fun c cs _ => h.2 c cs (room_wide _)⟩
theorem yield_any {m m' : Nat} {P : Program} {l : Nat} {args : Array Value} {W : World} {R : Ending → World → Prop} (h : YieldAt Fence.wide m P l args W R) : YieldAt Fence.wide m' P l args W R := by
  obtain ⟨fn, tmps, assign, body, hy, hR⟩ := h
  exact ⟨fn, tmps, assign, body, hy, roundIn_any hR⟩

/-- What is held between two rounds abides whatever turns blocks that are not the holder's own. -/
def Held {α : Type} (J : (Nat → Prop) → List α → World → Prop) : Prop :=
  ∀ T T' pre A C, J T pre A → Apart T A C → (∀ j, T' j → T j ∨ (A.heap.size ≤ j ∧ j < C.heap.size)) → J T' pre C

/-- THE ITERATOR's CONTRACT: all of xs come, one after the other; or a round has said 'no more' behind some of them. 'Rd T x args W': what a round is handed, and what it may read of the iterator's own blocks T; R: other blocks that a round keeps. -/
def Seq {α : Type} (P : Program) (g : Nat) (lb : Array Value) (R : Nat → Prop) (Rd : (Nat → Prop) → α → Array Value → World → Prop) (xs : List α) (w0 : World) : Prop :=
  ∀ (l : Nat) (J Jx : (Nat → Prop) → List α → World → Prop) (W : World), Below w0.heap.size w0 W → Held J →
    (∀ T pre x args W1, J T pre W1 → Rd T x args W1 → pre ++ [x] <+: xs → YieldAt Fence.wide 0 P l args W1 fun e W' =>
      (e = .returned (.bool true) ∧ J T (pre ++ [x]) W' ∧ Stays (fun j => T j ∨ R j) W1 W') ∨ (e = .returned (.bool false) ∧ Jx T (pre ++ [x]) W')) →
    J (fun _ => False) [] W →
    Calls P g (#[.func (.yield l) #[] #[]] ++ lb) W fun e W' => (∃ v, e = .returned v) ∧ ((∃ T, J T xs W') ∨ (∃ T pre x, pre ++ [x] <+: xs ∧ Jx T (pre ++ [x]) W'))

/-- HOW THE BODY OF A ROUND MAY BE LEFT. -/
def iterPost {α : Type} (B : Nat) (S R : Nat → Prop) (I : (Nat → Prop) → List α → World → Prop) (Ix : Code → List α → World → Prop) (xs : List α) (W : World) : Exit → Act → World → Prop
  | .normal, _, W' => Stays (fun j => S j ∨ R j) W W' ∧ I S xs W'
  | .ret, _, W' => Stays (fun j => B ≤ j ∧ j ≤ B + 1) W W' ∧ Ix .ret xs W'
  | .exit id, _, W' => Stays (fun j => B ≤ j ∧ j ≤ B + 1) W W' ∧ Ix (.exit id) xs W'
  | .goto t, _, W' => Stays (fun j => B ≤ j ∧ j ≤ B + 1) W W' ∧ Ix (.goto t) xs W'
  | .panic _, _, _ => False
  | .outgrown, _, _ => False

variable {P : Program}
theorem wpIn_rangeFunc_iter {α : Type} {n : Nat} {g : Operand} {ps : Array Tmp} {assign body : Code} {Q : Exit → Act → World → Prop} {a : Act} {w : World}
    {gf : Nat} {lb : Array Value} (hg : a.eval g = .func (.func gf) #[] lb) (eg : ∀ args w, (callFunc gf args).run P w = .ok (.enter gf args) w)
    {R : Nat → Prop} {Rd : (Nat → Prop) → α → Array Value → World → Prop} {xs : List α} {w0 : World} (hseq : Seq P gf lb R Rd xs w0) (hb0 : Below w0.heap.size w0 w) (hR : ∀ j, R j → j < w.heap.size)
    (hRd : ∀ T x args A C, Rd T x args A → Stays T A C → Rd T x args C) (hps : ∀ T x args W, Rd T x args W → args.size = ps.size)
    (I : (Nat → Prop) → List α → World → Prop) (Ix : Code → List α → World → Prop) (hI : Held I) (hIx : ∀ c pre A C, Ix c pre A → Apart (fun j => j = w.heap.size + 1) A C → Ix c pre C)
    (h0 : I (fun _ => False) [] w) (a₁ : Array Value → Act)
    (hassign : ∀ (l : Nat) (T : Nat → Prop) (x : α) (args : Array Value) (W : World) (K : Act → World → Prop), Rd T x args W → K (a₁ args) W →
      assign.wpIn (Fence.wide.inRound l) n P (Exit.then K (fun _ _ _ => False)) { tmps := (ps.zip args).foldl (fun t (p, v) => t.setIfInBounds p v) a.tmps, defers := [] } W)
    (hbody : ∀ (l : Nat) (T S : Nat → Prop) (pre : List α) (x : α) (args : Array Value) (W : World), I S pre W → Rd T x args W → (∀ j, T j → S j) →
      body.wpIn (Fence.wide.inRound l) n P (iterPost w.heap.size S R I Ix (pre ++ [x]) W) (a₁ args) W)
    (hdone : ∀ (S : Nat → Prop) (W : World), I S xs W → W.heap[w.heap.size]? = some (.deferred (some [])) → Q .normal { a with defers := { target := .collected w.heap.size, args := #[] } :: a.defers } W)
    (hstop : ∀ (c : Code) (pre : List α) (x : α) (W : World), pre ++ [x] <+: xs → Ix c (pre ++ [x]) W → W.heap[w.heap.size]? = some (.deferred (some [])) → c.wpIn Fence.wide n P Q { a with defers := { target := .collected w.heap.size, args := #[] } :: a.defers } W) :
    (Code.rangeFunc g ps assign body).wpIn Fence.wide n P Q a w := by
  refine wpIn_rangeFunc ?_
  intro fn hfn
  rw [show Fence.wide.round = none from rfl]
  obtain ⟨rec, hrec⟩ : ∃ rec : LoopState → Option Code → Loop, rec = fun st pe => { state := st, pending := pe, fn, tmps := a.tmps, params := ps, assign, body, defers := w.heap.size } := ⟨_, rfl⟩
  obtain ⟨W1, hW1⟩ : ∃ W1, (w.alloc (.deferred (some []))).alloc (.loop (rec .ready none)) = W1 := ⟨_, rfl⟩
  have hL1 : W1.heap[w.heap.size + 1]? = some (.loop (rec .ready none)) := by
    rw [← hW1]; have := World.alloc_heap_new (w.alloc (.deferred (some []))) (.loop (rec .ready none)); rwa [World.size_alloc] at this
  have hK1 : W1.heap[w.heap.size]? = some (.deferred (some [])) := by
    rw [← hW1]; exact (Below.heap_alloc _ _ _ (by simp)).trans (World.alloc_heap_new w _)
  have hw1 : Below w.heap.size w W1 := by rw [← hW1]; exact (((Below.refl _ w).alloc (Nat.le_refl _) _).alloc (by simp) _)
  have hb1 : Below w0.heap.size w0 W1 := hb0.trans (hw1.mono hb0.size)
  have hz1 : W1.heap.size = w.heap.size + 2 := by rw [← hW1]; simp
  have hI1 : I (fun j => j = w.heap.size ∨ j = w.heap.size + 1) [] W1 := hI _ _ _ _ _ h0 (Apart.of_below hw1) (fun j hj => .inr (by omega))
  refine ⟨w.heap.size + 1, [{ target := .collected w.heap.size, args := #[] }], W1, { target := .fn (.func gf) lb, args := #[.func (.yield (w.heap.size + 1)) #[] #[]] }, W1, gf,
    #[.func (.yield (w.heap.size + 1)) #[] #[]] ++ lb, W1, ?_, ?_, ?_, ?_, fun h => (by cases h), ?_⟩
  · rw [← hW1, hrec]; exact run_enterLoop_outer _ _ _ _ _
  · simp only [resolve, hg]
    simp [go_sem]
  · intro f' hf'; trivial
  · simp [invoke, go_sem, eg]
  · refine callsIn_wide.2 ?_
    refine (hseq (w.heap.size + 1)
      (fun T pre W => I (fun j => T j ∨ j = w.heap.size ∨ j = w.heap.size + 1) pre W ∧ (∀ j, T j → w.heap.size + 2 ≤ j) ∧ W.heap[w.heap.size + 1]? = some (.loop (rec .ready none)) ∧ W.heap[w.heap.size]? = some (.deferred (some [])))
      (fun T pre W => ∃ c, Ix c pre W ∧ W.heap[w.heap.size + 1]? = some (.loop (rec .done (some c))) ∧ W.heap[w.heap.size]? = some (.deferred (some [])))
      W1 hb1 ?held ?round ⟨hI _ _ _ _ _ hI1 (Apart.refl _ _) (fun j hj => by rcases hj with h | h; exact h.elim; exact .inl h), fun j h => h.elim, hL1, hK1⟩).mono ?_
    case held =>
      rintro T T' pre A C ⟨hi, hT, hl, hk⟩ hA hT'
      have hlt : w.heap.size + 1 < A.heap.size := (Array.getElem?_eq_some_iff.1 hl).1
      refine ⟨hI _ _ _ _ _ hi (hA.mono fun j hj => .inl hj) (fun j hj => ?_), fun j hj => ?_, (hA.same _ hlt (fun h => by have := hT _ h; omega)).trans hl, (hA.same _ (by omega) (fun h => by have := hT _ h; omega)).trans hk⟩
      · rcases hj with hj | hj
        · rcases hT' j hj with h | h
          · exact .inl (.inl h)
          · exact .inr h
        · exact .inl (.inr hj)
      · rcases hT' j hj with h | h
        · exact hT j h
        · omega
    case round =>
      rintro T pre x args W ⟨hi, hT, hl, hk⟩ hrd _
      have hlt : w.heap.size + 1 < W.heap.size := (Array.getElem?_eq_some_iff.1 hl).1
      have hnT : ¬ T (w.heap.size + 1) := fun h => by have := hT _ h; omega
      have hnR : ¬ (T (w.heap.size + 1) ∨ R (w.heap.size + 1)) := fun h => by rcases h with h | h; exact hnT h; have := hR _ h; omega
      have hy := run_yield (P := P) (args := args) hl (by rw [hrec]; exact hps T x args W hrd)
      rw [hrec] at hy
      refine yield_any (m := n + 1) ⟨fn, _, assign, body, hy, roundIn_any (m := n) (roundIn_of_wpIn hfn (hassign _ T x args W _ hrd ⟨_, run_beginRound hl (by rw [hrec]), ?_⟩))⟩
      have hl2 : (W.putObj (w.heap.size + 1) (.loop { rec .ready none with state := .busy })).heap[w.heap.size + 1]? = some (.loop { rec .ready none with state := .busy }) := World.putObj_heap_same hlt
      have hk2 : (W.putObj (w.heap.size + 1) (.loop { rec .ready none with state := .busy })).heap[w.heap.size]? = some (.deferred (some [])) := (World.putObj_heap_other (by omega)).trans hk
      have hi2 := hI _ _ _ _ _ hi ((Apart.putObj W (w.heap.size + 1) (.loop { rec .ready none with state := .busy })).mono fun j hj => .inr (.inr hj)) (fun j hj => .inl hj)
      have hst := Stays.putObj (S := fun j => T j ∨ R j) hnR W (.loop { rec .ready none with state := .busy })
      have hlz := (Array.getElem?_eq_some_iff.1 hl2).1
      have hkz := (Array.getElem?_eq_some_iff.1 hk2).1
      refine wpIn_mono (hbody _ T _ pre x args _ hi2 (hRd _ _ _ _ _ hrd (hst.mono fun j hj => .inl hj)) fun j hj => .inl hj) ?_
      have fin : ∀ (jump : Option Code) (W3 : World), W3.heap[w.heap.size + 1]? = some (.loop { rec .ready none with state := .busy }) → W3.heap[w.heap.size]? = some (.deferred (some [])) →
          (Instr.endRound (w.heap.size + 1) jump).run P W3 = .ok (.bool jump.isNone) (W3.putObj (w.heap.size + 1) (.loop (rec (if jump.isNone then .ready else .done) jump))) ∧
          (W3.putObj (w.heap.size + 1) (.loop (rec (if jump.isNone then .ready else .done) jump))).heap[w.heap.size + 1]? = some (.loop (rec (if jump.isNone then .ready else .done) jump)) ∧
          (W3.putObj (w.heap.size + 1) (.loop (rec (if jump.isNone then .ready else .done) jump))).heap[w.heap.size]? = some (.deferred (some [])) := fun jump W3 hl3 hk3 => by
        have := run_endRound (P := P) jump hl3
        rw [hrec] at this ⊢
        exact ⟨this, World.putObj_heap_same (Array.getElem?_eq_some_iff.1 hl3).1, (World.putObj_heap_other (by omega)).trans hk3⟩
      rintro e a3 W3 hp
      cases e with
      | normal =>
        obtain ⟨hs3, hi3⟩ := hp
        have hl3 := (hs3.same (w.heap.size + 1) hlz (.inl (.inr (.inr rfl)))).trans hl2
        have hk3 := (hs3.same w.heap.size hkz (.inl (.inr (.inl rfl)))).trans hk2
        obtain ⟨hr, hl4, hk4⟩ := fin none W3 hl3 hk3
        refine ⟨_, _, hr, .inl ⟨rfl, ⟨hI _ _ _ _ _ hi3 ((Apart.putObj W3 _ _).mono fun j hj => .inr (.inr hj)) (fun j hj => .inl hj), hT, hl4, hk4⟩, ?_⟩⟩
        exact (hst.trans (hs3.mono fun j hj => hj.elim (fun h => .inl (.inl h)) .inr)).trans (Stays.putObj (S := fun j => T j ∨ R j) hnR W3 _)
      | ret =>
        obtain ⟨hs3, hi3⟩ := hp
        obtain ⟨hr, hl4, hk4⟩ := fin (some .ret) W3 ((hs3.same (w.heap.size + 1) hlz (by omega)).trans hl2) ((hs3.same w.heap.size hkz (by omega)).trans hk2)
        exact ⟨_, _, hr, .inr ⟨rfl, .ret, hIx _ _ _ _ hi3 (Apart.putObj W3 _ _), hl4, hk4⟩⟩
      | exit id =>
        obtain ⟨hs3, hi3⟩ := hp
        obtain ⟨hr, hl4, hk4⟩ := fin (some (.exit id)) W3 ((hs3.same (w.heap.size + 1) hlz (by omega)).trans hl2) ((hs3.same w.heap.size hkz (by omega)).trans hk2)
        exact ⟨_, _, hr, .inr ⟨rfl, .exit id, hIx _ _ _ _ hi3 (Apart.putObj W3 _ _), hl4, hk4⟩⟩
      | goto t =>
        obtain ⟨hs3, hi3⟩ := hp
        obtain ⟨hr, hl4, hk4⟩ := fin (some (.goto t)) W3 ((hs3.same (w.heap.size + 1) hlz (by omega)).trans hl2) ((hs3.same w.heap.size hkz (by omega)).trans hk2)
        exact ⟨_, _, hr, .inr ⟨rfl, .goto t, hIx _ _ _ _ hi3 (Apart.putObj W3 _ _), hl4, hk4⟩⟩
      | panic ch => exact hp.elim
      | outgrown => exact hp.elim
    · rintro e W2 ⟨⟨v, rfl⟩, (⟨T, hi, hT, hl, hk⟩ | ⟨T, pre, x, hpre, c, hi, hl, hk⟩)⟩
      · exact ⟨none, _, by have := run_endLoop (P := P) hl (by rw [hrec]; simp); rw [hrec] at this; exact this, hdone _ _ (hI _ _ _ _ _ hi ((Apart.putObj W2 _ _).mono fun j hj => .inr (.inr hj)) (fun j hj => .inl hj)) ((World.putObj_heap_other (by omega)).trans hk)⟩
      · exact ⟨some c, _, by have := run_endLoop (P := P) hl (by rw [hrec]; simp); rw [hrec] at this; exact this, hstop c pre x _ hpre (hIx _ _ _ _ hi (Apart.putObj W2 _ _)) ((World.putObj_heap_other (by omega)).trans hk)⟩
end Go.Proofs.Ythpapkfpcijpoaa
/-
  A LIST OF NUMBERS THAT GROWS BY ONE WHILE THE SHORTER ONE IS STILL READ: 'append(told, a)' at a step of a region that draws its order.
-/
namespace Go.Proofs.Ythpapkfpcijpoaa
open Go.RowKit

/-- a list of numbers in a block of its own, which may have room behind -/
abbrev World.told (w : World) (A : Option Addr) (c : Nat) (l : List Int) : Prop := w.ownsRow 0 3 1 (.slice A l.length c) l.length (icells l)
/-- one more: the shorter list still stands; the longer lies in its block or in a new one -/
structure Grew (w w' : World) (A A' : Option Addr) (c c' : Nat) (l : List Int) (x : Int) : Prop where
  new : World.told w' A' c' (l ++ [x])
  old : World.told w' A c l
  grow : w.grownBy w' (Value.slice A l.length c).ownBlock
  same : A' = A ∧ c' = c ∧ A ≠ none ∨ w.grownBy w' none ∧ ∃ g, A' = some ⟨g, 0, none⟩ ∧ w.heap.size ≤ g
theorem told_front {w : World} {A : Option Addr} {c : Nat} {l : List Int} {x : Int} (h : World.told w A c (l ++ [x])) (hA : A ≠ none) : World.told w A c l := by
  rcases h.2 with ⟨hv, _⟩ | ⟨g, cap, cur, hv, hb, hg, hn, hm, hs, ht⟩
  · simp only [Value.slice.injEq] at hv
    exact absurd hv.1 hA
  · simp only [Value.slice.injEq] at hv
    obtain ⟨rfl, _, rfl⟩ := hv
    refine ⟨by simp [icells], .inr ⟨g, c, cur, rfl, hb, hg, ?_, hm, hs, ?_⟩⟩
    · rw [List.length_append] at hn; simp at hn; omega
    · have e := congrArg (List.take (l.length * 1)) ht
      rw [List.take_take, icells_append] at e
      rw [Nat.min_eq_left (by rw [List.length_append]; simp)] at e
      rw [e, Nat.mul_one]
      have : (icells l).length = l.length := icells_length l
      rw [← this, List.take_left]
theorem told_own {A : Option Addr} {c : Nat} {l : List Int} {g : Nat} (hA : A = some ⟨g, 0, none⟩) : (Value.slice A l.length c).ownBlock = some g := by rw [hA]; rfl

theorem step_append_told {ops : Array Oper} {o : Oper} {a : Act} {w : World} {K : Act → World → Prop} {Q : Exit → Act → World → Prop} {E : Prop}
    (hgd : o.guard = none) (s x : Operand) (ho : o.op = .call { callee := .builtin .append, args := #[s, x], argTypes := #[45, 45] })
    (A : Option Addr) (c : Nat) (l : List Int) (y : Int) (hs : a.eval s = .slice A l.length c) (hown : World.told w A c l)
    (ad : Addr) (hx : a.eval x = .slice (some ad) 1 1) (hcell : ∀ j u, [Value.int .i64 y][j]? = some u → w.cell? (ad.add j) = some u) (hlen : l.length ≤ 1000)
    (h : ∀ A' c' w', Grew w w' A A' c c' l y → K (a.put o.dst (.slice A' (l.length + 1) c')) w') :
    if Region.wanted o (yielded ops a.tmps) = true then Oper.wp Try.prog o a w K Q else E := by
  obtain ⟨i0, hi, hz0, hz1, hz2⟩ := info_parts Try.infoInt
  have hone : ∀ u ∈ [Value.int .i64 y], u.oneCell' = true := one_one rfl
  have hll : (l ++ [y]).length = l.length + 1 := by simp
  by_cases hroom : l.length + 1 ≤ c
  · have hw : Region.wanted o (yielded ops a.tmps) = true := by simp [Region.wanted, hgd]
    rw [if_pos hw]
    rcases hown.2 with ⟨hv, _⟩ | ⟨g, cap, cur, hv, hb, hg, hn, hm, hsz, ht⟩
    · simp only [Value.slice.injEq] at hv
      omega
    · simp only [Value.slice.injEq] at hv
      obtain ⟨rfl, _, rfl⟩ := hv
      obtain ⟨w', hrun, r1, r2⟩ := run_append_fits (P := Try.prog) w 0 45 o.type 3 i0 1 Try.underlying45 hi hz1 g l.length c (icells l) hown ad 1 1 [.int .i64 y] rfl hcell hone hroom
      unfold Oper.wp
      simp [execOp, ho, resolve, invoke, builtin, hs, hx, hrun, Result.andThen]
      have r3 : World.told w' (some ⟨g, 0, none⟩) c (l ++ [y]) := by rw [World.told, hll, icells_append]; exact r1
      exact h _ _ w' ⟨r3, told_front r3 (by simp), r2, .inl ⟨rfl, rfl, by simp⟩⟩
  · refine step_append_grows hgd s x 45 ho 3 i0 _ 1 8 Try.underlying45 hi hz0 hz1 hz2 rfl (by decide) A l.length c (icells l) hs ?_ (by simp [icells]) ?_ ad 1 1 [.int .i64 y] hx rfl hcell hone (by omega) (by unfold maxLen; omega) (by omega) ?_
    · intro e
      rcases hown.2 with ⟨hv, h0⟩ | ⟨g, cap, cur, hv, _⟩
      · simp only [Value.slice.injEq] at hv
        exact ⟨hv.2.1, hv.2.2⟩
      · simp [e] at hv
    · intro b e j u hj
      obtain ⟨b', off, e', _, hc⟩ := (CRead.of_own hown) j u hj
      rw [e] at e'
      simp only [Option.some.injEq] at e'
      rw [e', Addr.add_lit]
      exact hc
    · intro v' w' r1 r2
      obtain ⟨A', c', rfl, _⟩ := own_shape r1
      obtain ⟨g, hgA⟩ := own_form r1 (by omega)
      have hlt := (own_lower r1 (Nat.zero_le _))
      refine h A' c' w' ⟨by rw [World.told, hll, icells_append]; exact hlt, hown.kept r2 (by cases (Value.slice A l.length c).ownBlock <;> simp), ⟨r2.os, r2.tape, r2.output, r2.size, fun k hk _ => r2.block k hk (by simp)⟩, .inr ⟨r2, g, hgA, ?_⟩⟩
      subst hgA
      exact (own_lt r1).1
end Go.Proofs.Ythpapkfpcijpoaa
/-
  math/bits.TrailingZeros16 by its contract, where the library's table lies as its initialiser lays it.
-/
namespace Go.Proofs.Ythpapkfpcijpoaa
open Go.RowKit

def sliceLen : Value → Nat | .slice _ n _ => n | _ => 0
/-- The table in its variable (block 0). -/
def TabW (w : World) : Prop := ∀ j, j < 32 → w.cell? ⟨0, j, none⟩ = some (.int .u8 (Lib.deBruijn32tab.getD j 0))
theorem TabW.below {B : Nat} {w w' : World} (h : TabW w) (hb : Below B w w') (hB : 0 < B) : TabW w' := fun j hj => (hb.cell (p := ⟨0, j, none⟩) hB).trans (h j hj)
theorem TabW.pos {w : World} (h : TabW w) : 0 < w.heap.size := World.block_lt_of_cell? w _ (h 0 (by omega))

theorem tz16_key (x a : Nat) (hx : x < 65536) (hx0 : x ≠ 0) (hlow : x &&& (65536 - x) = 2 ^ a) (ha : a < 16) :
    bits BinOp.and IntKind.u16 (x : Int) (IntKind.u16.wrap (-(x : Int))) % 4294967296 * 125613361 % 4294967296 / 134217728 = ((2 ^ a * 125613361 % 4294967296 / 134217728 : Nat) : Int) := by
  have e1 : IntKind.u16.wrap (-(x : Int)) = ((65536 - x : Nat) : Int) := by rw [IntKind.wrap_u16]; omega
  have h2 : 2 ^ a < 2 ^ 16 := Nat.pow_lt_pow_right (by omega) ha
  rw [show (2 : Nat) ^ 16 = 65536 from rfl] at h2
  rw [e1, u16_and_nat x _ hx (by omega), hlow]
  omega

end Go.Proofs.Ythpapkfpcijpoaa
/-
  THE PROGRAM's RECURSIVE CLOSURE THAT GOES THROUGH THE LISTS OF PEOPLE WHO ARE TIED ('look' in 'allTied'), by its contract: induction on how many are still to come.
-/
namespace Go.Proofs.Ythpapkfpcijpoaa
open Go.RowKit

theorem told_kept {w w' : World} {A : Option Addr} {c : Nat} {l : List Int} (h : World.told w A c l) (hk : ∀ k, (Value.slice A l.length c).ownBlock = some k → w'.heap[k]? = w.heap[k]?) : World.told w' A c l := by
  refine ⟨h.1, ?_⟩
  rcases h.2 with h' | ⟨g, cap, cur, hv, hb, hg, rest⟩
  · exact .inl h'
  · exact .inr ⟨g, cap, cur, hv, hb, (hk g (by rw [hv]; rfl)).trans hg, rest⟩

/-- All lists have come. -/
structure LookYes (J : (Nat → Prop) → List (List Int) → World → Prop) (R S : Nat → Prop) (A : Option Addr) (c : Nat) (l : List Int) (xs : List (List Int)) (W W' : World) : Prop where
  ex : ∃ S', J S' xs W' ∧ (∀ j, S j → S' j) ∧ (∀ j, S' j → S j ∨ W.heap.size ≤ j)
  below : Below 0 W W'
  ro : ∀ j, R j → W'.heap[j]? = W.heap[j]?
  other : ∀ j, S j → j < W.heap.size → (Value.slice A l.length c).ownBlock ≠ some j → W'.heap[j]? = W.heap[j]?
  told : World.told W' A c l
/-- How a call of the closure ends. -/
def LookPost (J Jx : (Nat → Prop) → List (List Int) → World → Prop) (R S : Nat → Prop) (A : Option Addr) (c : Nat) (l : List Int) (pre L : List (List Int)) (W : World) : Bool → World → Prop
  | true, W' => LookYes J R S A c l (pre ++ L) W W'
  | false, W' => ∃ S' q x, q ++ [x] <+: L ∧ Jx S' (pre ++ (q ++ [x])) W'

section
variable {J Jx : (Nat → Prop) → List (List Int) → World → Prop} {R S S1 : Nat → Prop} {A A' : Option Addr} {c c' B : Nat} {l : List Int} {xs pre : List (List Int)} {W wr X w1 w2 : World}
theorem LookYes.start (hJ : J S xs W) (ht : World.told W A c l) : LookYes J R S A c l xs W W := ⟨⟨S, hJ, fun _ h => h, fun _ h => .inl h⟩, Below.refl _ _, fun _ _ => rfl, fun _ _ _ _ => rfl, ht⟩
/-- one person more: what holds where the closure is called again -/
theorem LookYes.step {x : Int} (hh : Held J) (h : LookYes J R S A c l xs W wr) (hA : ∀ k, (Value.slice A l.length c).ownBlock = some k → S k) (hS : ∀ j, S j → B ≤ j) (hR : ∀ j, R j → j < B) (hB : B ≤ W.heap.size)
    (hX : Below wr.heap.size wr X) (g : Grew X w1 A A' c c' l x) :
    (∃ S2, J S2 xs w1 ∧ (∀ j, S j → S2 j) ∧ (∀ j, S2 j → S j ∨ W.heap.size ≤ j) ∧ (∀ k, (Value.slice A' (l ++ [x]).length c').ownBlock = some k → S2 k)) ∧ (∀ j, R j → w1.heap[j]? = wr.heap[j]?) ∧ B ≤ w1.heap.size ∧ W.heap.size ≤ w1.heap.size := by
  obtain ⟨S1, hJ1, hs1, hs2⟩ := h.ex
  have hsz := h.below.size
  have hsX := hX.size
  have hs3 := g.grow.size
  have hap : Apart S1 wr w1 := ⟨(hX.mono (Nat.zero_le _)).trans ((Below.refl 0 X).grown g.grow (Nat.zero_le _) fun k _ => Nat.zero_le k), fun j hj hn => by
    rw [g.grow.block j (by omega) (fun e => hn (hs1 j (hA j e.symm))), hX.block j hj]⟩
  refine ⟨⟨fun j => S1 j ∨ (wr.heap.size ≤ j ∧ j < w1.heap.size), hh _ _ _ _ _ hJ1 hap (fun j hj => hj), fun j hj => .inl (hs1 j hj), fun j hj => ?_, fun k hk => ?_⟩, fun j hj => ?_, by omega, by omega⟩
  · rcases hj with hj | hj
    · exact hs2 j hj
    · exact .inr (by omega)
  · rcases g.same with ⟨rfl, rfl, _⟩ | ⟨_, b, rfl, hb⟩
    · exact .inl (hs1 k (hA k (by
        cases hA' : A' with
        | none => rw [hA'] at hk; simp [Value.ownBlock] at hk
        | some a => rw [hA'] at hk; exact hk)))
    · have hlt := (own_lt g.new).2
      have : b = k := by simpa [Value.ownBlock] using hk
      subst this
      exact .inr ⟨by omega, hlt⟩
  · have h1 := hR j hj
    rw [g.grow.block j (by omega) (fun e => by have := hS j (hA j e.symm); omega), hX.block j (by omega)]
theorem LookYes.next {x : Int} {S2 : Nat → Prop} {L : List (List Int)} (h : LookYes J R S A c l xs W wr) (hA : ∀ k, (Value.slice A l.length c).ownBlock = some k → S k) (hS : ∀ j, S j → B ≤ j) (hR : ∀ j, R j → j < B) (hB : B ≤ W.heap.size)
    (hX : Below wr.heap.size wr X) (g : Grew X w1 A A' c c' l x) (k1 : ∀ j, S j → S2 j) (k2 : ∀ j, S2 j → S j ∨ W.heap.size ≤ j) (h2 : LookYes J R S2 A' c' (l ++ [x]) L w1 w2) : LookYes J R S A c l L W w2 := by
  have hsz := h.below.size
  have hsX := hX.size
  have hs3 := g.grow.size
  have hoA : ∀ j, S j → (Value.slice A l.length c).ownBlock ≠ some j → w1.heap[j]? = wr.heap[j]? ∨ wr.heap.size ≤ j := fun j _ hne => by
    by_cases hlt : j < wr.heap.size
    · exact .inl (by rw [g.grow.block j (by omega) (fun e => hne e.symm), hX.block j hlt])
    · exact .inr (by omega)
  refine ⟨?_, (h.below.trans ((hX.mono (Nat.zero_le _)).trans ((Below.refl 0 X).grown g.grow (Nat.zero_le _) fun k _ => Nat.zero_le k))).trans h2.below, fun j hj => ?_, fun j hj hlt hne => ?_, ?_⟩
  · obtain ⟨S', hJ', e1, e2⟩ := h2.ex
    refine ⟨S', hJ', fun j hj => e1 j (k1 j hj), fun j hj => ?_⟩
    rcases e2 j hj with h' | h'
    · exact k2 j h'
    · exact .inr (by omega)
  · have h1 := hR j hj
    rw [h2.ro j hj, g.grow.block j (by omega) (fun e => by have := hS j (hA j e.symm); omega), hX.block j (by omega), h.ro j hj]
  · rw [h2.other j (k1 j hj) (by omega) ?_]
    · rcases hoA j hj hne with h' | h'
      · rw [h', h.other j hj hlt hne]
      · omega
    · rcases g.same with ⟨rfl, rfl, _⟩ | ⟨_, b, rfl, hb⟩
      · intro e
        refine hne ?_
        cases hA' : A' with
        | none => rw [hA'] at e; simp [Value.ownBlock] at e
        | some a => rw [hA'] at e; exact e
      · intro e
        have : b = j := by simpa [Value.ownBlock] using e
        omega
  · rcases g.same with ⟨rfl, rfl, hne⟩ | ⟨_, b, rfl, hb⟩
    · exact told_front h2.told hne
    · refine told_kept g.old fun k hk => ?_
      have hklt := (own_lies g.old k hk).2
      refine h2.other k (k1 k (hA k hk)) hklt fun e => ?_
      have hbk : b = k := by simpa [Value.ownBlock] using e
      have hkX := (own_lies h.told k hk).2
      omega
end
theorem IsSet.smaller {J a : Nat} {cs : List Nat} (h : IsSet J (a :: cs)) : J &&& (65535 - 2 ^ a) < J := by
  have h1 := Nat.and_le_left (n := J) (m := 65535 - 2 ^ a)
  rcases Nat.lt_or_eq_of_le h1 with h2 | h2
  · exact h2
  · have h3 := (h.mem a).2 List.mem_cons_self
    have h4 := h.tail.mem a
    rw [h2, h3] at h4
    have h5 := h4.1 rfl
    have := (List.pairwise_cons.1 h.up).1 a h5
    omega
end Go.Proofs.Ythpapkfpcijpoaa
/-
  THE PROGRAM's RECURSIVE CLOSURE THAT GOES THROUGH THE LISTS OF PEOPLE WHO ARE TIED, walked.
-/
namespace Go.Proofs.Ythpapkfpcijpoaa
open Go.RowKit Go.Shelf
attribute [local go_sem] Oper.semAt_some

theorem clear_bit {j a : Nat} (hj : j < 65536) (ha : a < 16) : bits BinOp.andNot IntKind.u16 (j : Int) (IntKind.u16.wrap (2 ^ min a 16)) = ((j &&& (65535 - 2 ^ a) : Nat) : Int) := by
  have h2 : 2 ^ a < 2 ^ 16 := Nat.pow_lt_pow_right (by omega) ha
  rw [show (2 : Nat) ^ 16 = 65536 from rfl] at h2
  have e : IntKind.u16.wrap (2 ^ min a 16) = ((2 ^ a : Nat) : Int) := by
    obtain ⟨m, hm⟩ : ∃ m, 2 ^ a = m := ⟨_, rfl⟩
    rw [Nat.min_eq_left (by omega), IntKind.wrap_u16, show (2 : Int) ^ a = ((2 ^ a : Nat) : Int) from by simp, hm]
    rw [hm] at h2
    omega
  rw [e, u16_andNot_nat j _ hj h2]

end Go.Proofs.Ythpapkfpcijpoaa
/-
  THE PROGRAM's ITERATOR OVER LISTS OF TIED PEOPLE ('allTied'): its contract, in the form that the law of the statement takes.
-/
namespace Go.Proofs.Ythpapkfpcijpoaa
open Go.RowKit

/-- ties as the program has them: twelve sets -/
def tcells (T : Nat → Nat) : Array Value := #[.int .u16 (T 0), .int .u16 (T 1), .int .u16 (T 2), .int .u16 (T 3), .int .u16 (T 4), .int .u16 (T 5), .int .u16 (T 6), .int .u16 (T 7), .int .u16 (T 8), .int .u16 (T 9), .int .u16 (T 10), .int .u16 (T 11)]
theorem tcells_at (T : Nat → Nat) : ∀ a, a < 12 → (tcells T)[a]? = some (.int .u16 (T a)) := by
  intro a ha
  match a, ha with
  | 0, _ => rfl
  | 1, _ => rfl
  | 2, _ => rfl
  | 3, _ => rfl
  | 4, _ => rfl
  | 5, _ => rfl
  | 6, _ => rfl
  | 7, _ => rfl
  | 8, _ => rfl
  | 9, _ => rfl
  | 10, _ => rfl
  | 11, _ => rfl
/-- sets of people that tell who is tied to whom -/
structure TiesOf (T : Nat → Nat) (t : Nat → Nat → Bool) : Prop where
  bit : ∀ a b, a < 12 → b < 16 → (T a).testBit b = t a b
  lt : ∀ a, a < 12 → T a < 65536

end Go.Proofs.Ythpapkfpcijpoaa
/-
  HOW MANY LISTS OF TIED PEOPLE THERE ARE ('countTied'), and whether there is one ('hasTied'), by their contracts.
-/
namespace Go.Proofs.Ythpapkfpcijpoaa
open Go.RowKit Go.Shelf
attribute [local go_sem] Oper.semAt_some

theorem listsC_length_le (t : Nat → Nat → Bool) : ∀ (k : Nat) (told : List Int) (cs : List Nat), (listsC t k told cs).length ≤ 2 ^ cs.length := by
  intro k told cs
  induction h : k + cs.length using Nat.strongRecOn generalizing k told cs with
  | _ n ih =>
    match k, cs with
    | 0, cs => rw [listsC_zero]; exact Nat.one_le_two_pow
    | k + 1, [] => rw [listsC_nil]; simp
    | k + 1, a :: cs =>
      rw [listsC_cons, List.length_append]
      simp only [List.length_cons] at h
      have h0 : (cs.filter (t a)).length ≤ cs.length := List.length_filter_le _ _
      have h1 := ih (k + (cs.filter (t a)).length) (by omega) k (told ++ [(a : Int)]) (cs.filter (t a)) rfl
      have h2 := ih (k + 1 + cs.length) (by omega) (k + 1) told cs rfl
      have h3 : 2 ^ (cs.filter (t a)).length ≤ 2 ^ cs.length := Nat.pow_le_pow_right (by omega) h0
      rw [List.length_cons, Nat.pow_succ]
      omega
theorem set_len {j : Nat} {cs : List Nat} (hs : IsSet j cs) (hcs : ∀ b ∈ cs, b < 12) : cs.length ≤ 12 := by
  have h := List.Nodup.length_le_of_subset (l₁ := cs) (l₂ := List.range 12) (hs.up.imp fun h => Nat.ne_of_lt h) (fun b hb => List.mem_range.2 (hcs b hb))
  simpa using h
theorem lists_few {t : Nat → Nat → Bool} {k : Nat} {told : List Int} {j : Nat} {cs : List Nat} (hs : IsSet j cs) (hcs : ∀ b ∈ cs, b < 12) : (listsC t k told cs).length ≤ 4096 := by
  have h1 := listsC_length_le t k told cs
  have h2 : 2 ^ cs.length ≤ 2 ^ 12 := Nat.pow_le_pow_right (by omega) (set_len hs hcs)
  omega
theorem wrap_next (n : Nat) : wrap64 (wrap64 (n : Int) + 1) = wrap64 ((n + 1 : Nat) : Int) := by unfold wrap64; omega

theorem below_putObj {B l : Nat} {A W : World} (h : Below B A W) (hB : B ≤ W.heap.size) (hl : B ≤ l) (o : Obj) : Below B A (W.putObj l o) := h.grown (grownBy_putObj' W l o) hB (fun k e => by cases e; exact hl)

theorem cell_putObj {W : World} {l b o : Nat} (ob : Obj) (hne : b ≠ l) : (W.putObj l ob).cell? ⟨b, o, none⟩ = W.cell? ⟨b, o, none⟩ := World.cell?_of_block (w := W) (w' := W.putObj l ob) (a := ⟨b, o, none⟩) (World.putObj_heap_other hne)

end Go.Proofs.Ythpapkfpcijpoaa
/-
  TIES AS THE PROGRAM HAS THEM, twelve sets of people: made of a party's pairs ('friendsIn'); those missing ('strangersIn'); everybody. Written by wip/tools/gen_ties.py.
-/
namespace Go.Proofs.Ythpapkfpcijpoaa
open Go.RowKit

def updN (T : Nat → Nat) (a v : Nat) : Nat → Nat := fun i => if i = a then v else T i
/-- one pair more is tied -/
def withT (T : Nat → Nat) (a b : Nat) : Nat → Nat := updN (updN T a (T a ||| 2 ^ b)) b (updN T a (T a ||| 2 ^ b) b ||| 2 ^ a)
theorem tcells_row (T : Nat → Nat) : ∀ m, m < 12 → (tcells T)[m]? = some (Value.int .u16 (T m)) := tcells_at T
theorem rowIs_u16 (w : World) (T : Nat → Nat) (ty : TypeId) : (w.alloc (.cells (tcells T) ty)).rowIs w.heap.size ty 12 (fun j => .int .u16 (T j)) :=
  ⟨tcells T, heap_alloc_new w _, rfl, fun i hi => tcells_at T i hi⟩
theorem shl_bit {a : Nat} (ha : a < 16) : IntKind.u16.wrap (2 ^ min a 16) = ((2 ^ a : Nat) : Int) := by
  have h2 : 2 ^ a < 2 ^ 16 := Nat.pow_lt_pow_right (by omega) ha
  rw [show (2 : Nat) ^ 16 = 65536 from rfl] at h2
  obtain ⟨m, hm⟩ : ∃ m, 2 ^ a = m := ⟨_, rfl⟩
  rw [Nat.min_eq_left (by omega), IntKind.wrap_u16, show (2 : Int) ^ a = ((2 ^ a : Nat) : Int) from by simp, hm]
  rw [hm] at h2
  omega
theorem two_lt {a : Nat} (ha : a < 16) : 2 ^ a < 65536 := by
  have h2 : 2 ^ a < 2 ^ 16 := Nat.pow_lt_pow_right (by omega) ha
  rwa [show (2 : Nat) ^ 16 = 65536 from rfl] at h2
theorem or_bit {x a : Nat} (hx : x < 65536) (ha : a < 16) : bits BinOp.or IntKind.u16 (x : Int) (IntKind.u16.wrap (2 ^ min a 16)) = ((x ||| 2 ^ a : Nat) : Int) := by
  rw [shl_bit ha, u16_or_nat x _ hx (two_lt ha)]
theorem or_bit2 {x a : Nat} (hx : x < 65536) (ha : a < 16) : bits BinOp.or IntKind.u16 (x : Int) (IntKind.u16.wrap (2 ^ a)) = ((x ||| 2 ^ a : Nat) : Int) := by
  have := or_bit hx ha
  rwa [Nat.min_eq_left (by omega)] at this
theorem or_lt {x a : Nat} (hx : x < 65536) (ha : a < 16) : x ||| 2 ^ a < 65536 := Nat.or_lt_two_pow (n := 16) hx (two_lt ha)

set_option maxHeartbeats 4000000 in
set_option maxRecDepth 100000 in
theorem tiesWith_any (T : Nat → Nat) (a b : Nat) (ha : a < 12) (hb : b < 12) (hT : ∀ i, i < 12 → T i < 65536) (w : World) :
    Calls Try.prog 90 #[.agg (tcells T), .agg #[.int .i64 a, .int .i64 b]] w fun e w' => e = .returned (.agg (tcells (withT T a b))) ∧ Below w.heap.size w w' := by
  have hai : (a : Int) < 12 := by omega
  have hbi : (b : Int) < 12 := by omega
  obtain ⟨W, hW⟩ : ∃ W, ((w.alloc (Obj.cells (tcells T) 65)).alloc (Obj.cells #[.int .i64 a, .int .i64 b] 71)).alloc (Obj.cells #[.int .u16 0, .int .u16 0, .int .u16 0, .int .u16 0, .int .u16 0, .int .u16 0, .int .u16 0, .int .u16 0, .int .u16 0, .int .u16 0, .int .u16 0, .int .u16 0] 65) = W := ⟨_, rfl⟩
  have kW : Below w.heap.size w W := by rw [← hW]; go_grown
  have zW : W.heap.size = w.heap.size + 3 := by rw [← hW]; simp
  have row0 : W.rowIs w.heap.size 65 12 (fun j => .int .u16 (T j)) := by rw [← hW]; exact ((rowIs_u16 w T _).alloc _).alloc _
  have p0 : W.cell? ⟨w.heap.size + 1, 0, none⟩ = some (.int .i64 a) := by rw [← hW]; exact (World.cell?_alloc_lt _ _ _ (by simp)).trans (by simp)
  have p1 : W.cell? ⟨w.heap.size + 1, 1, none⟩ = some (.int .i64 b) := by rw [← hW]; exact (World.cell?_alloc_lt _ _ _ (by simp)).trans (by simp)
  have rowR : W.rowIs (w.heap.size + 2) 65 12 (fun _ => .int .u16 0) := by
    rw [← hW]
    have := rowIs_u16 ((w.alloc (Obj.cells (tcells T) 65)).alloc (Obj.cells #[.int .i64 a, .int .i64 b] 71)) (fun _ => 0) 65
    simp only [World.size_alloc] at this
    exact this
  have s1 : w.heap.size ≠ w.heap.size + 1 := by omega
  -- the first store
  have q0 := row0.cell ha
  have f0 := row0.frozen a
  have o1 := or_bit2 (hT a ha) (show b < 16 by omega)
  have l1 := or_lt (hT a ha) (show b < 16 by omega)
  have row1 := row0.set a (.int .u16 ((T a ||| 2 ^ b : Nat) : Int))
  have row1' : (W.setCell ⟨w.heap.size, a, none⟩ (.int .u16 ((T a ||| 2 ^ b : Nat) : Int))).rowIs w.heap.size 65 12 (fun j => .int .u16 (updN T a (T a ||| 2 ^ b) j : Nat)) := row1.congr fun j _ => by unfold updN; by_cases h : j = a <;> simp [h]
  obtain ⟨T1, hT1⟩ : ∃ T1, updN T a (T a ||| 2 ^ b) = T1 := ⟨_, rfl⟩
  have hT1l : T1 b < 65536 := by rw [← hT1]; unfold updN; split; exact l1; exact hT b hb
  have hw : withT T a b = updN T1 b (T1 b ||| 2 ^ a) := by unfold withT; rw [hT1]
  rw [hT1] at row1'
  rw [hw]
  obtain ⟨r1, hr1⟩ : ∃ r1, T a ||| 2 ^ b = r1 := ⟨_, rfl⟩
  rw [hr1] at o1 row1'
  have P0 := (World.cell?_setCell_other W ⟨w.heap.size, a, none⟩ ⟨w.heap.size + 1, 0, none⟩ (.int .u16 (r1 : Int)) (by simp)).trans p0
  have P1 := (World.cell?_setCell_other W ⟨w.heap.size, a, none⟩ ⟨w.heap.size + 1, 1, none⟩ (.int .u16 (r1 : Int)) (by simp)).trans p1
  have rowR1 := rowR.setOther (a := ⟨w.heap.size, a, none⟩) (by simp) (.int .u16 (r1 : Int))
  have kX := kW.setCell (p := ⟨w.heap.size, a, none⟩) (Nat.le_refl _) (.int .u16 (r1 : Int))
  have HW := Lib.hid hW
  have ROW1 := Lib.hid row1'
  have ROWR1 := Lib.hid rowR1
  have KX := Lib.hid kX
  have PP0 := Lib.hid P0
  have PP1 := Lib.hid P1
  clear hT hT1 hw hr1 row0 row1 row1' rowR rowR1 hW kX P0 P1
  unfold tcells at HW ⊢
  go_enter Try.func90, Try.ntmps90
  go_wp2_with fail
  rw [HW.out]
  refine wp_region_still_tail 9 (by kernel_rfl) (by kernel_rfl) ?_
  simp only [List.take_succ_cons, List.take_zero, List.drop_succ_cons, List.drop_zero]
  repeat still_step
  refine wpStill_nil ?_
  change wpList _ _ _ _ _ (World.drew _)
  go_wp2_with fail
  try rw [o1]
  obtain ⟨X, hX⟩ : ∃ X, (W.setCell ⟨w.heap.size, a, none⟩ (.int .u16 (r1 : Int))).drew = X := ⟨_, rfl⟩
  rw [hX]
  have rowX : X.rowIs w.heap.size 65 12 (fun j => .int .u16 (T1 j)) := by rw [← hX]; exact ROW1.out
  have rowZ : X.rowIs (w.heap.size + 2) 65 12 (fun _ => .int .u16 0) := by rw [← hX]; exact ROWR1.out
  have kX : Below w.heap.size w X := by rw [← hX]; exact KX.out.drew
  have p0 : X.cell? ⟨w.heap.size + 1, 0, none⟩ = some (.int .i64 a) := by rw [← hX]; exact PP0.out
  have p1 : X.cell? ⟨w.heap.size + 1, 1, none⟩ = some (.int .i64 b) := by rw [← hX]; exact PP1.out
  have q0 := rowX.cell hb
  have f0 := rowX.frozen b
  have o2 := or_bit2 hT1l (show a < 16 by omega)
  have row2 := rowX.set b (.int .u16 ((T1 b ||| 2 ^ a : Nat) : Int))
  have row2' : (X.setCell ⟨w.heap.size, b, none⟩ (.int .u16 ((T1 b ||| 2 ^ a : Nat) : Int))).rowIs w.heap.size 65 12 (fun j => .int .u16 (updN T1 b (T1 b ||| 2 ^ a) j : Nat)) := row2.congr fun j _ => by unfold updN; by_cases h : j = b <;> simp [h]
  obtain ⟨T2, hT2⟩ : ∃ T2, updN T1 b (T1 b ||| 2 ^ a) = T2 := ⟨_, rfl⟩
  have HT2 := Lib.hid hT2
  obtain ⟨r2, hr2⟩ : ∃ r2, T1 b ||| 2 ^ a = r2 := ⟨_, rfl⟩
  rw [hT2] at row2'
  rw [hr2] at o2 row2'
  have rowZ2 := rowZ.setOther (a := ⟨w.heap.size, b, none⟩) (by simp) (.int .u16 (r2 : Int))
  have kY := kX.setCell (p := ⟨w.heap.size, b, none⟩) (Nat.le_refl _) (.int .u16 (r2 : Int))
  have ROW2 := Lib.hid row2'
  have ROWZ2 := Lib.hid rowZ2
  have KY := Lib.hid kY
  clear hX rowX rowZ row2 row2' rowZ2 hT2 hr2 kX kY
  refine wp_region_still_tail 9 (by kernel_rfl) (by kernel_rfl) ?_
  simp only [List.take_succ_cons, List.take_zero, List.drop_succ_cons, List.drop_zero]
  repeat still_step
  refine wpStill_nil ?_
  change wpList _ _ _ _ _ (World.drew _)
  go_upto_region 3 with fail
  try rw [o2]
  obtain ⟨Y, hY⟩ : ∃ Y, (X.setCell ⟨w.heap.size, b, none⟩ (.int .u16 (r2 : Int))).drew = Y := ⟨_, rfl⟩
  rw [hY]
  have rowY : Y.rowIs w.heap.size 65 12 (fun j => .int .u16 (T2 j)) := by rw [← hY]; exact ROW2.out
  have rowZ : Y.rowIs (w.heap.size + 2) 65 12 (fun _ => .int .u16 0) := by rw [← hY]; exact ROWZ2.out
  have kY : Below w.heap.size w Y := by rw [← hY]; exact KY.out.drew
  clear hY p0 p1 q0 f0 o1 o2 hai hbi
  have r0 := rowY.cell (i := 0) (by omega)
  have r1 := rowY.cell (i := 1) (by omega)
  have r2 := rowY.cell (i := 2) (by omega)
  have r3 := rowY.cell (i := 3) (by omega)
  have r4 := rowY.cell (i := 4) (by omega)
  have r5 := rowY.cell (i := 5) (by omega)
  have r6 := rowY.cell (i := 6) (by omega)
  have r7 := rowY.cell (i := 7) (by omega)
  have r8 := rowY.cell (i := 8) (by omega)
  have r9 := rowY.cell (i := 9) (by omega)
  have r10 := rowY.cell (i := 10) (by omega)
  have r11 := rowY.cell (i := 11) (by omega)
  have g0 := rowZ.cell (i := 0) (by omega)
  have g1 := rowZ.cell (i := 1) (by omega)
  have g2 := rowZ.cell (i := 2) (by omega)
  have g3 := rowZ.cell (i := 3) (by omega)
  have g4 := rowZ.cell (i := 4) (by omega)
  have g5 := rowZ.cell (i := 5) (by omega)
  have g6 := rowZ.cell (i := 6) (by omega)
  have g7 := rowZ.cell (i := 7) (by omega)
  have g8 := rowZ.cell (i := 8) (by omega)
  have g9 := rowZ.cell (i := 9) (by omega)
  have g10 := rowZ.cell (i := 10) (by omega)
  have g11 := rowZ.cell (i := 11) (by omega)
  have e0 := rowZ.frozen 0
  have e1 := rowZ.frozen 1
  have e2 := rowZ.frozen 2
  have e3 := rowZ.frozen 3
  have e4 := rowZ.frozen 4
  have e5 := rowZ.frozen 5
  have e6 := rowZ.frozen 6
  have e7 := rowZ.frozen 7
  have e8 := rowZ.frozen 8
  have e9 := rowZ.frozen 9
  have e10 := rowZ.frozen 10
  have e11 := rowZ.frozen 11
  have KY2 := Lib.hid kY
  clear rowY rowZ kY
  go_wp2
  refine bodyPost_ret (v := .agg #[.int .u16 (T2 0), .int .u16 (T2 1), .int .u16 (T2 2), .int .u16 (T2 3), .int .u16 (T2 4), .int .u16 (T2 5), .int .u16 (T2 6), .int .u16 (T2 7), .int .u16 (T2 8), .int .u16 (T2 9), .int .u16 (T2 10), .int .u16 (T2 11)]) (by simp [results, Try.results90, go_sem, g0, g1, g2, g3, g4, g5, g6, g7, g8, g9, g10, g11]) rfl ?_
  rw [← HT2.out] 
  exact ⟨rfl, ((((((((((((KY2.out.setCell (p := ⟨w.heap.size + 2, 0, none⟩) (by simp) _).setCell (p := ⟨w.heap.size + 2, 1, none⟩) (by simp) _).setCell (p := ⟨w.heap.size + 2, 2, none⟩) (by simp) _).setCell (p := ⟨w.heap.size + 2, 3, none⟩) (by simp) _).setCell (p := ⟨w.heap.size + 2, 4, none⟩) (by simp) _).setCell (p := ⟨w.heap.size + 2, 5, none⟩) (by simp) _).setCell (p := ⟨w.heap.size + 2, 6, none⟩) (by simp) _).setCell (p := ⟨w.heap.size + 2, 7, none⟩) (by simp) _).setCell (p := ⟨w.heap.size + 2, 8, none⟩) (by simp) _).setCell (p := ⟨w.heap.size + 2, 9, none⟩) (by simp) _).setCell (p := ⟨w.heap.size + 2, 10, none⟩) (by simp) _).setCell (p := ⟨w.heap.size + 2, 11, none⟩) (by simp) _)⟩
end Go.Proofs.Ythpapkfpcijpoaa
/-
  TIES MADE OF A PARTY's PAIRS ('friendsIn'); everybody. Written by wip/tools/gen_ties2.py.
-/
namespace Go.Proofs.Ythpapkfpcijpoaa
open Go.RowKit

theorem TiesOf.none : TiesOf (fun _ => 0) (adj []) := ⟨fun a b _ _ => by rw [Nat.zero_testBit]; rfl, fun a _ => by omega⟩
theorem TiesOf.congr {T : Nat → Nat} {t t' : Nat → Nat → Bool} (h : TiesOf T t) (e : ∀ a b, a < 12 → b < 16 → t a b = t' a b) : TiesOf T t' := ⟨fun a b ha hb => (h.bit a b ha hb).trans (e a b ha hb), h.lt⟩
theorem TiesOf.with {T : Nat → Nat} {t : Nat → Nat → Bool} (h : TiesOf T t) {a b : Nat} (ha : a < 12) (hb : b < 12) (hab : a ≠ b) : TiesOf (withT T a b) (upd (upd t a b true) b a true) := by
  have e1 : ∀ i, withT T a b i = if i = b then T b ||| 2 ^ a else if i = a then T a ||| 2 ^ b else T i := fun i => by
    unfold withT updN
    by_cases h1 : i = b
    · rw [if_pos h1, if_pos h1, if_neg (by omega)]
    · rw [if_neg h1, if_neg h1]
  refine ⟨fun i j hi hj => ?_, fun i hi => ?_⟩
  · rw [e1]
    unfold upd
    by_cases h1 : i = b
    · rw [if_pos h1, Nat.testBit_or, Nat.testBit_two_pow, h.bit b j hb hj]
      by_cases h2 : j = a
      · simp [h1, h2]
      · have h3 : ¬ (a = j) := fun e => h2 e.symm
        have h4 : ¬ (b = a) := fun e => hab e.symm
        simp [h1, h2, h3, h4]
    · rw [if_neg h1]
      by_cases h2 : i = a
      · rw [if_pos h2, Nat.testBit_or, Nat.testBit_two_pow, h.bit a j ha hj]
        by_cases h3 : j = b
        · simp [h2, h3, hab]
        · have h4 : ¬ (b = j) := fun e => h3 e.symm
          simp [h2, h3, h4, hab]
      · rw [if_neg h2, h.bit i j hi hj]
        simp [h1, h2]
  · rw [e1]
    split
    · exact or_lt (h.lt b hb) (by omega)
    · split
      · exact or_lt (h.lt a ha) (by omega)
      · exact h.lt i hi
theorem people_bits : ∀ n : Fin 13, ((2 : Int) ^ n.val % 65536 - 1) % 65536 = ((2 ^ n.val - 1 : Nat) : Int) := by decide

/-- the ties of a list of pairs -/
def friendsT (l : PL) : Nat → Nat := l.foldl (fun T q => withT T q.1.toNat q.2.toNat) fun _ => 0
theorem friendsT_snoc (l : PL) (a b : Nat) : friendsT (l ++ [((a : Int), (b : Int))]) = withT (friendsT l) a b := by simp [friendsT]

set_option maxHeartbeats 4000000 in
set_option maxRecDepth 100000 in
theorem friendsIn_any (p : Int) (l : PL) (A : Option Addr) (c : Nat) (w : World) (hp : isP p l = true) (hA : CRead w w.heap.size A (pcells l)) :
    Calls Try.prog 54 #[.agg #[.int .i64 p, .slice A l.length c]] w fun e w' => e = .returned (.agg (tcells (friendsT l))) ∧ TiesOf (friendsT l) (adj l) ∧ Below w.heap.size w w' := by
  have hn := isP_range hp
  have hlen : l.length ≤ 66 := by have h1 := isP_length hp; have h2 := people_sq hn.1 hn.2; omega
  obtain ⟨W, hW⟩ : ∃ W, ((w.alloc (Obj.cells #[.int .i64 p, .slice A l.length c] 31)).alloc (Obj.cells #[.int .u16 0, .int .u16 0, .int .u16 0, .int .u16 0, .int .u16 0, .int .u16 0, .int .u16 0, .int .u16 0, .int .u16 0, .int .u16 0, .int .u16 0, .int .u16 0] 65)).alloc (Obj.cells #[.int .u16 0, .int .u16 0, .int .u16 0, .int .u16 0, .int .u16 0, .int .u16 0, .int .u16 0, .int .u16 0, .int .u16 0, .int .u16 0, .int .u16 0, .int .u16 0] 65) = W := ⟨_, rfl⟩
  have kW : Below w.heap.size w W := by rw [← hW]; go_grown
  have zW : W.heap.size = w.heap.size + 3 := by rw [← hW]; simp
  have p1 : W.cell? ⟨w.heap.size, 1, none⟩ = some (.slice A l.length c) := by rw [← hW]; exact (World.cell?_alloc_lt _ _ _ (by simp; omega)).trans ((World.cell?_alloc_lt _ _ _ (by simp)).trans (by simp))
  have rowR : W.rowIs (w.heap.size + 1) 65 12 (fun _ => .int .u16 0) := by
    rw [← hW]
    have := rowIs_u16 (w.alloc (Obj.cells #[.int .i64 p, .slice A l.length c] 31)) (fun _ => 0) 65
    simp only [World.size_alloc] at this
    exact this.alloc _
  have rowF : W.rowIs (w.heap.size + 2) 65 12 (fun _ => .int .u16 0) := by
    rw [← hW]
    have := rowIs_u16 ((w.alloc (Obj.cells #[.int .i64 p, .slice A l.length c] 31)).alloc (Obj.cells #[.int .u16 0, .int .u16 0, .int .u16 0, .int .u16 0, .int .u16 0, .int .u16 0, .int .u16 0, .int .u16 0, .int .u16 0, .int .u16 0, .int .u16 0, .int .u16 0] 65)) (fun _ => 0) 65
    simp only [World.size_alloc] at this
    exact this
  have Hp := Lib.hid hp
  have RF := Lib.hid rowF
  have RR := Lib.hid rowR
  have P1 := Lib.hid p1
  have HW := Lib.hid hW
  have KW := Lib.hid kW
  clear hp rowF rowR hW kW
  go_enter Try.func54, Try.ntmps54
  go_upto_region 2 with fail
  rw [HW.out]
  go_wp2_with fail
  clear p1
  go_loopw [9] (fun i wr => ∃ (m : Nat) (T : Nat → Nat), m ≤ l.length ∧ i = .int .i64 m ∧ TiesOf T (adj (l.take m)) ∧ T = friendsT (l.take m) ∧ wr.rowIs (w.heap.size + 2) 65 12 (fun j => .int .u16 (T j)) ∧ Below (w.heap.size + 2) W wr) (fun i _ => l.length - (intOf i).toNat)
  case atStart => exact ⟨0, fun _ => 0, Nat.zero_le _, rfl, TiesOf.none, rfl, RF.out, Below.refl _ _⟩
  case round =>
    obtain ⟨m, T, hm, rfl, hT, hTf, rowF, hb⟩ := hrel
    have HTf := Lib.hid hTf
    clear hTf
    have s0 := hb.size
    by_cases hlt : m < l.length
    · obtain ⟨⟨x, y⟩, hx⟩ := getSome l m hlt
      obtain ⟨h0, h1, h2⟩ := goodAt_pair (isP_good Hp.out hlt) hx
      obtain ⟨a, rfl⟩ : ∃ a : Nat, x = a := ⟨x.toNat, by omega⟩
      obtain ⟨b, rfl⟩ : ∃ b : Nat, y = b := ⟨y.toNat, by omega⟩
      have kr : Below w.heap.size w wr := KW.out.trans (hb.mono (by omega))
      obtain ⟨bb, off, rfl, hbb, c0, c1⟩ := (hA.below kr (Nat.le_refl _)).pair hx
      have hmi : (m : Int) < (l.length : Int) := by omega
      have HT := Lib.hid hT
      have Hx := Lib.hid hx
      have HB := Lib.hid hb
      have HF := Lib.hid rowF
      clear hT hx hb
      go_upto_region 5 with fail
      obtain ⟨X, hX⟩ : ∃ X, wr.alloc (Obj.cells #[.int .i64 (a : Int), .int .i64 (b : Int)] 71) = X := ⟨_, rfl⟩
      rw [hX]
      have rowX : X.rowIs (w.heap.size + 2) 65 12 (fun j => .int .u16 (T j)) := by rw [← hX]; exact rowF.alloc _
      have zX : X.heap.size = wr.heap.size + 1 := by rw [← hX]; simp
      have x0 : X.cell? ⟨wr.heap.size, 0, none⟩ = some (.int .i64 a) := by rw [← hX]; simp
      have x1 : X.cell? ⟨wr.heap.size, 1, none⟩ = some (.int .i64 b) := by rw [← hX]; simp
      have kX : Below (w.heap.size + 2) W X := by rw [← hX]; exact HB.out.alloc (by omega) _
      clear hX c0 c1 rowF
      have r0 := rowX.cell (i := 0) (by omega)
      have r1 := rowX.cell (i := 1) (by omega)
      have r2 := rowX.cell (i := 2) (by omega)
      have r3 := rowX.cell (i := 3) (by omega)
      have r4 := rowX.cell (i := 4) (by omega)
      have r5 := rowX.cell (i := 5) (by omega)
      have r6 := rowX.cell (i := 6) (by omega)
      have r7 := rowX.cell (i := 7) (by omega)
      have r8 := rowX.cell (i := 8) (by omega)
      have r9 := rowX.cell (i := 9) (by omega)
      have r10 := rowX.cell (i := 10) (by omega)
      have r11 := rowX.cell (i := 11) (by omega)
      have call := tiesWith_any T a b (by omega) (by omega) HT.out.lt X
      unfold tcells at call
      have Call := Lib.hid call
      clear call
      go_wp2_with fail
      refine Call.out.mono ?_
      rintro e w2 ⟨rfl, hb2⟩
      have row2 := rowX.of_block (hb2.block _ rowX.lt)
      have s2 := hb2.size
      have hTw := HT.out.with (a := a) (b := b) (by omega) (by omega) (by omega)
      rw [← adj_snoc] at hTw
      have hTf2 : withT T a b = friendsT (l.take m ++ [((a : Int), (b : Int))]) := by rw [friendsT_snoc, HTf.out]
      generalize withT T a b = T' at *
      have HTf2 := Lib.hid hTf2
      clear hTf2
      have k2 : Below (w.heap.size + 2) W w2 := kX.trans (hb2.mono (by omega))
      clear r0 r1 r2 r3 r4 r5 r6 r7 r8 r9 r10 r11
      have r0 := row2.cell (i := 0) (by omega)
      have r1 := row2.cell (i := 1) (by omega)
      have r2 := row2.cell (i := 2) (by omega)
      have r3 := row2.cell (i := 3) (by omega)
      have r4 := row2.cell (i := 4) (by omega)
      have r5 := row2.cell (i := 5) (by omega)
      have r6 := row2.cell (i := 6) (by omega)
      have r7 := row2.cell (i := 7) (by omega)
      have r8 := row2.cell (i := 8) (by omega)
      have r9 := row2.cell (i := 9) (by omega)
      have r10 := row2.cell (i := 10) (by omega)
      have r11 := row2.cell (i := 11) (by omega)
      have e0 := row2.frozen 0
      have e1 := row2.frozen 1
      have e2 := row2.frozen 2
      have e3 := row2.frozen 3
      have e4 := row2.frozen 4
      have e5 := row2.frozen 5
      have e6 := row2.frozen 6
      have e7 := row2.frozen 7
      have e8 := row2.frozen 8
      have e9 := row2.frozen 9
      have e10 := row2.frozen 10
      have e11 := row2.frozen 11
      have row3 : ((((((((((((w2.setCell ⟨w.heap.size + 2, 0, none⟩ (.int .u16 (T' 0))).setCell ⟨w.heap.size + 2, 1, none⟩ (.int .u16 (T' 1))).setCell ⟨w.heap.size + 2, 2, none⟩ (.int .u16 (T' 2))).setCell ⟨w.heap.size + 2, 3, none⟩ (.int .u16 (T' 3))).setCell ⟨w.heap.size + 2, 4, none⟩ (.int .u16 (T' 4))).setCell ⟨w.heap.size + 2, 5, none⟩ (.int .u16 (T' 5))).setCell ⟨w.heap.size + 2, 6, none⟩ (.int .u16 (T' 6))).setCell ⟨w.heap.size + 2, 7, none⟩ (.int .u16 (T' 7))).setCell ⟨w.heap.size + 2, 8, none⟩ (.int .u16 (T' 8))).setCell ⟨w.heap.size + 2, 9, none⟩ (.int .u16 (T' 9))).setCell ⟨w.heap.size + 2, 10, none⟩ (.int .u16 (T' 10))).setCell ⟨w.heap.size + 2, 11, none⟩ (.int .u16 (T' 11))).rowIs (w.heap.size + 2) 65 12 (fun j => .int .u16 (T' j)) := ((((((((((((row2.set 0 (.int .u16 (T' 0))).set 1 (.int .u16 (T' 1))).set 2 (.int .u16 (T' 2))).set 3 (.int .u16 (T' 3))).set 4 (.int .u16 (T' 4))).set 5 (.int .u16 (T' 5))).set 6 (.int .u16 (T' 6))).set 7 (.int .u16 (T' 7))).set 8 (.int .u16 (T' 8))).set 9 (.int .u16 (T' 9))).set 10 (.int .u16 (T' 10))).set 11 (.int .u16 (T' 11))).congr fun j hj => by
        match j, hj with
        | 0, _ => rfl
        | 1, _ => rfl
        | 2, _ => rfl
        | 3, _ => rfl
        | 4, _ => rfl
        | 5, _ => rfl
        | 6, _ => rfl
        | 7, _ => rfl
        | 8, _ => rfl
        | 9, _ => rfl
        | 10, _ => rfl
        | 11, _ => rfl
      have k3 := ((((((((((((k2.setCell (p := ⟨w.heap.size + 2, 0, none⟩) (Nat.le_refl _) (.int .u16 (T' 0))).setCell (p := ⟨w.heap.size + 2, 1, none⟩) (Nat.le_refl _) (.int .u16 (T' 1))).setCell (p := ⟨w.heap.size + 2, 2, none⟩) (Nat.le_refl _) (.int .u16 (T' 2))).setCell (p := ⟨w.heap.size + 2, 3, none⟩) (Nat.le_refl _) (.int .u16 (T' 3))).setCell (p := ⟨w.heap.size + 2, 4, none⟩) (Nat.le_refl _) (.int .u16 (T' 4))).setCell (p := ⟨w.heap.size + 2, 5, none⟩) (Nat.le_refl _) (.int .u16 (T' 5))).setCell (p := ⟨w.heap.size + 2, 6, none⟩) (Nat.le_refl _) (.int .u16 (T' 6))).setCell (p := ⟨w.heap.size + 2, 7, none⟩) (Nat.le_refl _) (.int .u16 (T' 7))).setCell (p := ⟨w.heap.size + 2, 8, none⟩) (Nat.le_refl _) (.int .u16 (T' 8))).setCell (p := ⟨w.heap.size + 2, 9, none⟩) (Nat.le_refl _) (.int .u16 (T' 9))).setCell (p := ⟨w.heap.size + 2, 10, none⟩) (Nat.le_refl _) (.int .u16 (T' 10))).setCell (p := ⟨w.heap.size + 2, 11, none⟩) (Nat.le_refl _) (.int .u16 (T' 11)))
      have ROW3 := Lib.hid row3
      have K3 := Lib.hid k3
      have HTw := Lib.hid hTw
      clear row2 row3 k3 hTw rowX k2 kX
      go_wp2
      go_roundw
      case rel => exact ⟨m + 1, T', by omega, by go_num, by rw [List.take_add_one, Hx.out, Option.toList_some]; exact HTw.out, by rw [List.take_add_one, Hx.out, Option.toList_some]; exact HTf2.out, ROW3.out, K3.out⟩
      case measure => simp [intOf]; omega
    · have hml : m = l.length := by omega
      subst hml
      have hge : ¬ ((l.length : Int) < (l.length : Int)) := by omega
      rw [List.take_length] at hT
      have HT := Lib.hid hT
      have rowR := RR.out.of_block (hb.block _ (by omega))
      have kr : Below w.heap.size w wr := KW.out.trans (hb.mono (by omega))
      clear hT hb
      have r0 := rowF.cell (i := 0) (by omega)
      have r1 := rowF.cell (i := 1) (by omega)
      have r2 := rowF.cell (i := 2) (by omega)
      have r3 := rowF.cell (i := 3) (by omega)
      have r4 := rowF.cell (i := 4) (by omega)
      have r5 := rowF.cell (i := 5) (by omega)
      have r6 := rowF.cell (i := 6) (by omega)
      have r7 := rowF.cell (i := 7) (by omega)
      have r8 := rowF.cell (i := 8) (by omega)
      have r9 := rowF.cell (i := 9) (by omega)
      have r10 := rowF.cell (i := 10) (by omega)
      have r11 := rowF.cell (i := 11) (by omega)
      have g0 := rowR.cell (i := 0) (by omega)
      have g1 := rowR.cell (i := 1) (by omega)
      have g2 := rowR.cell (i := 2) (by omega)
      have g3 := rowR.cell (i := 3) (by omega)
      have g4 := rowR.cell (i := 4) (by omega)
      have g5 := rowR.cell (i := 5) (by omega)
      have g6 := rowR.cell (i := 6) (by omega)
      have g7 := rowR.cell (i := 7) (by omega)
      have g8 := rowR.cell (i := 8) (by omega)
      have g9 := rowR.cell (i := 9) (by omega)
      have g10 := rowR.cell (i := 10) (by omega)
      have g11 := rowR.cell (i := 11) (by omega)
      have e0 := rowR.frozen 0
      have e1 := rowR.frozen 1
      have e2 := rowR.frozen 2
      have e3 := rowR.frozen 3
      have e4 := rowR.frozen 4
      have e5 := rowR.frozen 5
      have e6 := rowR.frozen 6
      have e7 := rowR.frozen 7
      have e8 := rowR.frozen 8
      have e9 := rowR.frozen 9
      have e10 := rowR.frozen 10
      have e11 := rowR.frozen 11
      have KR := Lib.hid kr
      clear rowF rowR kr
      go_wp2
      refine bodyPost_ret (v := .agg #[.int .u16 (T 0), .int .u16 (T 1), .int .u16 (T 2), .int .u16 (T 3), .int .u16 (T 4), .int .u16 (T 5), .int .u16 (T 6), .int .u16 (T 7), .int .u16 (T 8), .int .u16 (T 9), .int .u16 (T 10), .int .u16 (T 11)]) (by simp [results, Try.results54, go_sem, g0, g1, g2, g3, g4, g5, g6, g7, g8, g9, g10, g11]) rfl ?_
      have hfin := HTf.out
      rw [List.take_length] at hfin
      rw [← hfin]
      exact ⟨rfl, HT.out, ((((((((((((KR.out.setCell (p := ⟨w.heap.size + 1, 0, none⟩) (by simp) _).setCell (p := ⟨w.heap.size + 1, 1, none⟩) (by simp) _).setCell (p := ⟨w.heap.size + 1, 2, none⟩) (by simp) _).setCell (p := ⟨w.heap.size + 1, 3, none⟩) (by simp) _).setCell (p := ⟨w.heap.size + 1, 4, none⟩) (by simp) _).setCell (p := ⟨w.heap.size + 1, 5, none⟩) (by simp) _).setCell (p := ⟨w.heap.size + 1, 6, none⟩) (by simp) _).setCell (p := ⟨w.heap.size + 1, 7, none⟩) (by simp) _).setCell (p := ⟨w.heap.size + 1, 8, none⟩) (by simp) _).setCell (p := ⟨w.heap.size + 1, 9, none⟩) (by simp) _).setCell (p := ⟨w.heap.size + 1, 10, none⟩) (by simp) _).setCell (p := ⟨w.heap.size + 1, 11, none⟩) (by simp) _)⟩
end Go.Proofs.Ythpapkfpcijpoaa
/-
  WHETHER A NUMBER IS IN A LIST: the model's look; a list's front.
-/
namespace Go.Proofs.Ythpapkfpcijpoaa
open Go.RowKit

theorem icells_getD {l : List Int} {j : Nat} (h : j < l.length) : (icells l)[j]? = some (.int .i64 (l.getD j 0)) := by
  simp [icells, List.getD_eq_getElem?_getD, List.getElem?_eq_getElem h]
theorem CRead.ints {w : World} {B : Nat} {A : Option Addr} {q : List Int} (h : CRead w B A (icells q)) (hq : 0 < q.length) : ∃ b off, A = some ⟨b, off, none⟩ ∧ b < B ∧ ∀ j, j < q.length → w.cell? ⟨b, off + j, none⟩ = some (.int .i64 (q.getD j 0)) := by
  obtain ⟨b, off, rfl, hb, _⟩ := h 0 _ (icells_getD hq)
  refine ⟨b, off, rfl, hb, fun j hj => ?_⟩
  obtain ⟨b', off', e, _, hc⟩ := h j _ (icells_getD hj)
  simp only [Option.some.injEq, Addr.mk.injEq, and_true] at e
  obtain ⟨rfl, rfl⟩ := e
  exact hc

theorem CRead.front {w : World} {B : Nat} {A : Option Addr} {q : List Int} (h : CRead w B A (icells q)) (k : Nat) : CRead w B A (icells (q.take k)) := fun j u hu => by
  refine h j u ?_
  unfold icells at hu ⊢
  rw [List.map_take, List.getElem?_take] at hu
  split at hu
  · exact hu
  · cases hu


/-- whether a number is in a list -/
def hasI (q : List Int) (x : Int) : Bool := q.contains x
theorem hasI_mem {q : List Int} {x : Int} : hasI q x = true ↔ x ∈ q := List.contains_iff_mem
end Go.Proofs.Ythpapkfpcijpoaa
/-
  'spec.l1Own': a copy of a list of numbers, by its contract.
-/
namespace Go.Proofs.Ythpapkfpcijpoaa
open Go.RowKit

end Go.Proofs.Ythpapkfpcijpoaa
/-
  LISTS OF NUMBERS UNDER ONE SLICE, each row in a block of the call's own; 'spec.l1Own' of any list; 'spec.trGroups' as a plain list.
-/
namespace Go.Proofs.Ythpapkfpcijpoaa
open Go.RowKit

structure LRows (w : World) (B : Nat) (v : Value) (LL : List (List Int)) (hs : List Value) : Prop where
  own : w.ownsRow B 45 1 v LL.length hs
  row : ∀ (i : Nat) (l : List Int), LL[i]? = some l → ∃ A c, hs[i]? = some (Value.slice A l.length c) ∧ w.ownsRow B 3 1 (Value.slice A l.length c) l.length (icells l)
  nil : LL = [] → v = Value.slice none 0 0
section
variable {w w' : World} {B B' : Nat} {v v' v2 : Value} {LL L2 : List (List Int)} {hs hs2 : List Value}
theorem LRows.none (w : World) (B : Nat) : LRows w B (Value.slice Option.none 0 0) [] [] := ⟨World.ownsRow_nil _ _ _ _, fun i l h => by simp at h, fun _ => rfl⟩
theorem LRows.below (h : LRows w B v LL hs) (hb : Below w.heap.size w w') : LRows w' B v LL hs :=
  ⟨own_below h.own hb (Nat.le_refl _), fun i l hi => by obtain ⟨A, c, e, o⟩ := h.row i l hi; exact ⟨A, c, e, own_below o hb (Nat.le_refl _)⟩, h.nil⟩
theorem LRows.lower (h : LRows w B v LL hs) (hB : B' ≤ B) : LRows w B' v LL hs :=
  ⟨own_lower h.own hB, fun i l hi => by obtain ⟨A, c, e, o⟩ := h.row i l hi; exact ⟨A, c, e, own_lower o hB⟩, h.nil⟩
theorem LRows.length (h : LRows w B v LL hs) : hs.length = LL.length := by have := h.own.1; omega
theorem LRows.one (h : LRows w B v LL hs) : ∀ u ∈ hs, u.oneCell' = true := by
  intro u hu
  obtain ⟨i, hi, rfl⟩ := List.getElem_of_mem hu
  have hl := h.length
  obtain ⟨A, c, e, _⟩ := h.row i LL[i] (List.getElem?_eq_getElem (by omega))
  rw [List.getElem?_eq_getElem hi] at e
  simp only [Option.some.injEq] at e
  rw [e]
  rfl
theorem blocks_apart {e e' : TypeId} {size size' n m : Nat} {xs ys : List Value} (h : w.ownsRow B e size v n xs) (h' : w.ownsRow B' e' size' v' m ys) (hne : e ≠ e') : v'.ownBlock = .none ∨ v'.ownBlock ≠ v.ownBlock := by
  rcases h'.2 with ⟨rfl, _⟩ | ⟨g, cap, cur, rfl, _, hg, _⟩
  · exact .inl rfl
  · refine .inr fun e => ?_
    rcases h.2 with ⟨rfl, _⟩ | ⟨g2, cap2, cur2, rfl, _, hg2, _⟩
    · simp [Value.ownBlock] at e
    · have : g = g2 := by simpa [Value.ownBlock] using e
      subst this
      rw [hg] at hg2
      simp only [Option.some.injEq, Obj.cells.injEq] at hg2
      exact hne hg2.2.1.symm
/-- rows appended to rows -/
theorem LRows.append (h : LRows w B v LL hs) (h2 : LRows w B v2 L2 hs2) (hown : w'.ownsRow B 45 1 v' (LL.length + L2.length) (hs ++ hs2)) (hg : w.grownBy w' v.ownBlock) (hn : L2 ≠ []) : LRows w' B v' (LL ++ L2) (hs ++ hs2) := by
  have keep : ∀ A c l, w.ownsRow B 3 1 (.slice A l.length c) l.length (icells l) → w'.ownsRow B 3 1 (.slice A l.length c) l.length (icells l) := fun A c l o => o.kept hg (blocks_apart h.own o (show (45 : TypeId) ≠ 3 by decide))
  refine ⟨by rw [List.length_append]; exact hown, fun i l hi => ?_, fun e => ?_⟩
  · have hl := h.length
    by_cases hlt : i < LL.length
    · rw [List.getElem?_append_left hlt] at hi
      obtain ⟨A, c, e, o⟩ := h.row i l hi
      exact ⟨A, c, by rw [List.getElem?_append_left (by omega)]; exact e, keep A c l o⟩
    · rw [List.getElem?_append_right (by omega)] at hi
      obtain ⟨A, c, e, o⟩ := h2.row _ l hi
      exact ⟨A, c, by rw [List.getElem?_append_right (by omega), hl]; exact e, keep A c l o⟩
  · simp at e
    exact absurd e.2 hn
end
/-- A call came back with lists of numbers. -/
def GotLL (w : World) (LL : List (List Int)) (e : Ending) (w' : World) : Prop := ∃ A c hs, e = .returned (.slice A LL.length c) ∧ LRows w' w.heap.size (.slice A LL.length c) LL hs ∧ Below w.heap.size w w'


/-! ## The model's candidates -/
def fromQ (q : List Int) : Nat := match q.getLast? with | none => 0 | some x => x.toNat + 1
def candR (t : Nat → Nat → Bool) (n : Nat) (q : List Int) (a : Nat) : List Nat := (List.range' a (n - a)).filter fun b => q.all fun y => t b y.toNat
theorem candR_end (t : Nat → Nat → Bool) (n : Nat) (q : List Int) {a : Nat} (h : n ≤ a) : candR t n q a = [] := by unfold candR; rw [Nat.sub_eq_zero_of_le h]; rfl
theorem candR_no {t : Nat → Nat → Bool} {n : Nat} {q : List Int} {a : Nat} (h : a < n) (hk : (q.all fun y => t a y.toNat) = false) : candR t n q a = candR t n q (a + 1) := by
  unfold candR
  rw [show n - a = (n - (a + 1)) + 1 from by omega, List.range'_succ, List.filter_cons_of_neg (by simp [hk])]
theorem candR_yes {t : Nat → Nat → Bool} {n : Nat} {q : List Int} {a : Nat} (h : a < n) (hk : (q.all fun y => t a y.toNat) = true) : candR t n q a = a :: candR t n q (a + 1) := by
  unfold candR
  rw [show n - a = (n - (a + 1)) + 1 from by omega, List.range'_succ, List.filter_cons_of_pos (by simpa using hk)]
theorem candR_tied {t : Nat → Nat → Bool} (hs : ∀ i j, t i j = t j i) (n : Nat) (q : List Int) (a : Nat) : (candR t n q (a + 1)).filter (t a) = candR t n (q ++ [(a : Int)]) (fromQ (q ++ [(a : Int)])) := by
  unfold candR fromQ
  simp only [List.getLast?_append, List.getLast?_singleton, Option.some_or, Int.toNat_natCast]
  rw [List.filter_filter]
  refine List.filter_congr fun b _ => ?_
  rw [List.all_append]
  simp [hs a b, Bool.and_comm]
end Go.Proofs.Ythpapkfpcijpoaa
/-
  PEOPLE CHOSEN AND RENAMED, as plain lists and as tables. Nothing here speaks of the program.
-/
namespace Go.Proofs.Ythpapkfpcijpoaa
open Go.RowKit

def choiceAt (p : Int) (q : List Int) (i : Nat) : Bool :=
  match q[i]? with
  | none => true
  | some x => decide (0 ≤ x ∧ x < p) && (i == 0 || match q[i - 1]? with | none => true | some y => decide (y < x))
/-- an increasing list of some of p people -/
def isChoiceI (p : Int) (q : List Int) : Bool := (List.range q.length).all (choiceAt p q)
theorem isChoiceI_of {p : Int} {q : List Int} (h : ∀ i, i < q.length → choiceAt p q i = true) : isChoiceI p q = true := by
  simp only [isChoiceI, List.all_eq_true, List.mem_range]
  exact h
theorem isChoiceI_no {p : Int} {q : List Int} {i : Nat} (hi : i < q.length) (h : choiceAt p q i = false) : isChoiceI p q = false := by
  cases he : isChoiceI p q with
  | false => rfl
  | true =>
    simp only [isChoiceI, List.all_eq_true, List.mem_range] at he
    rw [he i hi] at h
    cases h
theorem isChoiceI_good {p : Int} {q : List Int} (h : isChoiceI p q = true) {i : Nat} (hi : i < q.length) : choiceAt p q i = true := by
  simp only [isChoiceI, List.all_eq_true, List.mem_range] at h
  exact h i hi
theorem choiceAt_man {p : Int} {q : List Int} {i : Nat} {x : Int} (h : choiceAt p q i = true) (hx : q[i]? = some x) : 0 ≤ x ∧ x < p := by
  simp only [choiceAt, hx, Bool.and_eq_true, decide_eq_true_eq] at h
  exact h.1
theorem choiceAt_less {p : Int} {q : List Int} {i : Nat} {x y : Int} (h : choiceAt p q (i + 1) = true) (hx : q[i]? = some x) (hy : q[i + 1]? = some y) : x < y := by
  simp only [choiceAt, hy, Nat.add_sub_cancel, hx, Bool.and_eq_true, Bool.or_eq_true, decide_eq_true_eq] at h
  rcases h.2 with h | h
  · simp at h
  · exact h
theorem choiceAt_zero {p : Int} {q : List Int} {k : Nat} {x : Int} (hk : k = 0) (hx : q[k]? = some x) (h : 0 ≤ x ∧ x < p) : choiceAt p q k = true := by
  subst hk
  simp [choiceAt, hx, h.1, h.2]
theorem choiceAt_later {p : Int} {q : List Int} {k : Nat} {x y : Int} (_hk : 0 < k) (hx : q[k - 1]? = some x) (hy : q[k]? = some y) (h : 0 ≤ y ∧ y < p) (hl : x < y) : choiceAt p q k = true := by
  simp [choiceAt, hx, hy, h.1, h.2, hl]
theorem choiceAt_bad {p : Int} {q : List Int} {k : Nat} {x : Int} (hx : q[k]? = some x) (h : ¬ (0 ≤ x ∧ x < p)) : choiceAt p q k = false := by
  simp only [choiceAt, hx, Bool.and_eq_false_iff, decide_eq_false_iff_not]
  exact .inl h
theorem choiceAt_stale {p : Int} {q : List Int} {k : Nat} {x y : Int} (hk : 0 < k) (hx : q[k - 1]? = some x) (hy : q[k]? = some y) (hl : ¬ x < y) : choiceAt p q k = false := by
  cases h : choiceAt p q k with
  | false => rfl
  | true =>
    obtain ⟨j, rfl⟩ : ∃ j, k = j + 1 := ⟨k - 1, by omega⟩
    exact absurd (choiceAt_less h hx hy) hl
theorem isChoiceI_sorted {p : Int} {q : List Int} (h : isChoiceI p q = true) : q.Pairwise (· < ·) := by
  rw [List.pairwise_iff_getElem]
  have step : ∀ (d i : Nat) (hi : i < q.length) (hj : i + d + 1 < q.length), q[i] < q[i + d + 1] := by
    intro d
    induction d with
    | zero => intro i hi hj; exact choiceAt_less (isChoiceI_good h hj) (List.getElem?_eq_getElem (by omega)) (List.getElem?_eq_getElem hj)
    | succ d ih =>
      intro i hi hj
      have h1 := ih i hi (by omega)
      have h2 := choiceAt_less (p := p) (q := q) (i := i + d + 1) (isChoiceI_good h (by omega)) (List.getElem?_eq_getElem (by omega)) (List.getElem?_eq_getElem (by omega))
      exact Int.lt_trans h1 h2
  intro i j hi hj hij
  have e : j = i + (j - i - 1) + 1 := by omega
  have := step (j - i - 1) i hi (by omega)
  simpa only [← e] using this
theorem isChoiceI_mem {p : Int} {q : List Int} (h : isChoiceI p q = true) : ∀ x ∈ q, 0 ≤ x ∧ x < p := by
  intro x hx
  obtain ⟨i, hi, rfl⟩ := List.getElem_of_mem hx
  exact choiceAt_man (isChoiceI_good h hi) (List.getElem?_eq_getElem hi)
theorem isChoiceI_long {p : Int} {q : List Int} (h : isChoiceI p q = true) : (q.length : Int) ≤ p ∨ q = [] := by
  have hs := isChoiceI_sorted h
  have low : ∀ (i : Nat) (x : Int), q[i]? = some x → (i : Int) ≤ x := by
    intro i
    induction i with
    | zero => intro x hx; exact (isChoiceI_mem h x (List.mem_of_getElem? hx)).1
    | succ i ih =>
      intro x hx
      have hl : i + 1 < q.length := (List.getElem?_eq_some_iff.1 hx).1
      obtain ⟨y, hy⟩ := getSome q i (by omega)
      have h1 := ih y hy
      have h2 := choiceAt_less (isChoiceI_good h hl) hy hx
      omega
  by_cases hl : q.length = 0
  · exact .inr (List.eq_nil_of_length_eq_zero hl)
  · obtain ⟨x, hx⟩ := getSome q (q.length - 1) (by omega)
    have h1 := low _ _ hx
    have h2 := (isChoiceI_mem h x (List.mem_of_getElem? hx)).2
    left
    omega

theorem countP_at : ∀ (q : List Int), q.Pairwise (· < ·) → ∀ (i : Nat) (x : Int), q[i]? = some x → q.countP (fun y => decide (y < x)) = i
  | [], _, i, x, h => by simp at h
  | a :: q, hs, 0, x, h => by
    simp only [List.getElem?_cons_zero, Option.some.injEq] at h
    subst h
    rw [List.pairwise_cons] at hs
    rw [List.countP_eq_zero]
    intro b hb
    rcases List.mem_cons.1 hb with rfl | hb
    · simp
    · have := hs.1 b hb
      simp only [decide_eq_true_eq]
      omega
  | a :: q, hs, i + 1, x, h => by
    rw [List.pairwise_cons] at hs
    have hx : q[i]? = some x := by simpa using h
    have := hs.1 x (List.mem_of_getElem? hx)
    rw [List.countP_cons_of_pos (by simpa using this), countP_at q hs.2 i x hx]

/-- how many of a list are less -/
def ltI (q : List Int) (x : Int) : Int := ((q.countP (· < x) : Nat) : Int)
theorem ltI_at {q : List Int} (hs : q.Pairwise (· < ·)) {i : Nat} {x : Int} (hx : q[i]? = some x) : ltI q x = i := by
  unfold ltI
  rw [countP_at q hs i x hx]
theorem ltI_mem {q : List Int} (hs : q.Pairwise (· < ·)) {x : Int} (hx : x ∈ q) : ∃ i : Nat, ltI q x = i ∧ q[i]? = some x := by
  obtain ⟨i, hi, rfl⟩ := List.getElem_of_mem hx
  exact ⟨i, ltI_at hs (List.getElem?_eq_getElem hi), List.getElem?_eq_getElem hi⟩
theorem ltI_le (q : List Int) (x : Int) : 0 ≤ ltI q x ∧ ltI q x ≤ q.length := by
  unfold ltI
  have := List.countP_le_length (p := fun y => decide (y < x)) (l := q)
  omega
/-- the pairs of the people chosen -/
def chooseP (l : PL) (q : List Int) : PL := l.filterMap fun r => if q.contains r.1 = true ∧ q.contains r.2 = true then some (ltI q r.1, ltI q r.2) else none
theorem chooseP_snoc (l : PL) (q : List Int) (x y : Int) : chooseP (l ++ [(x, y)]) q = chooseP l q ++ if q.contains x = true ∧ q.contains y = true then [(ltI q x, ltI q y)] else [] := by
  unfold chooseP
  rw [List.filterMap_append]
  congr 1
  by_cases h : q.contains x = true ∧ q.contains y = true
  · rw [if_pos h, List.filterMap_cons_some (by rw [if_pos h]), List.filterMap_nil]
  · rw [if_neg h, List.filterMap_cons_none (by rw [if_neg h]), List.filterMap_nil]
theorem chooseP_le (l : PL) (q : List Int) : (chooseP l q).length ≤ l.length := List.length_filterMap_le _ _
def gI (q : List Int) (i : Nat) : Nat := (q.getD i 0).toNat
def chosenT (l : PL) (q : List Int) (i j : Nat) : Bool := adj l (gI q i) (gI q j)
theorem gI_at {q : List Int} {i : Nat} {x : Int} (hx : q[i]? = some x) (h0 : 0 ≤ x) : ((gI q i : Nat) : Int) = x := by
  unfold gI
  rw [List.getD_eq_getElem?_getD, hx]
  simp only [Option.getD_some]
  omega
theorem mem_chooseP {l : PL} {q : List Int} {r : Int × Int} : r ∈ chooseP l q ↔ ∃ s ∈ l, s.1 ∈ q ∧ s.2 ∈ q ∧ r = (ltI q s.1, ltI q s.2) := by
  unfold chooseP
  rw [List.mem_filterMap]
  constructor
  · rintro ⟨s, hs, h⟩
    split at h
    · rename_i hc
      rw [List.contains_iff_mem, List.contains_iff_mem] at hc
      exact ⟨s, hs, hc.1, hc.2, by simpa using h.symm⟩
    · cases h
  · rintro ⟨s, hs, h1, h2, rfl⟩
    refine ⟨s, hs, ?_⟩
    rw [if_pos (by rw [List.contains_iff_mem, List.contains_iff_mem]; exact ⟨h1, h2⟩)]
theorem chooseP_list {p : Int} {l : PL} {q : List Int} (hp : isP p l = true) (hq : isChoiceI p q = true) : IsList q.length (chooseP l q) := by
  have hr := isP_range hp
  obtain ⟨_, _, hm, hs⟩ := isP_list hp
  have hqs := isChoiceI_sorted hq
  have hmono : ∀ x y, x ∈ q → y ∈ q → x < y → ltI q x < ltI q y := by
    intro x y hx hy hxy
    obtain ⟨i, ei, hi⟩ := ltI_mem hqs hx
    obtain ⟨j, ej, hj⟩ := ltI_mem hqs hy
    rw [ei, ej]
    have hil : i < q.length := (List.getElem?_eq_some_iff.1 hi).1
    have hjl : j < q.length := (List.getElem?_eq_some_iff.1 hj).1
    have e1 : q[i] = x := by rw [List.getElem?_eq_getElem hil] at hi; simpa using hi
    have e2 : q[j] = y := by rw [List.getElem?_eq_getElem hjl] at hj; simpa using hj
    rcases Nat.lt_trichotomy i j with h | h | h
    · omega
    · subst h; omega
    · have := (List.pairwise_iff_getElem.1 hqs) j i hjl hil h
      omega
  have hlen : (q.length : Int) ≤ 12 := by
    rcases isChoiceI_long hq with h | h
    · omega
    · simp [h]
  refine ⟨by omega, hlen, fun r hr => ?_, ?_⟩
  · obtain ⟨s, hsl, h1, h2, rfl⟩ := mem_chooseP.1 hr
    have h3 := hmono _ _ h1 h2 (hm s hsl).2.1
    obtain ⟨j, ej, hj⟩ := ltI_mem hqs h2
    have hjl : j < q.length := (List.getElem?_eq_some_iff.1 hj).1
    have := ltI_le q s.1
    simp only
    omega
  · unfold chooseP
    rw [List.pairwise_filterMap]
    refine List.Pairwise.imp (fun {a b} hlt u hu v hv => ?_) hs
    split at hu
    · split at hv
      · rename_i h1 h2
        rw [List.contains_iff_mem, List.contains_iff_mem] at h1 h2
        simp only [Option.some.injEq] at hu hv
        subst hu
        subst hv
        unfold plt at hlt ⊢
        rcases hlt with hlt | ⟨e, hlt⟩
        · exact .inl (hmono _ _ h1.1 h2.1 hlt)
        · exact .inr ⟨by simp only; rw [e], hmono _ _ h1.2 h2.2 hlt⟩
      · cases hv
    · cases hu
theorem tabP_choose {p : Int} {l : PL} {q : List Int} (hp : isP p l = true) (hq : isChoiceI p q = true) : tabP q.length (chosenT l q) = chooseP l q := by
  have hc := chooseP_list hp hq
  have hqs := isChoiceI_sorted hq
  obtain ⟨_, _, hm, hs⟩ := isP_list hp
  have hlen : q.length ≤ 12 := by have := hc.2.1; omega
  refine sorted_ext (filter_list hlen _).2.2.2 hc.2.2.2 fun r => ?_
  unfold tabP
  rw [List.mem_filter, mem_allP, mem_chooseP]
  constructor
  · rintro ⟨⟨h0, h1, h2⟩, ht⟩
    obtain ⟨x, hx⟩ := getSome q r.1.toNat (by omega)
    obtain ⟨y, hy⟩ := getSome q r.2.toNat (by omega)
    have hx0 := isChoiceI_mem hq x (List.mem_of_getElem? hx)
    have hy0 := isChoiceI_mem hq y (List.mem_of_getElem? hy)
    have ex := gI_at hx hx0.1
    have ey := gI_at hy hy0.1
    have hxy : x < y := by
      have hil : r.1.toNat < q.length := (List.getElem?_eq_some_iff.1 hx).1
      have hjl : r.2.toNat < q.length := (List.getElem?_eq_some_iff.1 hy).1
      have := (List.pairwise_iff_getElem.1 hqs) _ _ hil hjl (by omega)
      rw [List.getElem?_eq_getElem hil] at hx
      rw [List.getElem?_eq_getElem hjl] at hy
      simp only [Option.some.injEq] at hx hy
      rwa [hx, hy] at this
    have hmem : (x, y) ∈ l := by
      unfold chosenT adj at ht
      rw [ex, ey, Bool.or_eq_true, List.contains_iff_mem, List.contains_iff_mem] at ht
      rcases ht with ht | ht
      · exact ht
      · have := hm _ ht
        simp only at this
        omega
    refine ⟨(x, y), hmem, List.mem_of_getElem? hx, List.mem_of_getElem? hy, ?_⟩
    rw [ltI_at hqs hx, ltI_at hqs hy]
    exact Prod.ext (by simp; omega) (by simp; omega)
  · rintro ⟨s, hsl, h1, h2, rfl⟩
    have hin := hc.2.2.1 _ (mem_chooseP.2 ⟨s, hsl, h1, h2, rfl⟩)
    refine ⟨hin, ?_⟩
    obtain ⟨i, ei, hi⟩ := ltI_mem hqs h1
    obtain ⟨j, ej, hj⟩ := ltI_mem hqs h2
    have hs0 := hm s hsl
    simp only [ei, ej, Int.toNat_natCast]
    unfold chosenT adj
    rw [gI_at hi (by omega), gI_at hj (by omega), Bool.or_eq_true, List.contains_iff_mem]
    left
    exact hsl
end Go.Proofs.Ythpapkfpcijpoaa
/-
  WAYS TO CHOOSE: the program's 'waysToChoose' and the model's 'trChoose', by their contracts; 'GroupBound', 'LeastMustHave', 'LeastOneKind'.
-/
namespace Go.Proofs.Ythpapkfpcijpoaa
open Go.RowKit

/-- the product of the first steps, as the program takes them -/
def waysI (n : Int) : Nat → Int
  | 0 => 1
  | i + 1 => (waysI n i * (n - i)).tdiv (i + 1)
/-- as the model takes them -/
def stepsI (n k : Int) : Nat → Int
  | 0 => 1
  | i + 1 => (stepsI n k i * (n - k + (i + 1))).tdiv (i + 1)
def InWays (n : Int) (k : Nat) : Prop := (0 ≤ n ∧ n ≤ 12 ∧ k ≤ 12) ∨ (0 ≤ n ∧ n ≤ 132 ∧ k ≤ 2)
theorem waysI_all : (∀ n : Fin 13, ∀ k : Fin 13, 0 ≤ waysI (n.val : Int) k.val ∧ waysI (n.val : Int) k.val ≤ 10000) ∧ (∀ n : Fin 133, ∀ k : Fin 3, 0 ≤ waysI (n.val : Int) k.val ∧ waysI (n.val : Int) k.val ≤ 10000) := by
  constructor <;> decide +kernel
theorem waysI_bound {n : Int} {k : Nat} (h : InWays n k) : 0 ≤ waysI n k ∧ waysI n k ≤ 10000 := by
  rcases h with ⟨h0, h1, h2⟩ | ⟨h0, h1, h2⟩
  · have := waysI_all.1 ⟨n.toNat, by omega⟩ ⟨k, by omega⟩
    rwa [show ((n.toNat : Nat) : Int) = n from by omega] at this
  · have := waysI_all.2 ⟨n.toNat, by omega⟩ ⟨k, by omega⟩
    rwa [show ((n.toNat : Nat) : Int) = n from by omega] at this
theorem InWays.less {n : Int} {k i : Nat} (h : InWays n k) (hi : i ≤ k) : InWays n i := by unfold InWays at *; omega
theorem stepsI_all : (∀ n : Fin 13, ∀ k : Fin 13, k.val ≤ n.val → ∀ i : Fin 13, i.val ≤ k.val → 0 ≤ stepsI (n.val : Int) (k.val : Int) i.val ∧ stepsI (n.val : Int) (k.val : Int) i.val ≤ 10000) ∧ (∀ n : Fin 133, ∀ k : Fin 3, k.val ≤ n.val → ∀ i : Fin 3, i.val ≤ k.val → 0 ≤ stepsI (n.val : Int) (k.val : Int) i.val ∧ stepsI (n.val : Int) (k.val : Int) i.val ≤ 10000) := by
  constructor <;> decide +kernel
theorem stepsI_bound {n : Int} {k i : Nat} (h : InWays n k) (hk : (k : Int) ≤ n) (hi : i ≤ k) : 0 ≤ stepsI n k i ∧ stepsI n k i ≤ 10000 := by
  rcases h with ⟨h0, h1, h2⟩ | ⟨h0, h1, h2⟩
  · have := stepsI_all.1 ⟨n.toNat, by omega⟩ ⟨k, by omega⟩ (by show k ≤ n.toNat; omega) ⟨i, by omega⟩ hi
    rwa [show ((n.toNat : Nat) : Int) = n from by omega] at this
  · have := stepsI_all.2 ⟨n.toNat, by omega⟩ ⟨k, by omega⟩ (by show k ≤ n.toNat; omega) ⟨i, by omega⟩ hi
    rwa [show ((n.toNat : Nat) : Int) = n from by omega] at this
theorem ways_steps_all : (∀ n : Fin 13, ∀ k : Fin 13, waysI (n.val : Int) k.val = if k.val > n.val then 0 else stepsI (n.val : Int) (k.val : Int) k.val) ∧ (∀ n : Fin 133, ∀ k : Fin 3, waysI (n.val : Int) k.val = if k.val > n.val then 0 else stepsI (n.val : Int) (k.val : Int) k.val) := by
  constructor <;> decide +kernel
theorem ways_steps {n : Int} {k : Nat} (h : InWays n k) : waysI n k = if (k : Int) > n then 0 else stepsI n k k := by
  rcases h with ⟨h0, h1, h2⟩ | ⟨h0, h1, h2⟩
  · have := ways_steps_all.1 ⟨n.toNat, by omega⟩ ⟨k, by omega⟩
    rw [show ((n.toNat : Nat) : Int) = n from by omega] at this
    rw [this]
    by_cases hk : k > n.toNat
    · rw [if_pos hk, if_pos (by omega)]
    · rw [if_neg hk, if_neg (by omega)]
  · have := ways_steps_all.2 ⟨n.toNat, by omega⟩ ⟨k, by omega⟩
    rw [show ((n.toNat : Nat) : Int) = n from by omega] at this
    rw [this]
    by_cases hk : k > n.toNat
    · rw [if_pos hk, if_pos (by omega)]
    · rw [if_neg hk, if_neg (by omega)]
/-- what a step's product is within -/
theorem mul_within {a b : Int} (ha : 0 ≤ a ∧ a ≤ 10000) (hb : -200 ≤ b ∧ b ≤ 200) : -2000000 ≤ a * b ∧ a * b ≤ 2000000 := by
  constructor
  · have h1 : a * (-200) ≤ a * b := Int.mul_le_mul_of_nonneg_left hb.1 ha.1
    omega
  · have h1 : a * b ≤ a * 200 := Int.mul_le_mul_of_nonneg_left hb.2 ha.1
    omega
theorem wrap_small {x : Int} (h : -9223372036854775808 ≤ x ∧ x ≤ 9223372036854775807) : IntKind.i64.wrap x = x := by simp [IntKind.wrap, IntKind.bits, IntKind.signed]; omega

end Go.Proofs.Ythpapkfpcijpoaa
