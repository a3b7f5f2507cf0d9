/-
  Texts put together for the claims of 'FirstOfNumbers' (pack 3): ToldP, LookP, EachI, Clone, EachF, EachS.
-/
import Derived.Test.YthddlpghjkiioaaFirstOfNumbersP1
import Derived.Test.YthddlpghjkiioaaFirstOfNumbersP2
import Derived.Deep.RegionLawGrows
import Derived.Laws.OwnMore
import Derived.BigQuiet
import Derived.Deep.Cut
import Derived.Deep.RegionHeldLaw
import Derived.Lib.SliceRun
import Derived.Deep.LoopGhost
import Derived.Deep.Slices
import Derived.WideShapes
import Derived.Laws.AppendOwnNone
/-
  A LIST OF PAIRS THAT GROWS BY ONE WHILE THE SHORTER ONE IS STILL READ: 'append(told, pair)' at a step of a region that draws its order.
-/
namespace Go.Proofs.Ythddlpghjkiioaa
open Go.RowKit

/-- a list of pairs in a block of its own, which may have room behind -/
abbrev World.toldP (w : World) (A : Option Addr) (c : Nat) (l : PL) : Prop := w.ownsRow 0 64 2 (.slice A l.length c) l.length (pcells l)
/-- one more: the shorter list still stands; the longer lies in its block or in a new one -/
structure GrewP (w w' : World) (A A' : Option Addr) (c c' : Nat) (l : PL) (x : Int × Int) : Prop where
  new : World.toldP w' A' c' (l ++ [x])
  old : World.toldP w' A c l
  grow : w.grownBy w' (Value.slice A l.length c).ownBlock
  same : A' = A ∧ c' = c ∧ A ≠ none ∨ w.grownBy w' none ∧ ∃ g, A' = some ⟨g, 0, none⟩ ∧ w.heap.size ≤ g
theorem toldP_front {w : World} {A : Option Addr} {c : Nat} {l : PL} {x : Int × Int} (h : World.toldP w A c (l ++ [x])) (hA : A ≠ none) : World.toldP w A c l := by
  rcases h.2 with ⟨hv, _⟩ | ⟨g, cap, cur, hv, hb, hg, hn, hm, hs, ht⟩
  · simp only [Value.slice.injEq] at hv
    exact absurd hv.1 hA
  · simp only [Value.slice.injEq] at hv
    obtain ⟨rfl, _, rfl⟩ := hv
    refine ⟨pcells_length l, .inr ⟨g, c, cur, rfl, hb, hg, ?_, hm, hs, ?_⟩⟩
    · rw [List.length_append] at hn; simp at hn; omega
    · have e := congrArg (List.take (l.length * 2)) ht
      rw [List.take_take, pcells_append] at e
      rw [Nat.min_eq_left (by rw [List.length_append]; simp; omega)] at e
      rw [e]
      have : (pcells l).length = l.length * 2 := pcells_length l
      rw [← this, List.take_left]
theorem toldP_own {A : Option Addr} {c : Nat} {l : PL} {g : Nat} (hA : A = some ⟨g, 0, none⟩) : (Value.slice A l.length c).ownBlock = some g := by rw [hA]; rfl

theorem step_append_toldP {ops : Array Oper} {o : Oper} {a : Act} {w : World} {K : Act → World → Prop} {Q : Exit → Act → World → Prop} {E : Prop}
    (hw : Region.wanted o (yielded ops a.tmps) = true) (s x : Operand) (ho : o.op = .call { callee := .builtin .append, args := #[s, x], argTypes := #[23, 23] })
    (A : Option Addr) (c : Nat) (l : PL) (y z : Int) (hs : a.eval s = .slice A l.length c) (hown : World.toldP w A c l)
    (ad : Addr) (hx : a.eval x = .slice (some ad) 1 1) (hcell : ∀ j u, [Value.int .i64 y, .int .i64 z][j]? = some u → w.cell? (ad.add j) = some u) (hlen : l.length ≤ 1000)
    (h : ∀ A' c' w', GrewP w w' A A' c c' l (y, z) → K (a.put o.dst (.slice A' (l.length + 1) c')) w') :
    if Region.wanted o (yielded ops a.tmps) = true then Oper.wp Try.prog o a w K Q else E := by
  obtain ⟨i0, hi, hz0, hz1, hz2⟩ := info_parts Try.infoPair
  have hone : ∀ u ∈ [Value.int .i64 y, .int .i64 z], u.oneCell' = true := by simp; exact ⟨rfl, rfl⟩
  have hll : (l ++ [(y, z)]).length = l.length + 1 := by simp
  rw [if_pos hw]
  by_cases hroom : l.length + 1 ≤ c
  · rcases hown.2 with ⟨hv, _⟩ | ⟨g, cap, cur, hv, hb, hg, hn, hm, hsz, ht⟩
    · simp only [Value.slice.injEq] at hv
      omega
    · simp only [Value.slice.injEq] at hv
      obtain ⟨rfl, _, rfl⟩ := hv
      obtain ⟨w', hrun, r1, r2⟩ := run_append_fits (P := Try.prog) w 0 23 o.type 64 i0 2 Try.underlying23 hi hz1 g l.length c (pcells l) hown ad 1 1 [.int .i64 y, .int .i64 z] rfl hcell hone hroom
      unfold Oper.wp
      simp [execOp, ho, resolve, invoke, builtin, hs, hx, hrun, Result.andThen]
      have r3 : World.toldP w' (some ⟨g, 0, none⟩) c (l ++ [(y, z)]) := by rw [World.toldP, hll, pcells_append]; exact r1
      exact h _ _ w' ⟨r3, toldP_front r3 (by simp), r2, .inl ⟨rfl, rfl, by simp⟩⟩
  · have hgrows := step_append_grows (ops := ops) (o := { o with guard := none }) (a := a) (w := w) (K := K) (Q := Q) (E := E) rfl s x 23 ho 64 i0 _ 2 16 Try.underlying23 hi hz0 hz1 hz2 rfl (by decide) A l.length c (pcells l) hs (by
        intro e
        rcases hown.2 with ⟨hv, h0⟩ | ⟨g, cap, cur, hv, _⟩
        · simp only [Value.slice.injEq] at hv
          exact ⟨hv.2.1, hv.2.2⟩
        · simp [e] at hv) (pcells_length l) (by
        intro b e j u hj
        obtain ⟨b', off, e', _, hc⟩ := (CRead.of_own hown) j u hj
        rw [e] at e'
        simp only [Option.some.injEq] at e'
        rw [e', Addr.add_lit]
        exact hc) ad 1 1 [.int .i64 y, .int .i64 z] hx rfl hcell hone (by omega) (by unfold maxLen; omega) (by omega) (by
        intro v' w' r1 r2
        obtain ⟨A', c', rfl, _⟩ := own_shape r1
        obtain ⟨g, hgA⟩ := own_form r1 (by omega)
        have hlt := (own_lower r1 (Nat.zero_le _))
        refine h A' c' w' ⟨by rw [World.toldP, hll, pcells_append]; exact hlt, hown.kept r2 (by cases (Value.slice A l.length c).ownBlock <;> simp), ⟨r2.os, r2.tape, r2.output, r2.size, fun k hk _ => r2.block k hk (by simp)⟩, .inr ⟨r2, g, hgA, ?_⟩⟩
        subst hgA
        exact (own_lt r1).1)
    rw [if_pos (by simp [Region.wanted])] at hgrows
    exact hgrows
end Go.Proofs.Ythddlpghjkiioaa
/-
  A CLOSURE THAT GOES THROUGH LISTS OF PAIRS, handed to a round each: how a call of it ends (written by program after XLook).
-/
namespace Go.Proofs.Ythddlpghjkiioaa
open Go.RowKit

theorem toldP_kept {w w' : World} {A : Option Addr} {c : Nat} {l : PL} (h : World.toldP w A c l) (hk : ∀ k, (Value.slice A l.length c).ownBlock = some k → w'.heap[k]? = w.heap[k]?) : World.toldP w' A c l := by
  refine ⟨h.1, ?_⟩
  rcases h.2 with h' | ⟨g, cap, cur, hv, hb, hg, rest⟩
  · exact .inl h'
  · exact .inr ⟨g, cap, cur, hv, hb, (hk g (by rw [hv]; rfl)).trans hg, rest⟩

/-- All lists have come. -/
structure LookYesP (J : (Nat → Prop) → List PL → World → Prop) (R S : Nat → Prop) (A : Option Addr) (c : Nat) (l : PL) (xs : List PL) (W W' : World) : Prop where
  ex : ∃ S', J S' xs W' ∧ (∀ j, S j → S' j) ∧ (∀ j, S' j → S j ∨ W.heap.size ≤ j)
  below : Below 0 W W'
  ro : ∀ j, R j → W'.heap[j]? = W.heap[j]?
  other : ∀ j, S j → j < W.heap.size → (Value.slice A l.length c).ownBlock ≠ some j → W'.heap[j]? = W.heap[j]?
  told : World.toldP W' A c l
/-- How a call of the closure ends. -/
def LookPostP (J Jx : (Nat → Prop) → List PL → World → Prop) (R S : Nat → Prop) (A : Option Addr) (c : Nat) (l : PL) (pre L : List PL) (W : World) : Bool → World → Prop
  | true, W' => LookYesP J R S A c l (pre ++ L) W W'
  | false, W' => ∃ S' q x, q ++ [x] <+: L ∧ Jx S' (pre ++ (q ++ [x])) W'

section
variable {J Jx : (Nat → Prop) → List PL → World → Prop} {R S S1 : Nat → Prop} {A A' : Option Addr} {c c' B : Nat} {l : PL} {xs pre : List PL} {W wr X w1 w2 : World}
theorem LookYesP.start (hJ : J S xs W) (ht : World.toldP W A c l) : LookYesP J R S A c l xs W W := ⟨⟨S, hJ, fun _ h => h, fun _ h => .inl h⟩, Below.refl _ _, fun _ _ => rfl, fun _ _ _ _ => rfl, ht⟩
/-- one person more: what holds where the closure is called again -/
theorem LookYesP.step {x : Int × Int} (hh : Held J) (h : LookYesP J R S A c l xs W wr) (hA : ∀ k, (Value.slice A l.length c).ownBlock = some k → S k) (hS : ∀ j, S j → B ≤ j) (hR : ∀ j, R j → j < B) (hB : B ≤ W.heap.size)
    (hX : Below wr.heap.size wr X) (g : GrewP X w1 A A' c c' l x) :
    (∃ S2, J S2 xs w1 ∧ (∀ j, S j → S2 j) ∧ (∀ j, S2 j → S j ∨ W.heap.size ≤ j) ∧ (∀ k, (Value.slice A' (l ++ [x]).length c').ownBlock = some k → S2 k)) ∧ (∀ j, R j → w1.heap[j]? = wr.heap[j]?) ∧ B ≤ w1.heap.size ∧ W.heap.size ≤ w1.heap.size := by
  obtain ⟨S1, hJ1, hs1, hs2⟩ := h.ex
  have hsz := h.below.size
  have hsX := hX.size
  have hs3 := g.grow.size
  have hap : Apart S1 wr w1 := ⟨(hX.mono (Nat.zero_le _)).trans ((Below.refl 0 X).grown g.grow (Nat.zero_le _) fun k _ => Nat.zero_le k), fun j hj hn => by
    rw [g.grow.block j (by omega) (fun e => hn (hs1 j (hA j e.symm))), hX.block j hj]⟩
  refine ⟨⟨fun j => S1 j ∨ (wr.heap.size ≤ j ∧ j < w1.heap.size), hh _ _ _ _ _ hJ1 hap (fun j hj => hj), fun j hj => .inl (hs1 j hj), fun j hj => ?_, fun k hk => ?_⟩, fun j hj => ?_, by omega, by omega⟩
  · rcases hj with hj | hj
    · exact hs2 j hj
    · exact .inr (by omega)
  · rcases g.same with ⟨rfl, rfl, _⟩ | ⟨_, b, rfl, hb⟩
    · exact .inl (hs1 k (hA k (by
        cases hA' : A' with
        | none => rw [hA'] at hk; simp [Value.ownBlock] at hk
        | some a => rw [hA'] at hk; exact hk)))
    · have hlt := (own_lt g.new).2
      have : b = k := by simpa [Value.ownBlock] using hk
      subst this
      exact .inr ⟨by omega, hlt⟩
  · have h1 := hR j hj
    rw [g.grow.block j (by omega) (fun e => by have := hS j (hA j e.symm); omega), hX.block j (by omega)]
theorem LookYesP.next {x : Int × Int} {S2 : Nat → Prop} {L : List PL} (h : LookYesP J R S A c l xs W wr) (hA : ∀ k, (Value.slice A l.length c).ownBlock = some k → S k) (hS : ∀ j, S j → B ≤ j) (hR : ∀ j, R j → j < B) (hB : B ≤ W.heap.size)
    (hX : Below wr.heap.size wr X) (g : GrewP X w1 A A' c c' l x) (k1 : ∀ j, S j → S2 j) (k2 : ∀ j, S2 j → S j ∨ W.heap.size ≤ j) (h2 : LookYesP J R S2 A' c' (l ++ [x]) L w1 w2) : LookYesP J R S A c l L W w2 := by
  have hsz := h.below.size
  have hsX := hX.size
  have hs3 := g.grow.size
  have hoA : ∀ j, S j → (Value.slice A l.length c).ownBlock ≠ some j → w1.heap[j]? = wr.heap[j]? ∨ wr.heap.size ≤ j := fun j _ hne => by
    by_cases hlt : j < wr.heap.size
    · exact .inl (by rw [g.grow.block j (by omega) (fun e => hne e.symm), hX.block j hlt])
    · exact .inr (by omega)
  refine ⟨?_, (h.below.trans ((hX.mono (Nat.zero_le _)).trans ((Below.refl 0 X).grown g.grow (Nat.zero_le _) fun k _ => Nat.zero_le k))).trans h2.below, fun j hj => ?_, fun j hj hlt hne => ?_, ?_⟩
  · obtain ⟨S', hJ', e1, e2⟩ := h2.ex
    refine ⟨S', hJ', fun j hj => e1 j (k1 j hj), fun j hj => ?_⟩
    rcases e2 j hj with h' | h'
    · exact k2 j h'
    · exact .inr (by omega)
  · have h1 := hR j hj
    rw [h2.ro j hj, g.grow.block j (by omega) (fun e => by have := hS j (hA j e.symm); omega), hX.block j (by omega), h.ro j hj]
  · rw [h2.other j (k1 j hj) (by omega) ?_]
    · rcases hoA j hj hne with h' | h'
      · rw [h', h.other j hj hlt hne]
      · omega
    · rcases g.same with ⟨rfl, rfl, _⟩ | ⟨_, b, rfl, hb⟩
      · intro e
        refine hne ?_
        cases hA' : A' with
        | none => rw [hA'] at e; simp [Value.ownBlock] at e
        | some a => rw [hA'] at e; exact e
      · intro e
        have : b = j := by simpa [Value.ownBlock] using e
        omega
  · rcases g.same with ⟨rfl, rfl, hne⟩ | ⟨_, b, rfl, hb⟩
    · exact toldP_front h2.told hne
    · refine toldP_kept g.old fun k hk => ?_
      have hklt := (own_lies g.old k hk).2
      refine h2.other k (k1 k (hA k hk)) hklt fun e => ?_
      have hbk : b = k := by simpa [Value.ownBlock] using e
      have hkX := (own_lies h.told k hk).2
      omega
theorem LookYesP.later (hh : Held J) (h : LookYesP J R S A c l xs W wr) (hR : ∀ j, R j → j < B) (hB : B ≤ W.heap.size) (hX : Below wr.heap.size wr X) : LookYesP J R S A c l xs W X := by
  obtain ⟨S', hJ', e1, e2⟩ := h.ex
  have hsz := h.below.size
  refine ⟨⟨S', hh _ _ _ _ _ hJ' (Apart.of_below hX) (fun j hj => .inl hj), e1, e2⟩, h.below.trans (hX.mono (Nat.zero_le _)), fun j hj => ?_, fun j hj hlt hne => ?_, toldP_kept h.told fun k hk => hX.block k (own_lies h.told k hk).2⟩
  · have := hR j hj
    rw [hX.block j (by omega), h.ro j hj]
  · rw [hX.block j (by omega), h.other j hj hlt hne]
end
end Go.Proofs.Ythddlpghjkiioaa
/-
  ALL PARTIES OF SOME NUMBERS: the program's recursion ('eachFrom') that counts them, by its contract.
-/
namespace Go.Proofs.Ythddlpghjkiioaa
open Go.RowKit Go.Shelf

/-- what the closure has counted, apart from the list that is shown -/
def KeptC (o : Nat) (S : Nat → Prop) (xs : List PL) (W : World) : Prop :=
  (∀ j, S j → o < j ∧ j < W.heap.size) ∧ W.heap[o]? = some (Obj.cells #[.int .i64 (xs.length : Int)] 3)
theorem keptC_held (o : Nat) : Held (KeptC o) := by
  rintro T T' pre B C ⟨a1, a2⟩ hap hT'
  have hsz := hap.below.size
  have hlt : o < B.heap.size := (Array.getElem?_eq_some_iff.1 a2).1
  refine ⟨fun j hj => ?_, (hap.same o hlt (fun h => by have := (a1 _ h).1; omega)).trans a2⟩
  rcases hT' j hj with h | h
  · have := a1 j h; omega
  · omega
theorem LookYesP.before {J : (Nat → Prop) → List PL → World → Prop} {R S : Nat → Prop} {A : Option Addr} {c : Nat} {l : PL} {xs : List PL} {W Y W' : World} (hb : Below W.heap.size W Y) (hR : ∀ j, R j → j < W.heap.size) (h : LookYesP J R S A c l xs Y W') : LookYesP J R S A c l xs W W' := by
  have hs := hb.size
  obtain ⟨S', hJ, e1, e2⟩ := h.ex
  exact ⟨⟨S', hJ, e1, fun j hj => (e2 j hj).elim .inl (fun h => .inr (by omega))⟩, (hb.mono (Nat.zero_le _)).trans h.below, fun j hj => (h.ro j hj).trans (hb.block j (hR j hj)), fun j hj hlt hne => (h.other j hj (by omega) hne).trans (hb.block j hlt), h.told⟩
theorem rangeAt_eq {w w' : World} {b o : Nat} {cs : List Value} (h : w.rangeAt b o cs) (e : w'.heap[b]? = w.heap[b]?) : w'.rangeAt b o cs := fun j v hv => (World.cell?_of_block (w := w) (a := ⟨b, o + j, none⟩) e).trans (h j v hv)
theorem LookYesP.again {J : (Nat → Prop) → List PL → World → Prop} {R S S' : Nat → Prop} {A : Option Addr} {c : Nat} {l : PL} {xs ys : List PL} {W Y W' : World} (h : LookYesP J R S A c l xs W Y) (h1 : ∀ j, S j → S' j) (h3 : ∀ j, S' j → S j ∨ W.heap.size ≤ j) (h2 : LookYesP J R S' A c l ys Y W') : LookYesP J R S A c l ys W W' := by
  have hs := h.below.size
  obtain ⟨S2, hJ, e1, e2⟩ := h2.ex
  exact ⟨⟨S2, hJ, fun j hj => e1 j (h1 j hj), fun j hj => (e2 j hj).elim (h3 j) (fun h => .inr (by omega))⟩, h.below.trans h2.below, fun j hj => (h2.ro j hj).trans (h.ro j hj), fun j hj hlt hne => (h2.other j (h1 j hj) (by omega) hne).trans (h.other j hj hlt hne), h2.told⟩
end Go.Proofs.Ythddlpghjkiioaa
/-
  slices.Clone of pairs and of numbers, by its contracts, at every address.
-/
namespace Go.Proofs.Ythddlpghjkiioaa
open Go.RowKit

theorem read_add_P {w : World} {B : Nat} {a : Addr} {l : PL} (h : CRead w B (some a) (pcells l)) : ∀ j u, (pcells l)[j]? = some u → w.cell? (a.add j) = some u := by
  intro j u hj
  obtain ⟨b, off, e, _, hc⟩ := h j u hj
  simp only [Option.some.injEq] at e
  subst e
  rw [Go.WideShapes.add_plain]
  exact hc
set_option maxHeartbeats 1000000 in
set_option maxRecDepth 100000 in
theorem cloneP_any (l : PL) (A : Option Addr) (c : Nat) (w : World) (hl : l.length ≤ 1048576) (hA : CRead w w.heap.size A (pcells l)) :
    Calls Try.prog 47 #[.slice A l.length c] w fun e w' => ∃ A' c', e = .returned (.slice A' l.length c') ∧ w'.ownsRow w.heap.size 64 2 (.slice A' l.length c') l.length (pcells l) ∧ Below w.heap.size w w' := by
  obtain ⟨i0, hi, hz0, hz1, hz2⟩ := info_parts Try.infoPair
  have q22 : ∀ (w : World) (a : Option Addr) (n c n' c' : Nat), (binOp .eql 23 (.slice a n c) (.slice none n' c')).run Try.prog w = .ok (.bool a.isNone) w := fun w a n c n' c' => Lib.run_eql_slice_nil w _ _ a n c n' c' Try.underlying23
  have u22 : ∀ w, Sem.run Try.prog (underlying 23) w = .ok (TypeDesc.slice 64) w := run_underlying Try.underlying23
  cases A with
  | none =>
    have hq : l = [] := by
      cases l with
      | nil => rfl
      | cons x l =>
        obtain ⟨b, off, e, _⟩ := hA 0 _ (by simp [pcells]; rfl)
        cases e
    subst hq
    go_enter Try.func47, Try.ntmps47
    go_wp2
    go_ret
    exact ⟨none, 0, rfl, World.ownsRow_nil _ _ _ _, Below.refl _ _⟩
  | some a =>
    have hc := read_add_P hA
    have H : Aside (∀ j u, (pcells l)[j]? = some u → w.cell? (a.add j) = some u) := hc
    clear hc hA
    go_enter Try.func47, Try.ntmps47
    go_wp2_with (at_builtin; refine wpList_append_own _ rfl _ _ 23 rfl w.heap.size 64 i0 (.agg #[.int .i64 0, .int .i64 0]) 2 16 Try.underlying23 hi hz0 hz1 hz2 rfl (by decide) _ _ _ rfl (World.ownsRow_made w #[] 0 (Nat.le_refl _) (Nat.zero_le _) rfl) a l.length c (pcells l) rfl ?qc1 ?qc2 ?qc3 ?qc4 ?qc5 ?qc6 ?_)
    case qc1 => exact pcells_length l
    case qc2 =>
      intro j u hj
      exact Lib.cell?_alloc_some _ (H.out j u hj)
    case qc3 => exact pcells_one l
    case qc4 => unfold maxLen; omega
    case qc5 => omega
    case qc6 => simp
    intro v' w1 hown hgrow _

    obtain ⟨A1, c1, rfl, _⟩ := own_shape hown
    go_wp2
    go_ret
    exact ⟨A1, c1, rfl, hown, ((Below.refl _ w).alloc (Nat.le_refl _) _).grown hgrow (by simp) (by intro k hk; simp [Value.ownBlock] at hk; omega)⟩

theorem read_add_I {w : World} {B : Nat} {a : Addr} {l : List Int} (h : CRead w B (some a) (icells l)) : ∀ j u, (icells l)[j]? = some u → w.cell? (a.add j) = some u := by
  intro j u hj
  obtain ⟨b, off, e, _, hc⟩ := h j u hj
  simp only [Option.some.injEq] at e
  subst e
  rw [Go.WideShapes.add_plain]
  exact hc
set_option maxHeartbeats 1000000 in
set_option maxRecDepth 100000 in
theorem cloneI_any (l : List Int) (A : Option Addr) (c : Nat) (w : World) (hl : l.length ≤ 1048576) (hA : CRead w w.heap.size A (icells l)) :
    Calls Try.prog 79 #[.slice A l.length c] w fun e w' => ∃ A' c', e = .returned (.slice A' l.length c') ∧ w'.ownsRow w.heap.size 3 1 (.slice A' l.length c') l.length (icells l) ∧ Below w.heap.size w w' := by
  obtain ⟨i0, hi, hz0, hz1, hz2⟩ := info_parts Try.infoInt
  have q22 : ∀ (w : World) (a : Option Addr) (n c n' c' : Nat), (binOp .eql 22 (.slice a n c) (.slice none n' c')).run Try.prog w = .ok (.bool a.isNone) w := fun w a n c n' c' => Lib.run_eql_slice_nil w _ _ a n c n' c' Try.underlying22
  have u22 : ∀ w, Sem.run Try.prog (underlying 22) w = .ok (TypeDesc.slice 3) w := run_underlying Try.underlying22
  cases A with
  | none =>
    have hq : l = [] := by
      cases l with
      | nil => rfl
      | cons x l =>
        obtain ⟨b, off, e, _⟩ := hA 0 _ (by simp [icells]; rfl)
        cases e
    subst hq
    go_enter Try.func79, Try.ntmps79
    go_wp2
    go_ret
    exact ⟨none, 0, rfl, World.ownsRow_nil _ _ _ _, Below.refl _ _⟩
  | some a =>
    have hc := read_add_I hA
    have H : Aside (∀ j u, (icells l)[j]? = some u → w.cell? (a.add j) = some u) := hc
    clear hc hA
    go_enter Try.func79, Try.ntmps79
    go_wp2_with (at_builtin; refine wpList_append_own _ rfl _ _ 22 rfl w.heap.size 3 i0 (.int .i64 0) 1 8 Try.underlying22 hi hz0 hz1 hz2 rfl (by decide) _ _ _ rfl (World.ownsRow_made w #[] 0 (Nat.le_refl _) (Nat.zero_le _) rfl) a l.length c (icells l) rfl ?qc1 ?qc2 ?qc3 ?qc4 ?qc5 ?qc6 ?_)
    case qc1 => rw [icells_length, Nat.mul_one]
    case qc2 =>
      intro j u hj
      exact Lib.cell?_alloc_some _ (H.out j u hj)
    case qc3 => exact icells_one l
    case qc4 => unfold maxLen; omega
    case qc5 => omega
    case qc6 => simp
    intro v' w1 hown hgrow _

    obtain ⟨A1, c1, rfl, _⟩ := own_shape hown
    go_wp2
    go_ret
    exact ⟨A1, c1, rfl, hown, ((Below.refl _ w).alloc (Nat.le_refl _) _).grown hgrow (by simp) (by intro k hk; simp [Value.ownBlock] at hk; omega)⟩
end Go.Proofs.Ythddlpghjkiioaa
/-
  ALL PARTIES OF SOME NUMBERS: the program's recursion ('eachFrom') that stops at the first one, by its contract.
-/
namespace Go.Proofs.Ythddlpghjkiioaa
open Go.RowKit Go.Shelf

/-- nothing has come yet -/
def KeptF (o : Nat) (S : Nat → Prop) (_ : List PL) (W : World) : Prop :=
  (∀ j, S j → o < j ∧ j < W.heap.size) ∧ W.heap[o]? = some (Obj.cells #[.slice none 0 0] 23)
/-- the first one has come: a copy of it is kept -/
def KeptE (B0 o : Nat) (x : PL) (_ : Nat → Prop) (_ : List PL) (W : World) : Prop :=
  ∃ A c, W.heap[o]? = some (Obj.cells #[.slice A x.length c] 23) ∧ W.ownsRow B0 64 2 (.slice A x.length c) x.length (pcells x)
theorem keptF_held (o : Nat) : Held (KeptF o) := by
  rintro T T' pre B C ⟨a1, a2⟩ hap hT'
  have hsz := hap.below.size
  have hlt : o < B.heap.size := (Array.getElem?_eq_some_iff.1 a2).1
  refine ⟨fun j hj => ?_, (hap.same o hlt (fun h => by have := (a1 _ h).1; omega)).trans a2⟩
  rcases hT' j hj with h | h
  · have := a1 j h; omega
  · omega
/-- how a call ends: nothing came; or the first one came, and it ended there -/
def PostF (o B0 : Nat) (S : Nat → Prop) (A : Option Addr) (c : Nat) (told : PL) (L : List PL) (W : World) : Bool → World → Prop
  | true, W' => L = [] ∧ LookYesP (KeptF o) (fun j => j < o) S A c told [] W W'
  | false, W' => ∃ x M, L = x :: M ∧ LookYesP (KeptE B0 o x) (fun j => j < o) S A c told [] W W'
section
variable {o B0 B : Nat} {S S1 S2 : Nat → Prop} {A A' : Option Addr} {c c' : Nat} {l : PL} {L : List PL} {W wr X w1 w2 Y W' : World} {r : Bool}
theorem PostF.before (h : PostF o B0 S A c l L Y r W') (hb : Below W.heap.size W Y) (ho : o < W.heap.size) : PostF o B0 S A c l L W r W' := by
  cases r with
  | true => exact ⟨h.1, LookYesP.before hb (fun j hj => Nat.lt_trans hj ho) h.2⟩
  | false =>
    obtain ⟨x, M, e, h⟩ := h
    exact ⟨x, M, e, LookYesP.before hb (fun j hj => Nat.lt_trans hj ho) h⟩
theorem PostF.left (h : PostF o B0 S A c l L W false W') (M : List PL) : PostF o B0 S A c l (L ++ M) W false W' := by
  obtain ⟨x, K, e, h⟩ := h
  exact ⟨x, K ++ M, by rw [e]; rfl, h⟩
theorem PostF.other (h : PostF o B0 S A c l L W r W') : ∀ j, S j → j < W.heap.size → (Value.slice A l.length c).ownBlock ≠ some j → W'.heap[j]? = W.heap[j]? := by
  cases r with
  | true => exact h.2.other
  | false =>
    obtain ⟨x, M, e, h⟩ := h
    exact h.other
/-- the same call, told of as if another kept thing held before it -/
theorem LookYesP.nextJ {J Jx : (Nat → Prop) → List PL → World → Prop} {R : Nat → Prop} {xs ys : List PL} {x : Int × Int} (h : LookYesP J R S A c l xs W wr) (hA : ∀ k, (Value.slice A l.length c).ownBlock = some k → S k) (hS : ∀ j, S j → B ≤ j) (hR : ∀ j, R j → j < B) (hB : B ≤ W.heap.size)
    (hX : Below wr.heap.size wr X) (g : GrewP X w1 A A' c c' l x) (k1 : ∀ j, S j → S2 j) (k2 : ∀ j, S2 j → S j ∨ W.heap.size ≤ j) (h2 : LookYesP Jx R S2 A' c' (l ++ [x]) ys w1 w2) : LookYesP Jx R S A c l ys W w2 := by
  have h' : LookYesP (fun _ _ _ => True) R S A c l xs W wr := ⟨⟨S, trivial, fun _ h => h, fun _ h => .inl h⟩, h.below, h.ro, h.other, h.told⟩
  have h2' : LookYesP (fun _ _ _ => True) R S2 A' c' (l ++ [x]) ys w1 w2 := ⟨⟨S2, trivial, fun _ h => h, fun _ h => .inl h⟩, h2.below, h2.ro, h2.other, h2.told⟩
  have h3 := h'.next hA hS hR hB hX g k1 k2 h2'
  refine ⟨?_, h3.below, h3.ro, h3.other, h3.told⟩
  obtain ⟨S', hJ, e1, e2⟩ := h2.ex
  have hsz := h.below.size
  have hsX := hX.size
  have hs3 := g.grow.size
  exact ⟨S', hJ, fun j hj => e1 j (k1 j hj), fun j hj => (e2 j hj).elim (k2 j) (fun h => .inr (by omega))⟩
theorem LookYesP.againJ {J Jx : (Nat → Prop) → List PL → World → Prop} {R S' : Nat → Prop} {xs ys : List PL} (h : LookYesP J R S A c l xs W Y) (h1 : ∀ j, S j → S' j) (h3 : ∀ j, S' j → S j ∨ W.heap.size ≤ j) (h2 : LookYesP Jx R S' A c l ys Y W') : LookYesP Jx R S A c l ys W W' := by
  have hs := h.below.size
  obtain ⟨S2, hJ, e1, e2⟩ := h2.ex
  exact ⟨⟨S2, hJ, fun j hj => e1 j (h1 j hj), fun j hj => (e2 j hj).elim (h3 j) (fun h => .inr (by omega))⟩, h.below.trans h2.below, fun j hj => (h2.ro j hj).trans (h.ro j hj), fun j hj hlt hne => (h2.other j (h1 j hj) (by omega) hne).trans (h.other j hj hlt hne), h2.told⟩
theorem PostF.next {x : Int × Int} (h2 : PostF o B0 S2 A' c' (l ++ [x]) L w1 r w2) (h : LookYesP (KeptF o) (fun j => j < o) S A c l [] W wr) (hA : ∀ k, (Value.slice A l.length c).ownBlock = some k → S k) (hS : ∀ j, S j → B ≤ j) (hR : ∀ j, j < o → j < B) (hB : B ≤ W.heap.size)
    (hX : Below wr.heap.size wr X) (g : GrewP X w1 A A' c c' l x) (k1 : ∀ j, S j → S2 j) (k2 : ∀ j, S2 j → S j ∨ W.heap.size ≤ j) : PostF o B0 S A c l L W r w2 := by
  cases r with
  | true => exact ⟨h2.1, h.nextJ hA hS hR hB hX g k1 k2 h2.2⟩
  | false =>
    obtain ⟨y, M, e, h2⟩ := h2
    exact ⟨y, M, e, h.nextJ hA hS hR hB hX g k1 k2 h2⟩
theorem PostF.again {S' : Nat → Prop} (h2 : PostF o B0 S' A c l L Y r W') (h : LookYesP (KeptF o) (fun j => j < o) S A c l [] W Y) (h1 : ∀ j, S j → S' j) (h3 : ∀ j, S' j → S j ∨ W.heap.size ≤ j) : PostF o B0 S A c l L W r W' := by
  cases r with
  | true => exact ⟨h2.1, h.againJ h1 h3 h2.2⟩
  | false =>
    obtain ⟨y, M, e, h2⟩ := h2
    exact ⟨y, M, e, h.againJ h1 h3 h2⟩
end
set_option maxHeartbeats 1000000 in
set_option maxRecDepth 100000 in
theorem firstOne_any (o B0 : Nat) (t : PL) (A : Option Addr) (c : Nat) (S : Nat → Prop) (W : World) (hJ : KeptF o S [] W) (hB : B0 ≤ W.heap.size) (ht : World.toldP W A c t) (hA : ∀ k, (Value.slice A t.length c).ownBlock = some k → S k) (hl : t.length ≤ 1048576) :
    Calls Try.prog 46 #[.slice A t.length c, .pointer (some ⟨o, 0, none⟩)] W fun e W' => e = .returned (.bool false) ∧ KeptE B0 o t S [] W' ∧ Stays (fun j => S j ∨ j < o) W W' := by
  obtain ⟨a1, a2⟩ := hJ
  have lpc : o < W.heap.size := (Array.getElem?_eq_some_iff.1 a2).1
  have hc := cloneP_any t A c W hl (CRead.of_own ht)
  have Hc := Lib.hid hc
  have A1 := Lib.hid a1
  have A2 := Lib.hid a2
  clear a1 a2 hc ht hA
  go_enter Try.func46, Try.ntmps46
  go_wp2_with fail
  refine Hc.out.mono ?_
  rintro e w1 ⟨A', c', rfl, hown, hb1⟩
  have hz1 := hb1.size
  have h1 : w1.heap[o]? = some (Obj.cells #[.slice none 0 0] 23) := (hb1.block o lpc).trans A2.out
  have cc := cell_in h1
  have fcz := frozen_of_row _ _ 0 _ _ h1
  have H1 := Lib.hid h1
  have Hown := Lib.hid hown
  have Hb1 := Lib.hid hb1
  clear h1 hown hb1 Hc
  go_wp2
  go_ret
  refine ⟨rfl, ⟨A', c', box_set H1.out, ?_⟩, ?_⟩
  · refine own_lower (own_ap (S := fun j => j = o) (Hown.out) (Apart.setCell (S := fun j => j = o) (p := ⟨o, 0, none⟩) rfl _) (fun j hj => by subst hj; exact lpc)) hB
  · exact (Stays.of_below Hb1.out).trans (Stays.setCell (p := ⟨o, 0, none⟩) (fun h => h.elim (fun h => by have := (A1.out o h).1; omega) (fun h => by have h2 : o < o := h; omega)) w1 _)
/-- the closure's value -/
abbrev fstV (o : Nat) : Value := .func (.func 46) #[] #[.pointer (some ⟨o, 0, none⟩)]
set_option maxHeartbeats 8000000 in
set_option maxRecDepth 100000 in
theorem eachFirst_any (n : Nat) (hn : n ≤ 7) (o B0 : Nat) :
    ∀ (k : Nat) (l : List Int) (a b : Nat) (told : PL) (A : Option Addr) (c : Nat) (S : Nat → Prop) (W : World), StepN n k a b → l.length = n → FewN l → told.length + k ≤ 60 → B0 ≤ W.heap.size → KeptF o S [] W → World.toldP W A c told → (∀ k, (Value.slice A told.length c).ownBlock = some k → S k) → o < W.heap.size →
    Calls Try.prog 72 #[.agg #[.int .i64 a, .int .i64 b], .int .i64 n, .agg #[.int .i64 (leftF l 0), .int .i64 (leftF l 1), .int .i64 (leftF l 2), .int .i64 (leftF l 3), .int .i64 (leftF l 4), .int .i64 (leftF l 5), .int .i64 (leftF l 6), .int .i64 (leftF l 7), .int .i64 (leftF l 8), .int .i64 (leftF l 9), .int .i64 (leftF l 10), .int .i64 (leftF l 11)], .slice A told.length c, fstV o] W fun e W' => ∃ r, e = .returned (.bool r) ∧ PostF o B0 S A c told (lookN n k l a b told) W r W' := by
  have hnI : (n : Int) ≤ 7 := by omega
  intro k
  induction k with
  | zero =>
    intro l a b told A c S W hs hl hfew h60 hcnt hJ ht hA ho
    have ha := hs.ended
    subst ha
    have ek : lookN a 0 l a b told = [told] := rfl
    rw [ek]
    obtain ⟨X, hX⟩ : ∃ X, (W.alloc (Obj.cells #[.int .i64 a, .int .i64 b] 64)).alloc (Obj.cells #[.int .i64 (leftF l 0), .int .i64 (leftF l 1), .int .i64 (leftF l 2), .int .i64 (leftF l 3), .int .i64 (leftF l 4), .int .i64 (leftF l 5), .int .i64 (leftF l 6), .int .i64 (leftF l 7), .int .i64 (leftF l 8), .int .i64 (leftF l 9), .int .i64 (leftF l 10), .int .i64 (leftF l 11)] 97) = X := ⟨_, rfl⟩
    have kX : Below W.heap.size W X := by rw [← hX]; go_grown
    have sX : X.heap.size = W.heap.size + 2 := by rw [← hX]; simp
    have p0 : X.cell? ⟨W.heap.size, 0, none⟩ = some (.int .i64 a) := by rw [← hX]; exact (World.cell?_alloc_lt _ _ _ (by simp)).trans (by simp)
    have JX : KeptF o S [] X := keptF_held o _ _ _ _ _ hJ (Apart.of_below kX) (fun j hj => .inl hj)
    have hk := firstOne_any o B0 told A c S X JX (by omega) (own_below ht kX (Nat.le_refl _)) hA (by omega)
    have Hk := Lib.hid hk
    have Ht := Lib.hid ht
    have HA := Lib.hid hA
    have HX := Lib.hid hX
    have KX := Lib.hid kX
    have HJ := Lib.hid hJ
    clear hk ht hA hX kX JX hJ hcnt hfew hs
    go_enter Try.func72, Try.ntmps72
    go_upto_region 1 with (fail)
    rw [HX.out]
    go_wp2_with fail
    refine Hk.out.mono ?_
    rintro e W' ⟨rfl, hJ', st⟩
    clear Hk
    go_wp2
    go_ret
    have st2 := (Stays.of_below (S := fun j => S j ∨ j < o) KX.out).trans st
    exact ⟨false, rfl, told, [], rfl, ⟨S, hJ', fun _ h => h, fun _ h => .inl h⟩, st2.below, fun j hj => st2.same j (by have hj' : j < o := hj; omega) (.inr hj), fun j hj hlt _ => st2.same j hlt (.inl hj), toldP_kept Ht.out fun k hk => st2.same k (own_lies Ht.out k hk).2 (.inl (HA.out k hk))⟩
  | succ k ih =>
    intro l a b told A c S W hs hl hfew h60 hcnt hJ ht hA ho
    have h1 := hs.lt
    obtain ⟨X, hX⟩ : ∃ X, (W.alloc (Obj.cells #[.int .i64 a, .int .i64 b] 64)).alloc (Obj.cells #[.int .i64 (leftF l 0), .int .i64 (leftF l 1), .int .i64 (leftF l 2), .int .i64 (leftF l 3), .int .i64 (leftF l 4), .int .i64 (leftF l 5), .int .i64 (leftF l 6), .int .i64 (leftF l 7), .int .i64 (leftF l 8), .int .i64 (leftF l 9), .int .i64 (leftF l 10), .int .i64 (leftF l 11)] 97) = X := ⟨_, rfl⟩
    have kX : Below W.heap.size W X := by rw [← hX]; go_grown
    have sX : X.heap.size = W.heap.size + 2 := by rw [← hX]; simp
    have p0 : X.cell? ⟨W.heap.size, 0, none⟩ = some (.int .i64 a) := by rw [← hX]; exact (World.cell?_alloc_lt _ _ _ (by simp)).trans (by simp)
    have p1 : X.cell? ⟨W.heap.size, 1, none⟩ = some (.int .i64 b) := by rw [← hX]; exact (World.cell?_alloc_lt _ _ _ (by simp)).trans (by simp)
    have rowX : X.rowIs (W.heap.size + 1) 97 12 (fun j => .int .i64 (leftF l j)) := by
      rw [← hX]
      refine ⟨#[.int .i64 (leftF l 0), .int .i64 (leftF l 1), .int .i64 (leftF l 2), .int .i64 (leftF l 3), .int .i64 (leftF l 4), .int .i64 (leftF l 5), .int .i64 (leftF l 6), .int .i64 (leftF l 7), .int .i64 (leftF l 8), .int .i64 (leftF l 9), .int .i64 (leftF l 10), .int .i64 (leftF l 11)], by have h := World.alloc_heap_new (W.alloc (Obj.cells #[.int .i64 a, .int .i64 b] 64)) (Obj.cells #[.int .i64 (leftF l 0), .int .i64 (leftF l 1), .int .i64 (leftF l 2), .int .i64 (leftF l 3), .int .i64 (leftF l 4), .int .i64 (leftF l 5), .int .i64 (leftF l 6), .int .i64 (leftF l 7), .int .i64 (leftF l 8), .int .i64 (leftF l 9), .int .i64 (leftF l 10), .int .i64 (leftF l 11)] 97); simpa only [World.size_alloc] using h, rfl, fun i hi => ?_⟩
      match i, hi with
      | 0, _ | 1, _ | 2, _ | 3, _ | 4, _ | 5, _ | 6, _ | 7, _ | 8, _ | 9, _ | 10, _ | 11, _ => rfl
    obtain ⟨la, hla⟩ : ∃ la, leftF l a = la := ⟨_, rfl⟩
    have hlaD : l.getD a 0 = la := hla
    have ca := rowX.cell (i := a) (by omega)
    rw [hla] at ca
    have hla0 := hfew a
    rw [hlaD] at hla0
    have hai : (a : Int) < n := by omega
    have hai2 : ¬ (n : Int) ≤ (a : Int) := by omega
    have ha12 : (a : Int) < 12 := by omega
    have ha12n : a < 12 := by omega
    have JX : KeptF o S [] X := keptF_held o _ _ _ _ _ hJ (Apart.of_below kX) (fun j hj => .inl hj)
    have start : LookYesP (KeptF o) (fun j => j < o) S A c told [] W X := ⟨⟨S, JX, fun _ h => h, fun _ h => .inl h⟩, kX.mono (Nat.zero_le _), fun j hj => kX.block j (by have hj' : j < o := hj; omega), fun j _ hlt _ => kX.block j hlt, own_below ht kX (Nat.le_refl _)⟩
    have HX := Lib.hid hX
    have KX := Lib.hid kX
    have Start := Lib.hid start
    have HA := Lib.hid hA
    have Ht := Lib.hid ht
    have HJ := Lib.hid hJ
    have IH := Lib.hid ih
    have Hs := Lib.hid hs
    have Hl := Lib.hid hl
    have Hfew := Lib.hid hfew
    have HlaD := Lib.hid hlaD
    have Row := Lib.hid rowX
    clear hX kX start JX hA ht hJ ih hs hl hfew hlaD hla rowX
    by_cases hpr : (n : Int) - b < la
    · have ek : lookN n (k + 1) l a b told = [] := lookN_none n k l a b told Hs.out Hl.out (by rw [HlaD.out]; exact hpr)
      rw [ek]
      clear ek
      go_enter Try.func72, Try.ntmps72
      go_upto_region 1 with (fail)
      rw [HX.out]
      go_wp2_with fail
      go_quiet (fail)
      go_wp2_with fail
      go_ret
      exact ⟨true, rfl, rfl, Start.out.later (B := o + 1) (keptF_held o) (fun j hj => Nat.lt_succ_of_lt hj) (by omega) (show Below X.heap.size X (X.drewN nq) from ⟨rfl, rfl, rfl, Nat.le_refl _, fun _ _ => rfl⟩)⟩
    · by_cases hb : b < n
      · have hbi : (b : Int) < n := by omega
        have hbi2 : ¬ (n : Int) ≤ (b : Int) := by omega
        have hb12 : (b : Int) < 12 := by omega
        have hb12n : b < 12 := by omega
        obtain ⟨lb, hlb⟩ : ∃ lb, leftF l b = lb := ⟨_, rfl⟩
        have hlbD : l.getD b 0 = lb := hlb
        have cb := Row.out.cell (i := b) (by omega)
        rw [hlb] at cb
        have HlbD := Lib.hid hlbD
        obtain ⟨LL, hLL⟩ : ∃ LL, lookN n (k + 1) l a b told = LL := ⟨_, rfl⟩
        rw [hLL]
        have HLL := Lib.hid hLL
        clear hLL hlb
        have hlb0 := Hfew.out b
        rw [hlbD] at hlb0
        clear hlbD
        go_enter Try.func72, Try.ntmps72
        go_upto_region 1 with (fail)
        rw [HX.out]
        go_wp2_with fail
        go_quiet (fail)
        go_upto_region 8 with (fail)
        have eb : ((b + 1 : Nat) : Int) = (b : Int) + 1 := by omega
        obtain ⟨Y, hY⟩ : ∃ Y, (X.drewN nq).alloc (Obj.cells #[Value.int IntKind.i64 (a : Int), Value.int IntKind.i64 ((b : Int) + 1)] 64) = Y := ⟨_, rfl⟩
        have kY : Below X.heap.size X Y := by rw [← hY]; exact (show Below X.heap.size X (X.drewN nq) from ⟨rfl, rfl, rfl, Nat.le_refl _, fun _ _ => rfl⟩).alloc (Nat.le_refl _) _
        have sY : Y.heap.size = X.heap.size + 1 := by rw [← hY]; simp
        have hm : Y.heap[W.heap.size + 2]? = some (Obj.cells #[.int .i64 (a : Int), .int .i64 ((b : Int) + 1)] 64) := by rw [← hY, ← sX]; exact World.alloc_heap_new (X.drewN nq) _
        have m0 : Y.cell? ⟨W.heap.size + 2, 0, none⟩ = some (.int .i64 a) := by rw [cell_of_row _ _ _ _ _ _ hm]; rfl
        have m1 : Y.cell? ⟨W.heap.size + 2, 1, none⟩ = some (.int .i64 ((b : Int) + 1)) := by rw [cell_of_row _ _ _ _ _ _ hm]; rfl
        have kWY : Below W.heap.size W Y := KX.out.trans (kY.mono (by omega))
        have rowY := Row.out.of_block (kY.block _ Row.out.lt)
        have JY := Lib.hid (keptF_held o _ _ _ _ _ HJ.out (Apart.of_below kWY) (fun j hj => .inl hj))
        have ToldY := Lib.hid (own_below Ht.out kWY (Nat.le_refl _))
        have y0 := carry kY p0 (by omega)
        have y1 := carry kY p1 (by omega)
        have ya := carry kY ca (by omega)
        have yb := carry kY cb (by omega)
        have RowY := Lib.hid rowY
        have KWY := Lib.hid kWY
        have KY := Lib.hid kY
        rw [hY]
        have P0 := Lib.hid p0
        have P1 := Lib.hid p1
        clear p0 p1 ca cb kY kWY rowY hY
        by_cases hpa : 0 < la
        · by_cases hpb : 0 < lb
          · skip
            have r0 := RowY.out.cell (i := 0) (by omega)
            have r1 := RowY.out.cell (i := 1) (by omega)
            have r2 := RowY.out.cell (i := 2) (by omega)
            have r3 := RowY.out.cell (i := 3) (by omega)
            have r4 := RowY.out.cell (i := 4) (by omega)
            have r5 := RowY.out.cell (i := 5) (by omega)
            have r6 := RowY.out.cell (i := 6) (by omega)
            have r7 := RowY.out.cell (i := 7) (by omega)
            have r8 := RowY.out.cell (i := 8) (by omega)
            have r9 := RowY.out.cell (i := 9) (by omega)
            have r10 := RowY.out.cell (i := 10) (by omega)
            have r11 := RowY.out.cell (i := 11) (by omega)
            go_upto_region 10 with (fail)
            obtain ⟨Z0, hZ0⟩ : ∃ Z0, Y.alloc (Obj.cells #[.int .i64 (leftF l 0), .int .i64 (leftF l 1), .int .i64 (leftF l 2), .int .i64 (leftF l 3), .int .i64 (leftF l 4), .int .i64 (leftF l 5), .int .i64 (leftF l 6), .int .i64 (leftF l 7), .int .i64 (leftF l 8), .int .i64 (leftF l 9), .int .i64 (leftF l 10), .int .i64 (leftF l 11)] 97) = Z0 := ⟨_, rfl⟩
            have kZ0 : Below Y.heap.size Y Z0 := by rw [← hZ0]; exact (Below.refl _ _).alloc (Nat.le_refl _) _
            have sZ0 : Z0.heap.size = W.heap.size + 2 + 1 + 1 := by rw [← hZ0]; simp; omega
            have row0 : Z0.rowIs (W.heap.size + 2 + 1) 97 12 (fun j => .int .i64 (leftF l j)) := by
              refine ⟨#[.int .i64 (leftF l 0), .int .i64 (leftF l 1), .int .i64 (leftF l 2), .int .i64 (leftF l 3), .int .i64 (leftF l 4), .int .i64 (leftF l 5), .int .i64 (leftF l 6), .int .i64 (leftF l 7), .int .i64 (leftF l 8), .int .i64 (leftF l 9), .int .i64 (leftF l 10), .int .i64 (leftF l 11)], by rw [← hZ0, show W.heap.size + 2 + 1 = Y.heap.size by omega]; exact World.alloc_heap_new Y _, rfl, fun i hi => ?_⟩
              match i, hi with
              | 0, _ | 1, _ | 2, _ | 3, _ | 4, _ | 5, _ | 6, _ | 7, _ | 8, _ | 9, _ | 10, _ | 11, _ => rfl
            have hlaF : leftF l a = la := HlaD.out
            have hlbF : leftF l b = lb := HlbD.out
            have za := row0.cell (i := a) (by omega)
            rw [hlaF] at za
            have zf := row0.frozen a
            have x0 := carry kZ0 y0 (by omega)
            have x1 := carry kZ0 y1 (by omega)
            have x2 := carry kZ0 m0 (by omega)
            have x3 := carry kZ0 m1 (by omega)
            have row1 := row0.set a (.int .i64 (la - 1))
            have hab : a ≠ b := by omega
            obtain ⟨Z1, hZ1⟩ : ∃ Z1, Z0.setCell ⟨W.heap.size + 2 + 1, a, none⟩ (.int .i64 (la - 1)) = Z1 := ⟨_, rfl⟩
            rw [hZ1] at row1
            have kZ1 : Below Y.heap.size Y Z1 := by rw [← hZ1]; exact kZ0.setCell (p := ⟨W.heap.size + 2 + 1, a, none⟩) (by show Y.heap.size ≤ W.heap.size + 2 + 1; omega) _
            have sZ1 : Z1.heap.size = W.heap.size + 2 + 1 + 1 := by rw [← hZ1]; simpa using sZ0
            have wb := row1.cell (i := b) (by omega)
            simp only [if_neg (Ne.symm hab), hlbF] at wb
            have wf := row1.frozen b
            have w0 := carry kZ1 y0 (by omega)
            have w1 := carry kZ1 y1 (by omega)
            have row2 := row1.set b (.int .i64 (lb - 1))
            obtain ⟨Z, hZ⟩ : ∃ Z, Z1.setCell ⟨W.heap.size + 2 + 1, b, none⟩ (.int .i64 (lb - 1)) = Z := ⟨_, rfl⟩
            rw [hZ] at row2
            have kZ : Below Y.heap.size Y Z := by rw [← hZ]; exact kZ1.setCell (p := ⟨W.heap.size + 2 + 1, b, none⟩) (by show Y.heap.size ≤ W.heap.size + 2 + 1; omega) _
            have sZ : Z.heap.size = W.heap.size + 2 + 1 + 1 := by rw [← hZ]; simpa using sZ1
            have rowZ : Z.rowIs (W.heap.size + 2 + 1) 97 12 (fun j => .int .i64 (leftF (lessN l a b) j)) := row2.congr (fun j hj => by
              have h := lessN_at (l := l) h1.1 (by rw [Hl.out]; exact hb) j
              show _ = Value.int .i64 ((lessN l a b).getD j 0)
              rw [h, HlaD.out, HlbD.out]
              by_cases e1 : j = b
              · rw [if_pos e1, if_pos e1]
              · rw [if_neg e1, if_neg e1]
                by_cases e2 : j = a
                · rw [if_pos e2, if_pos e2]
                · rw [if_neg e2, if_neg e2]; rfl)
            have HZ0 := Lib.hid hZ0
            have HZ1 := Lib.hid hZ1
            have HZ := Lib.hid hZ
            clear hZ0 hZ1 hZ row1 row2 row0 r0 r1 r2 r3 r4 r5 r6 r7 r8 r9 r10 r11
            rw [HZ0.out]
            clear y0 y1 ya yb
            have M0 := Lib.hid m0
            have M1 := Lib.hid m1
            have Wb := Lib.hid wb
            have Wf := Lib.hid wf
            have W0 := Lib.hid w0
            have W1 := Lib.hid w1
            clear m0 m1 wb wf w0 w1
            go_upto_region 11 with (fail)
            rw [HZ1.out]
            clear x0 x1 x2 x3 za zf
            have wb := Wb.out
            have wf := Wf.out
            have w0 := W0.out
            have w1 := W1.out
            go_upto_region 12 with (fail)
            rw [HZ.out]
            clear w0 w1 wb wf
            have hrg : Z.rangeAt (W.heap.size + 2 + 1) 0 [.int .i64 (leftF (lessN l a b) 0), .int .i64 (leftF (lessN l a b) 1), .int .i64 (leftF (lessN l a b) 2), .int .i64 (leftF (lessN l a b) 3), .int .i64 (leftF (lessN l a b) 4), .int .i64 (leftF (lessN l a b) 5), .int .i64 (leftF (lessN l a b) 6), .int .i64 (leftF (lessN l a b) 7), .int .i64 (leftF (lessN l a b) 8), .int .i64 (leftF (lessN l a b) 9), .int .i64 (leftF (lessN l a b) 10), .int .i64 (leftF (lessN l a b) 11)] := fun j v hv => by
              have hj : j < 12 := by simpa using (List.getElem?_eq_some_iff.1 hv).1
              have hc := rowZ.cell hj
              rw [Nat.zero_add, hc]
              match j, hj with
              | 0, _ | 1, _ | 2, _ | 3, _ | 4, _ | 5, _ | 6, _ | 7, _ | 8, _ | 9, _ | 10, _ | 11, _ => exact hv
            have hu52 := Try.underlying97
            have hi52 : (Try.prog.info? 97).map (·.size) = some ([.int .i64 (leftF (lessN l a b) 0), .int .i64 (leftF (lessN l a b) 1), .int .i64 (leftF (lessN l a b) 2), .int .i64 (leftF (lessN l a b) 3), .int .i64 (leftF (lessN l a b) 4), .int .i64 (leftF (lessN l a b) 5), .int .i64 (leftF (lessN l a b) 6), .int .i64 (leftF (lessN l a b) 7), .int .i64 (leftF (lessN l a b) 8), .int .i64 (leftF (lessN l a b) 9), .int .i64 (leftF (lessN l a b) 10), .int .i64 (leftF (lessN l a b) 11)] : List Value).length := by kernel_rfl
            have z0 := carry kZ (carry KY.out P0.out (by omega)) (by omega)
            have z1 := carry kZ (carry KY.out P1.out (by omega)) (by omega)
            have z2 := carry kZ M0.out (by omega)
            have z3 := carry kZ M1.out (by omega)
            have kWZ : Below W.heap.size W Z := KWY.out.trans (kZ.mono (by omega))
            have kS : ∀ V : World, Below Z.heap.size Z V → V.cell? ⟨W.heap.size, 0, none⟩ = some (.int .i64 a) ∧ V.cell? ⟨W.heap.size, 1, none⟩ = some (.int .i64 b) ∧ V.cell? ⟨W.heap.size + 2, 0, none⟩ = some (.int .i64 a) ∧ V.cell? ⟨W.heap.size + 2, 1, none⟩ = some (.int .i64 ((b : Int) + 1)) ∧ V.rangeAt (W.heap.size + 2 + 1) 0 [.int .i64 (leftF (lessN l a b) 0), .int .i64 (leftF (lessN l a b) 1), .int .i64 (leftF (lessN l a b) 2), .int .i64 (leftF (lessN l a b) 3), .int .i64 (leftF (lessN l a b) 4), .int .i64 (leftF (lessN l a b) 5), .int .i64 (leftF (lessN l a b) 6), .int .i64 (leftF (lessN l a b) 7), .int .i64 (leftF (lessN l a b) 8), .int .i64 (leftF (lessN l a b) 9), .int .i64 (leftF (lessN l a b) 10), .int .i64 (leftF (lessN l a b) 11)] := fun V h => ⟨carry h z0 (by omega), carry h z1 (by omega), carry h z2 (by omega), carry h z3 (by omega), rangeAt_eq hrg (h.block _ (by omega))⟩
            have lies : Lies (.slice A told.length c) 0 W.heap.size := own_lies Ht.out
            have kG : ∀ V V' : World, Below Z.heap.size Z V → V.grownBy V' (Value.slice A told.length c).ownBlock → V'.cell? ⟨W.heap.size, 0, none⟩ = some (.int .i64 a) ∧ V'.cell? ⟨W.heap.size, 1, none⟩ = some (.int .i64 b) ∧ V'.cell? ⟨W.heap.size + 2, 0, none⟩ = some (.int .i64 a) ∧ V'.cell? ⟨W.heap.size + 2, 1, none⟩ = some (.int .i64 ((b : Int) + 1)) ∧ V'.rangeAt (W.heap.size + 2 + 1) 0 [.int .i64 (leftF (lessN l a b) 0), .int .i64 (leftF (lessN l a b) 1), .int .i64 (leftF (lessN l a b) 2), .int .i64 (leftF (lessN l a b) 3), .int .i64 (leftF (lessN l a b) 4), .int .i64 (leftF (lessN l a b) 5), .int .i64 (leftF (lessN l a b) 6), .int .i64 (leftF (lessN l a b) 7), .int .i64 (leftF (lessN l a b) 8), .int .i64 (leftF (lessN l a b) 9), .int .i64 (leftF (lessN l a b) 10), .int .i64 (leftF (lessN l a b) 11)] := fun V V' h g => by
              obtain ⟨z0, z1, z2, z3, hrv⟩ := kS V h
              have hsv := h.size
              exact ⟨carryG g lies z0 (by omega), carryG g lies z1 (by omega), carryG g lies z2 (by omega), carryG g lies z3 (by omega), rangeAt_eq hrv (g.block _ (by omega) (fun e => by have := (lies _ e.symm).2; omega))⟩
            have kW : ∀ V : World, (∀ j, W.heap.size ≤ j → j < Z.heap.size → V.heap[j]? = Z.heap[j]?) → V.cell? ⟨W.heap.size, 0, none⟩ = some (.int .i64 a) ∧ V.cell? ⟨W.heap.size, 1, none⟩ = some (.int .i64 b) ∧ V.cell? ⟨W.heap.size + 2, 0, none⟩ = some (.int .i64 a) ∧ V.cell? ⟨W.heap.size + 2, 1, none⟩ = some (.int .i64 ((b : Int) + 1)) ∧ V.rangeAt (W.heap.size + 2 + 1) 0 [.int .i64 (leftF (lessN l a b) 0), .int .i64 (leftF (lessN l a b) 1), .int .i64 (leftF (lessN l a b) 2), .int .i64 (leftF (lessN l a b) 3), .int .i64 (leftF (lessN l a b) 4), .int .i64 (leftF (lessN l a b) 5), .int .i64 (leftF (lessN l a b) 6), .int .i64 (leftF (lessN l a b) 7), .int .i64 (leftF (lessN l a b) 8), .int .i64 (leftF (lessN l a b) 9), .int .i64 (leftF (lessN l a b) 10), .int .i64 (leftF (lessN l a b) 11)] := fun V h => ⟨(World.cell?_of_block (w := Z) (a := ⟨W.heap.size, 0, none⟩) (h (W.heap.size) (by omega) (by omega))).trans z0, (World.cell?_of_block (w := Z) (a := ⟨W.heap.size, 1, none⟩) (h (W.heap.size) (by omega) (by omega))).trans z1, (World.cell?_of_block (w := Z) (a := ⟨W.heap.size + 2, 0, none⟩) (h (W.heap.size + 2) (by omega) (by omega))).trans z2, (World.cell?_of_block (w := Z) (a := ⟨W.heap.size + 2, 1, none⟩) (h (W.heap.size + 2) (by omega) (by omega))).trans z3, rangeAt_eq hrg (h (W.heap.size + 2 + 1) (by omega) (by omega))⟩
            have kD : Below Z.heap.size Z Z.drew := (Below.refl _ _).drew
            have g1 : Below Z.heap.size Z (Z.drew.alloc (Obj.cells #[.int .i64 a, .int .i64 b] 64)) := kD.alloc (Nat.le_refl _) _
            have toldZ : World.toldP (Z.drew.alloc (Obj.cells #[.int .i64 a, .int .i64 b] 64)) A c told := own_below Ht.out (kWZ.trans (g1.mono (by omega))) (Nat.le_refl _)
            have Tz := Lib.hid toldZ
            have hnn : (Z.drew.alloc (Obj.cells #[.int .i64 a, .int .i64 b] 64)).heap[W.heap.size + 2 + 1 + 1]? = some (Obj.cells #[.int .i64 a, .int .i64 b] 64) := by rw [← sZ]; exact World.alloc_heap_new Z.drew _
            have n0 : (Z.drew.alloc (Obj.cells #[.int .i64 a, .int .i64 b] 64)).cell? ⟨W.heap.size + 2 + 1 + 1, 0, none⟩ = some (.int .i64 a) := by rw [cell_of_row _ _ _ _ _ _ hnn]; rfl
            have n1 : (Z.drew.alloc (Obj.cells #[.int .i64 a, .int .i64 b] 64)).cell? ⟨W.heap.size + 2 + 1 + 1, 1, none⟩ = some (.int .i64 b) := by rw [cell_of_row _ _ _ _ _ _ hnn]; rfl
            have hyes : LookYesP (KeptF o) (fun j => j < o) S A c told [] W Z := ⟨⟨S, keptF_held o _ _ _ _ _ HJ.out (Apart.of_below kWZ) (fun j hj => .inl hj), fun _ h => h, fun _ h => .inl h⟩, kWZ.mono (Nat.zero_le _), fun j hj => kWZ.block j (by have hj' : j < o := hj; omega), fun j _ hlt _ => kWZ.block j hlt, own_below Ht.out kWZ (Nat.le_refl _)⟩
            have Hyes := Lib.hid hyes
            have KZ := Lib.hid kZ
            clear toldZ hyes kZ
            have hhi : ∀ j, S j → o + 1 ≤ j := fun j hj => (HJ.out.1 j hj).1
            obtain ⟨L1, hL1⟩ : ∃ L1, lookN n k (lessN l a b) a (b + 1) (told ++ [((a : Int), (b : Int))]) = L1 := ⟨_, rfl⟩
            have callC : ∀ (A1 : Option Addr) (c1 : Nat) (w4 : World), GrewP (Z.drew.alloc (Obj.cells #[.int .i64 a, .int .i64 b] 64)) w4 A A1 c c1 told ((a : Int), (b : Int)) →
                Calls Try.prog 72 #[.agg #[.int .i64 a, .int .i64 ((b : Int) + 1)], .int .i64 n, .agg #[.int .i64 (leftF (lessN l a b) 0), .int .i64 (leftF (lessN l a b) 1), .int .i64 (leftF (lessN l a b) 2), .int .i64 (leftF (lessN l a b) 3), .int .i64 (leftF (lessN l a b) 4), .int .i64 (leftF (lessN l a b) 5), .int .i64 (leftF (lessN l a b) 6), .int .i64 (leftF (lessN l a b) 7), .int .i64 (leftF (lessN l a b) 8), .int .i64 (leftF (lessN l a b) 9), .int .i64 (leftF (lessN l a b) 10), .int .i64 (leftF (lessN l a b) 11)], .slice A1 (told.length + 1) c1, fstV o] w4 fun e w5 => ∃ r, e = .returned (.bool r) ∧ PostF o B0 S A c told L1 W r w5 ∧ ∀ j, W.heap.size ≤ j → j < Z.heap.size → w5.heap[j]? = Z.heap[j]? := by
              intro A1 c1 w4 G1
              have s4 := G1.grow.size
              simp only [World.size_alloc] at s4
              have sD : Z.drew.heap.size = Z.heap.size := rfl
              have bA : ∀ j, (Value.slice A told.length c).ownBlock = some j → j < W.heap.size := fun j hj => (lies j hj).2
              have hll : (told ++ [((a : Int), (b : Int))]).length = told.length + 1 := by simp
              have hJ4 : KeptF o (fun j => S j ∨ (W.heap.size ≤ j ∧ j < w4.heap.size)) [] w4 := by
                refine ⟨fun j hj => ?_, ?_⟩
                · rcases hj with h | h
                  · have := HJ.out.1 j h; omega
                  · omega
                · rw [G1.grow.block o (by simp only [World.size_alloc]; omega) (fun e => by have := hhi o (HA.out o e.symm); omega), g1.block o (by omega), kWZ.block o ho]
                  exact HJ.out.2
              have e4 : ∀ j, (Value.slice A1 (told ++ [((a : Int), (b : Int))]).length c1).ownBlock = some j → S j ∨ (W.heap.size ≤ j ∧ j < w4.heap.size) := by
                intro j hj
                rcases G1.same with ⟨rfl, rfl, _⟩ | ⟨_, g, rfl, hg⟩
                · exact .inl (HA.out j (by
                    cases hA' : A1 with
                    | none => rw [hA'] at hj; simp [Value.ownBlock] at hj
                    | some x => rw [hA'] at hj; exact hj))
                · have hlt := (own_lt G1.new).2
                  have : g = j := by simpa [Value.ownBlock] using hj
                  subst this
                  simp only [World.size_alloc] at hg
                  exact .inr ⟨by omega, hlt⟩
              have ihc := IH.out (lessN l a b) a (b + 1) (told ++ [((a : Int), (b : Int))]) A1 c1 (fun j => S j ∨ (W.heap.size ≤ j ∧ j < w4.heap.size)) w4 (Hs.out.more hb) (by rw [lessN_len]; exact Hl.out) (Hfew.out.less h1.1 (by rw [Hl.out]; exact hb) (by rw [HlaD.out]; exact hpa) (by rw [HlbD.out]; exact hpb)) (by rw [hll]; omega) (by omega) hJ4 G1.new e4 (by omega)
              rw [hL1, hll, eb] at ihc
              refine ihc.mono ?_
              rintro e w5 ⟨r, rfl, h2⟩
              refine ⟨r, rfl, h2.next (B := o + 1) Hyes.out HA.out hhi (fun j hj => Nat.lt_succ_of_lt hj) (by omega) g1 G1 (fun j hj => .inl hj) (fun j hj => hj.elim .inl (fun h => .inr h.1)), fun j hj1 hj2 => ?_⟩
              rw [h2.other j (.inr ⟨hj1, by omega⟩) (by omega) ?_, G1.grow.block j (by simp only [World.size_alloc]; omega) (fun e => by have := bA j e.symm; omega), g1.block j hj2]
              intro hj
              rcases G1.same with ⟨rfl, rfl, _⟩ | ⟨_, g, rfl, hg⟩
              · have := bA j (by
                  cases hA' : A1 with
                  | none => rw [hA'] at hj; simp [Value.ownBlock] at hj
                  | some x => rw [hA'] at hj; exact hj)
                omega
              · have : g = j := by simpa [Value.ownBlock] using hj
                simp only [World.size_alloc] at hg
                omega
            have CallC := Lib.hid callC
            have HL1 := Lib.hid hL1
            have Hhi := Lib.hid hhi
            have RZ := Lib.hid rowZ
            clear callC hL1 hhi rowZ
            go_region_held_law (fun w' => w'.cell? ⟨W.heap.size, 0, none⟩ = some (.int .i64 a) ∧ w'.cell? ⟨W.heap.size, 1, none⟩ = some (.int .i64 b) ∧ w'.cell? ⟨W.heap.size + 2, 0, none⟩ = some (.int .i64 a) ∧ w'.cell? ⟨W.heap.size + 2, 1, none⟩ = some (.int .i64 ((b : Int) + 1)) ∧ w'.rangeAt (W.heap.size + 2 + 1) 0 [.int .i64 (leftF (lessN l a b) 0), .int .i64 (leftF (lessN l a b) 1), .int .i64 (leftF (lessN l a b) 2), .int .i64 (leftF (lessN l a b) 3), .int .i64 (leftF (lessN l a b) 4), .int .i64 (leftF (lessN l a b) 5), .int .i64 (leftF (lessN l a b) 6), .int .i64 (leftF (lessN l a b) 7), .int .i64 (leftF (lessN l a b) 8), .int .i64 (leftF (lessN l a b) 9), .int .i64 (leftF (lessN l a b) 10), .int .i64 (leftF (lessN l a b) 11)]) (first | exact kW _ hbx | exact kG _ _ g1 G1.grow | exact kS _ kD | exact kS _ g1) ((first
              | (refine step_append_toldP (by rfl) _ _ (by rfl) A c told a b (by rfl) Tz.out ⟨W.heap.size + 2 + 1 + 1, 0, none⟩ (by rfl) (two_cellsB n0 n1) (by omega) ?_; intro A1 c1 w4 G1)
              | (go_at_call 72; go_loud (refine (CallC.out A1 c1 w4 G1).mono ?_; rintro e w5 ⟨r, rfl, hL, hbx⟩))
              | fail))
            all_goals
              rcases r with _ | _
              · clear hbx CallC
                go_wp2
                go_ret
                exact ⟨false, rfl, by rw [← HLL.out, lookN_take hb ⟨by rw [HlaD.out]; exact hpa, by rw [HlbD.out]; exact hpb⟩, HL1.out]; exact hL.left _⟩
              · skip
                have bx : ∀ j, W.heap.size ≤ j → j < Y.heap.size → w5.heap[j]? = Y.heap[j]? := fun j j1 j2 => (hbx j j1 (by omega)).trans (KZ.out.block j j2)
                have m0 : w5.cell? ⟨W.heap.size + 2, 0, none⟩ = some (.int .i64 a) := (World.cell?_of_block (w := Y) (a := ⟨W.heap.size + 2, 0, none⟩) (bx (W.heap.size + 2) (by omega) (by omega))).trans M0.out
                have m1 : w5.cell? ⟨W.heap.size + 2, 1, none⟩ = some (.int .i64 ((b : Int) + 1)) := (World.cell?_of_block (w := Y) (a := ⟨W.heap.size + 2, 1, none⟩) (bx (W.heap.size + 2) (by omega) (by omega))).trans M1.out
                have row5 := RowY.out.of_block (bx (W.heap.size + 1) (by omega) (by omega))
                have r0 := row5.cell (i := 0) (by omega)
                have r1 := row5.cell (i := 1) (by omega)
                have r2 := row5.cell (i := 2) (by omega)
                have r3 := row5.cell (i := 3) (by omega)
                have r4 := row5.cell (i := 4) (by omega)
                have r5 := row5.cell (i := 5) (by omega)
                have r6 := row5.cell (i := 6) (by omega)
                have r7 := row5.cell (i := 7) (by omega)
                have r8 := row5.cell (i := 8) (by omega)
                have r9 := row5.cell (i := 9) (by omega)
                have r10 := row5.cell (i := 10) (by omega)
                have r11 := row5.cell (i := 11) (by omega)
                obtain ⟨hLn, hL⟩ := hL
                obtain ⟨S', hJ5, e1, e2⟩ := hL.ex
                have ihd := IH.out l a (b + 1) told A c S' w5 (Hs.out.more hb) Hl.out Hfew.out (by omega) (by have := hL.below.size; omega) hJ5 hL.told (fun j hj => e1 j (HA.out j hj)) (by have := hL.below.size; omega)
                rw [eb] at ihd
                have IHD := Lib.hid ihd
                have HLm := Lib.hid hL
                have E1 := Lib.hid e1
                have E2 := Lib.hid e2
                clear ihd hL e1 e2 hJ5 row5 bx hbx CallC
                go_wp2_with fail
                refine IHD.out.mono ?_
                rintro e w9 ⟨r, rfl, h9⟩
                have fin := h9.again HLm.out E1.out E2.out
                clear IHD h9 HLm
                go_wp2
                go_ret
                exact ⟨_, rfl, by rw [← HLL.out, lookN_take hb ⟨by rw [HlaD.out]; exact hpa, by rw [HlbD.out]; exact hpb⟩, HL1.out, hLn, List.nil_append]; exact fin⟩
          · have hno : ¬ (0 < l.getD a 0 ∧ 0 < l.getD b 0) := by rw [HlaD.out, HlbD.out]; exact fun h => hpb h.2
            have ihc := IH.out l a (b + 1) told A c S Y (Hs.out.more hb) Hl.out Hfew.out (by omega) (by omega) JY.out ToldY.out HA.out (by omega)
            rw [eb] at ihc
            have IHC := Lib.hid ihc
            clear ihc
            have r0 := RowY.out.cell (i := 0) (by omega)
            have r1 := RowY.out.cell (i := 1) (by omega)
            have r2 := RowY.out.cell (i := 2) (by omega)
            have r3 := RowY.out.cell (i := 3) (by omega)
            have r4 := RowY.out.cell (i := 4) (by omega)
            have r5 := RowY.out.cell (i := 5) (by omega)
            have r6 := RowY.out.cell (i := 6) (by omega)
            have r7 := RowY.out.cell (i := 7) (by omega)
            have r8 := RowY.out.cell (i := 8) (by omega)
            have r9 := RowY.out.cell (i := 9) (by omega)
            have r10 := RowY.out.cell (i := 10) (by omega)
            have r11 := RowY.out.cell (i := 11) (by omega)
            go_wp2_with fail
            refine IHC.out.mono ?_
            rintro e w' ⟨r, rfl, hL⟩
            have fin := hL.before KWY.out (by omega)
            clear hL IHC r0 r1 r2 r3 r4 r5 r6 r7 r8 r9 r10 r11
            go_wp2
            go_ret
            exact ⟨_, rfl, by rw [← HLL.out, lookN_not hb hno]; exact fin⟩
        · have hno : ¬ (0 < l.getD a 0 ∧ 0 < l.getD b 0) := by rw [HlaD.out, HlbD.out]; exact fun h => hpa h.1
          have ihc := IH.out l a (b + 1) told A c S Y (Hs.out.more hb) Hl.out Hfew.out (by omega) (by omega) JY.out ToldY.out HA.out (by omega)
          rw [eb] at ihc
          have IHC := Lib.hid ihc
          clear ihc
          have r0 := RowY.out.cell (i := 0) (by omega)
          have r1 := RowY.out.cell (i := 1) (by omega)
          have r2 := RowY.out.cell (i := 2) (by omega)
          have r3 := RowY.out.cell (i := 3) (by omega)
          have r4 := RowY.out.cell (i := 4) (by omega)
          have r5 := RowY.out.cell (i := 5) (by omega)
          have r6 := RowY.out.cell (i := 6) (by omega)
          have r7 := RowY.out.cell (i := 7) (by omega)
          have r8 := RowY.out.cell (i := 8) (by omega)
          have r9 := RowY.out.cell (i := 9) (by omega)
          have r10 := RowY.out.cell (i := 10) (by omega)
          have r11 := RowY.out.cell (i := 11) (by omega)
          go_wp2_with fail
          refine IHC.out.mono ?_
          rintro e w' ⟨r, rfl, hL⟩
          have fin := hL.before KWY.out (by omega)
          clear hL IHC r0 r1 r2 r3 r4 r5 r6 r7 r8 r9 r10 r11
          go_wp2
          go_ret
          exact ⟨_, rfl, by rw [← HLL.out, lookN_not hb hno]; exact fin⟩
      · have hbn : ¬ (b : Int) < n := by omega
        have hbi2 : (n : Int) ≤ (b : Int) := by omega
        have hla00 : la = 0 := by omega
        have ek : lookN n (k + 1) l a b told = lookN n k l (a + 1) (a + 2) told := by rw [lookN_end hb, if_pos (by rw [HlaD.out]; exact hla00)]
        have ea : ((a + 1 : Nat) : Int) = (a : Int) + 1 := by omega
        have ea2 : ((a + 2 : Nat) : Int) = (a : Int) + 2 := by omega
        have ihAll := fun (Y : World) (hY : Below W.heap.size W Y) => IH.out l (a + 1) (a + 2) told A c S Y (Hs.out.next hb) Hl.out Hfew.out (by omega) (by have := hY.size; omega) (keptF_held o _ _ _ _ _ HJ.out (Apart.of_below hY) (fun j hj => .inl hj)) (own_below Ht.out hY (Nat.le_refl _)) HA.out (by have := hY.size; omega)
        rw [ea, ea2] at ihAll
        rw [ek]
        have IHA := Lib.hid ihAll
        clear ihAll ek ea ea2
        have r0 := Row.out.cell (i := 0) (by omega)
        have r1 := Row.out.cell (i := 1) (by omega)
        have r2 := Row.out.cell (i := 2) (by omega)
        have r3 := Row.out.cell (i := 3) (by omega)
        have r4 := Row.out.cell (i := 4) (by omega)
        have r5 := Row.out.cell (i := 5) (by omega)
        have r6 := Row.out.cell (i := 6) (by omega)
        have r7 := Row.out.cell (i := 7) (by omega)
        have r8 := Row.out.cell (i := 8) (by omega)
        have r9 := Row.out.cell (i := 9) (by omega)
        have r10 := Row.out.cell (i := 10) (by omega)
        have r11 := Row.out.cell (i := 11) (by omega)
        go_enter Try.func72, Try.ntmps72
        go_upto_region 1 with (fail)
        rw [HX.out]
        go_wp2_with fail
        go_quiet (fail)
        have kN : Below W.heap.size W (X.drewN nq) := KX.out.trans (show Below W.heap.size X (X.drewN nq) from ⟨rfl, rfl, rfl, Nat.le_refl _, fun _ _ => rfl⟩)
        go_wp2_with fail
        refine (IHA.out _ kN).mono ?_
        rintro e w' ⟨r, rfl, hL⟩
        have fin := hL.before kN (by omega)
        clear hL IHA r0 r1 r2 r3 r4 r5 r6 r7 r8 r9 r10 r11
        go_wp2
        go_ret
        exact ⟨_, rfl, fin⟩
end Go.Proofs.Ythddlpghjkiioaa
/-
  ALL PARTIES OF SOME NUMBERS: the model's recursion ('deLook'), by its contract.
-/
namespace Go.Proofs.Ythddlpghjkiioaa
open Go.RowKit

/-- the count and the first one -/
structure CntAt (w : World) (pc pf : Nat) (cnt : Nat) (fst : PL) (B : Nat) (FA : Option Addr) (fc : Nat) : Prop where
  cntc : w.heap[pc]? = some (Obj.cells #[.int .i64 cnt] 3)
  fstc : w.heap[pf]? = some (Obj.cells #[.slice FA fst.length fc] 23)
  row : w.ownsRow B 64 2 (.slice FA fst.length fc) fst.length (pcells fst)
section
variable {w w' : World} {pc pf cnt : Nat} {fst : PL} {B : Nat} {FA : Option Addr} {fc : Nat}
theorem CntAt.below (h : CntAt w pc pf cnt fst B FA fc) (hb : Below w.heap.size w w') : CntAt w' pc pf cnt fst B FA fc :=
  ⟨(hb.block _ (Array.getElem?_eq_some_iff.1 h.cntc).1).trans h.cntc, (hb.block _ (Array.getElem?_eq_some_iff.1 h.fstc).1).trans h.fstc, own_below h.row hb (Nat.le_refl _)⟩
theorem CntAt.counted (h : CntAt w pc pf cnt fst B FA fc) (h3 : pc ≠ pf) (hB : pc < B) : CntAt (w.setCell ⟨pc, 0, none⟩ (.int .i64 ((cnt : Int) + 1))) pc pf (cnt + 1) fst B FA fc :=
  ⟨by rw [box_set h.cntc]; rfl, (Below.heap_setCell _ _ _ _ (Ne.symm h3)).trans h.fstc, own_ap h.row (Apart.setCell (S := fun j => j = pc) rfl _) (fun j hj => by omega)⟩
theorem CntAt.firsts (h : CntAt w pc pf cnt fst B FA fc) (h3 : pc ≠ pf) (hB : pf < B) {l : PL} {A2 : Option Addr} {c2 : Nat} (ho : w.ownsRow B 64 2 (.slice A2 l.length c2) l.length (pcells l)) :
    CntAt (w.setCell ⟨pf, 0, none⟩ (.slice A2 l.length c2)) pc pf cnt l B A2 c2 :=
  ⟨(Below.heap_setCell _ _ _ _ h3).trans h.cntc, by rw [box_set h.fstc], own_ap ho (Apart.setCell (S := fun j => j = pf) rfl _) (fun j hj => by omega)⟩
end
/-- what a call of the recursion leaves -/
def LookD (pc pf cnt : Nat) (fst : PL) (B : Nat) (L : List PL) (w w' : World) : Prop :=
  Apart (fun j => j = pc ∨ j = pf) w w' ∧ ∃ FA' fc', CntAt w' pc pf (cnt + L.length) (fstN fst cnt L) B FA' fc'
set_option maxHeartbeats 8000000 in
set_option maxRecDepth 100000 in
theorem deLook_told (n a b : Nat) (hn : n ≤ 7) (ha : a + 1 = n) (pc pf B : Nat) (hcf : pc ≠ pf) (hcB : pc < B) (hfB : pf < B)
    (g cl : Nat) (told : PL) (A : Option Addr) (c cnt : Nat) (fst : PL) (FA : Option Addr) (fc : Nat) (w : World) (h100 : told.length ≤ 100) (hcnt : cnt + 1 ≤ 2 ^ 60) (hBw : B ≤ w.heap.size) (hcell : w.cell? ⟨g, a, none⟩ = some (.int .i64 0))
    (hP : CntAt w pc pf cnt fst B FA fc) (own : w.ownsRow B 64 2 (.slice A told.length c) told.length (pcells told)) :
    Calls Try.prog 69 #[.int .i64 n, .slice (some ⟨g, 0, none⟩) n cl, .int .i64 a, .int .i64 b, .slice A told.length c, .pointer (some ⟨pc, 0, none⟩), .pointer (some ⟨pf, 0, none⟩)] w fun e w' =>
      e = .returned (.tuple #[]) ∧ LookD pc pf cnt fst B [told] w w' := by
  obtain ⟨i0, hi, hz0, hz1, hz2⟩ := info_parts Try.infoPair
  unfold LookD
  have hfirst : fstN fst cnt [told] = if cnt = 0 then told else fst := rfl
  rw [hfirst]
  simp only [List.length_cons, List.length_nil, Nat.zero_add]
  obtain ⟨F, hF⟩ : ∃ F, (if cnt = 0 then told else fst) = F := ⟨_, rfl⟩
  rw [hF]
  have HF := Lib.hid hF
  have lpc : pc < w.heap.size := by omega
  have lpf : pf < w.heap.size := by omega
  have HP := Lib.hid hP
  have Own := Lib.hid own
  have cc := cell_in hP.cntc
  have fcz := frozen_of_row _ _ 0 _ _ hP.cntc
  have hp60 : (2 : Nat) ^ 60 = 1152921504606846976 := by decide
  have hai : (a : Int) < n := by omega
  have ha1 : ((a : Int) == (n : Int) - 1) = true := by simp; omega
  have hn0 : ((n : Int) == 0) = false := by simp; omega
  clear hP own hfirst hF ha
  by_cases hc0 : cnt = 0
  · subst hc0
    have hFt : told = F := by rw [← HF.out, if_pos rfl]
    subst hFt
    rcases own_none2 Own.out with ⟨rfl, h0, rfl⟩ | ⟨gg, rfl⟩
    · have ht : told = [] := List.eq_nil_of_length_eq_zero h0
      subst ht
      have h1 : (w.alloc (.cells #[] 64)).ownsRow w.heap.size 64 2 (.slice (some ⟨w.heap.size, 0, none⟩) 0 0) 0 [] := World.ownsRow_made w #[] 0 (Nat.le_refl _) (Nat.zero_le _) rfl
      have kX : Below w.heap.size w (w.alloc (.cells #[] 64)) := by go_grown
      have P1 := (HP.out.below kX).firsts hcf hfB (l := []) (own_lower h1 hBw)
      have P2 := P1.counted hcf hcB
      have x1 := cell_in P1.cntc
      have x2 := frozen_of_row _ _ 0 _ _ P1.cntc
      have x3 := cell_in (HP.out.below kX).fstc
      have x4 := frozen_of_row _ _ 0 _ _ (HP.out.below kX).fstc
      have lpc2 : pc < (w.setCell ⟨pf, 0, none⟩ (.slice (some ⟨w.heap.size, 0, none⟩) 0 0)).heap.size := by simp; omega
      have ap := ((Apart.of_below (S := fun j => j = pc ∨ j = pf) kX).trans (Apart.setCell (S := fun j => j = pc ∨ j = pf) (p := ⟨pf, 0, none⟩) (.inr rfl) (.slice (some ⟨w.heap.size, 0, none⟩) 0 0)) (fun j hj => .inl hj)).trans (Apart.setCell (S := fun j => j = pc ∨ j = pf) (p := ⟨pc, 0, none⟩) (.inl rfl) (.int .i64 (((0 : Nat) : Int) + 1))) (fun j hj => .inl hj)
      have e1 := World.setCell_alloc_past (w := w) (.cells #[] 64) pf 0 (.slice (some ⟨w.heap.size, 0, none⟩) 0 0) lpf
      have e2 := World.setCell_alloc_past (w := w.setCell ⟨pf, 0, none⟩ (.slice (some ⟨w.heap.size, 0, none⟩) 0 0)) (.cells #[] 64) pc 0 (.int .i64 (((0 : Nat) : Int) + 1)) lpc2
      have e3 : ([] : PL).length = 0 := rfl
      rw [e3, e1, e2] at P2
      rw [e1, e2] at ap
      have HP2 := Lib.hid P2
      have Ap := Lib.hid ap
      clear P1 P2 ap e1 e2 e3 lpc2
      go_enter Try.func69, Try.ntmps69
      go_wp2_with (at_builtin; refine wpList_append_own_none rfl _ _ 23 rfl w.heap.size 64 i0 2 Try.underlying23 hi _ _ _ rfl h1 rfl ?_)
      refine show _ = [] ∧ _ from ⟨rfl, .tuple #[], by simp [results, Try.results69, go_sem], ?_⟩
      exact ⟨rfl, Ap.out, _, _, HP2.out⟩
    · have h1 : (w.alloc (.cells #[] 64)).ownsRow w.heap.size 64 2 (.slice (some ⟨w.heap.size, 0, none⟩) 0 0) 0 [] := World.ownsRow_made w #[] 0 (Nat.le_refl _) (Nat.zero_le _) rfl
      have kX : Below w.heap.size w (w.alloc (.cells #[] 64)) := by go_grown
      have rdX : CRead (w.alloc (.cells #[] 64)) (w.alloc (.cells #[] 64)).heap.size (some ⟨gg, 0, none⟩) (pcells told) := (CRead.of_own Own.out).below kX (Nat.le_refl _) |>.more kX.size
      go_enter Try.func69, Try.ntmps69
      go_wp2_with (at_builtin; refine wpList_append_own _ rfl _ _ 23 rfl w.heap.size 64 i0 _ 2 16 Try.underlying23 hi hz0 hz1 hz2 rfl (by decide) (.slice (some ⟨w.heap.size, 0, none⟩) 0 0) 0 [] rfl h1 ⟨gg, 0, none⟩ told.length c (pcells told) rfl (pcells_length told) (read_add_P rdX) (pcells_one _) (by unfold maxLen; omega) (by omega) (by simp) ?_; intro v1 w1 own1 gr1 _; have k1 : Below w.heap.size w w1 := kX.grown gr1 (by simp) (by intro m hm; simp [Value.ownBlock] at hm; omega); obtain ⟨A1, c1, rfl, _⟩ := own_shape own1; simp only [Nat.zero_add, List.nil_append] at own1; have P0 := HP.out.below k1; have x3 := cell_in P0.fstc; have x4 := frozen_of_row _ _ 0 _ _ P0.fstc; have P1 := P0.firsts hcf hfB (own_lower own1 hBw); have x1 := cell_in P1.cntc; have x2 := frozen_of_row _ _ 0 _ _ P1.cntc; have HP2 := Lib.hid (P1.counted hcf hcB); have HK1 := Lib.hid k1; clear P0 P1 own1 gr1 k1)
      refine show _ = [] ∧ _ from ⟨rfl, .tuple #[], by simp [results, Try.results69, go_sem], ?_⟩
      refine ⟨rfl, ?_, _, _, HP2.out⟩
      exact ((Apart.of_below (S := fun j => j = pc ∨ j = pf) HK1.out).trans (Apart.setCell (S := fun j => j = pc ∨ j = pf) (p := ⟨pf, 0, none⟩) (.inr rfl) _) (fun j hj => .inl hj)).trans (Apart.setCell (S := fun j => j = pc ∨ j = pf) (p := ⟨pc, 0, none⟩) (.inl rfl) _) (fun j hj => .inl hj)
  · have hcb : ((cnt : Int) == 0) = false := by simp; omega
    have hFt : fst = F := by rw [← HF.out, if_neg hc0]
    subst hFt
    have HP2 := Lib.hid (HP.out.counted hcf hcB)
    go_enter Try.func69, Try.ntmps69
    go_wp2
    refine show _ = [] ∧ _ from ⟨rfl, .tuple #[], by simp [results, Try.results69, go_sem], ?_⟩
    exact ⟨rfl, Apart.setCell (S := fun j => j = pc ∨ j = pf) (p := ⟨pc, 0, none⟩) (.inl rfl) _, _, _, HP2.out⟩
theorem LookD.nil {pc pf cnt : Nat} {fst : PL} {B : Nat} {FA : Option Addr} {fc : Nat} {w : World} (hP : CntAt w pc pf cnt fst B FA fc) : LookD pc pf cnt fst B [] w w :=
  ⟨Apart.refl _ _, FA, fc, by rw [fstN_none]; exact hP⟩
theorem LookD.after {pc pf cnt : Nat} {fst : PL} {B : Nat} {L : List PL} {w X w' : World} (hb : Below w.heap.size w X) (h : LookD pc pf cnt fst B L X w') : LookD pc pf cnt fst B L w w' :=
  ⟨(Apart.of_below hb).trans h.1 (fun _ hj => .inl hj), h.2⟩
theorem LookD.trans {pc pf cnt : Nat} {fst : PL} {B : Nat} {L M : List PL} {w X w' : World} (h : LookD pc pf cnt fst B L w X) (h2 : LookD pc pf (cnt + L.length) (fstN fst cnt L) B M X w') : LookD pc pf cnt fst B (L ++ M) w w' := by
  obtain ⟨a2, FA, fc, h4⟩ := h2
  refine ⟨h.1.trans a2 (fun j hj => .inl hj), FA, fc, ?_⟩
  rw [fstN_append, List.length_append, ← Nat.add_assoc]
  exact h4
theorem getD_some {l : List Int} {j : Nat} {x : Int} (h : l[j]? = some x) : l.getD j 0 = x := by rw [List.getD_eq_getElem?_getD, h]; rfl
theorem StepN.far {n k a b : Nat} (h : StepN n (k + 2) a b) : a + 1 ≠ n := by
  rcases h with h | ⟨h1, h2, h3, h4⟩
  · omega
  · intro e
    rw [show n - a - 1 = 0 by omega] at h4
    simp only [rowsN] at h4
    omega
set_option maxHeartbeats 8000000 in
set_option maxRecDepth 100000 in
theorem deLook_any (n : Nat) (hn : n ≤ 7) (pc pf B : Nat) (hcf : pc ≠ pf) (hcB : pc < B) (hfB : pf < B) :
    ∀ (k : Nat) (l : List Int) (a b g cl : Nat) (told : PL) (A : Option Addr) (c cnt : Nat) (fst : PL) (FA : Option Addr) (fc : Nat) (w : World), StepN n (k + 1) a b → l.length = n → FewN l → told.length + k ≤ 60 → cnt + 2 ^ (k + 1) ≤ 2 ^ 60 → B ≤ w.heap.size →
    w.ownsRow B 3 1 (.slice (some ⟨g, 0, none⟩) n cl) n (icells l) → CntAt w pc pf cnt fst B FA fc → w.ownsRow B 64 2 (.slice A told.length c) told.length (pcells told) →
    Calls Try.prog 69 #[.int .i64 n, .slice (some ⟨g, 0, none⟩) n cl, .int .i64 a, .int .i64 b, .slice A told.length c, .pointer (some ⟨pc, 0, none⟩), .pointer (some ⟨pf, 0, none⟩)] w fun e w' =>
      e = .returned (.tuple #[]) ∧ LookD pc pf cnt fst B (lookN n (k + 1) l a b told) w w' := by
  obtain ⟨i0, hi, hz0, hz1, hz2⟩ := info_parts Try.infoPair
  intro k
  induction k with
  | zero =>
    intro l a b g cl told A c cnt fst FA fc w hs hl hfew h60 hcnt hBw ownl hP own
    have h1 := hs.lt
    have hb : ¬ b < n := fun hb => by have := (hs.more hb).ended; omega
    have ha : a + 1 = n := (hs.next hb).ended
    obtain ⟨la, hla⟩ := getSome l a (by omega)
    have hlaD := getD_some hla
    have hcell := own_cell ownl hla
    rw [lookN_end hb, hlaD]
    by_cases h0 : la = 0
    · subst h0
      rw [if_pos rfl]
      exact deLook_told n a b hn ha pc pf B hcf hcB hfB g cl told A c cnt fst FA fc w (by omega) (by omega) hBw hcell hP own
    · rw [if_neg h0]
      have fin := LookD.nil hP
      have Fin := Lib.hid fin
      have hai : (a : Int) < n := by omega
      have ha1 : ((a : Int) == (n : Int) - 1) = true := by simp; omega
      have hn0 : ((n : Int) == 0) = false := by simp; omega
      have hla0 : (la == 0) = false := by simpa using h0
      clear fin hP own hlaD hla ownl hfew hs
      go_enter Try.func69, Try.ntmps69
      go_wp2
      refine show _ = [] ∧ _ from ⟨rfl, .tuple #[], by simp [results, Try.results69, go_sem], ?_⟩
      exact ⟨rfl, Fin.out⟩
  | succ k ih =>
    intro l a b g cl told A c cnt fst FA fc w hs hl hfew h60 hcnt hBw ownl hP own
    have h1 := hs.lt
    have hfar := hs.far
    have hp : 2 ^ (k + 1 + 1) = 2 ^ (k + 1) * 2 := Nat.pow_succ 2 (k + 1)
    obtain ⟨la, hla⟩ := getSome l a (by omega)
    have hlaD := getD_some hla
    have hcell := own_cell ownl hla
    have hai : (a : Int) < n := by omega
    have ha1 : ((a : Int) == (n : Int) - 1) = false := by simp; omega
    have hn0 : ((n : Int) == 0) = false := by simp; omega
    have ea : ((a + 1 : Nat) : Int) = (a : Int) + 1 := by omega
    have ea2 : ((a + 2 : Nat) : Int) = (a : Int) + 2 := by omega
    have eb : ((b + 1 : Nat) : Int) = (b : Int) + 1 := by omega
    have hp60 : (2 : Nat) ^ 60 = 1152921504606846976 := by decide
    have hl0 := hfew a
    rw [hlaD] at hl0
    by_cases hb : b < n
    · obtain ⟨lb, hlb⟩ := getSome l b (by omega)
      have hlbD := getD_some hlb
      have hcell2 := own_cell ownl hlb
      have hbi : (b : Int) < n := by omega
      have hbn : ((b : Int) == (n : Int)) = false := by simp; omega
      have hb0 := hfew b
      rw [hlbD] at hb0
      by_cases hpa : 0 < la
      · by_cases hpb : 0 < lb
        · rw [lookN_take hb (by rw [hlaD, hlbD]; exact ⟨hpa, hpb⟩)]
          have hlen := lookN_len n (k + 1) (lessN l a b) a (b + 1) (told ++ [((a : Int), (b : Int))])
          obtain ⟨L1, hL1⟩ : ∃ L1, lookN n (k + 1) (lessN l a b) a (b + 1) (told ++ [((a : Int), (b : Int))]) = L1 := ⟨_, rfl⟩
          rw [hL1] at hlen ⊢
          have HL1 := Lib.hid hL1
          clear hL1
          have hown := l1Own_any l (some ⟨g, 0, none⟩) cl w (by omega) (by omega) (CRead.of_own ownl)
          rw [hl] at hown
          have HO := Lib.hid hown
          have IH := Lib.hid ih
          have Own := Lib.hid own
          have Ownl := Lib.hid ownl
          have HP := Lib.hid hP
          have Hs := Lib.hid (hs.more hb)
          have Hfew := Lib.hid hfew
          have Hfl := Lib.hid (hfew.less h1.1 (by omega) (by rw [hlaD]; exact hpa) (by rw [hlbD]; exact hpb))
          have hless : lessN l a b = (l.set a (la - 1)).set b (lb - 1) := by unfold lessN; rw [hlaD, hlbD]
          have Hless := Lib.hid hless
          have Hll := Lib.hid hl
          have hab : a ≠ b := by omega
          have HlaS := Lib.hid hla
          have hlbS : (l.set a (la - 1))[b]? = some lb := by rw [List.getElem?_set_ne hab]; exact hlb
          have HlbS := Lib.hid hlbS
          clear hown ih own ownl hP hs hfew hlaD hlbD hla hlb hl hless hlbS
          go_enter Try.func69, Try.ntmps69
          go_wp2_with fail
          refine HO.out.mono ?_
          rintro e w1 ⟨A1, c1, rfl, own1, hb1⟩
          obtain ⟨g1, rfl⟩ := own_form own1 (by omega)
          have x0 := own_cell own1 HlaS.out
          have x1 := own1.frozenAt a
          have own2 := own_set own1 a (la - 1)
          have y0 := own_cell own2 HlbS.out
          have y1 := own2.frozenAt b
          have own3 := own_set own2 b (lb - 1)
          rw [← Hless.out] at own3
          have hg1 := (own1.lt g1 rfl)
          have s1 := hb1.size
          have kX0 : Below w.heap.size w ((w1.setCell ⟨g1, a, none⟩ (.int .i64 (la - 1))).setCell ⟨g1, b, none⟩ (.int .i64 (lb - 1))) := (hb1.setCell (p := ⟨g1, a, none⟩) hg1.1 _).setCell (p := ⟨g1, b, none⟩) hg1.1 _
          obtain ⟨X, hX⟩ : ∃ X, ((w1.setCell ⟨g1, a, none⟩ (.int .i64 (la - 1))).setCell ⟨g1, b, none⟩ (.int .i64 (lb - 1))) = X := ⟨_, rfl⟩
          rw [hX] at own3 kX0
          have HX := Lib.hid hX
          have Own3 := Lib.hid own3
          have KX0 := Lib.hid kX0
          have sX := kX0.size
          clear hX own1 own2 own3 kX0 HO
          go_upto_region 12 with (fail)
          rw [HX.out]
          have h0 : (X.alloc (.cells #[] 64)).ownsRow X.heap.size 64 2 (.slice (some ⟨X.heap.size, 0, none⟩) 0 0) 0 [] := World.ownsRow_made X #[] 0 (Nat.le_refl _) (Nat.zero_le _) rfl
          have kY : Below X.heap.size X (X.alloc (.cells #[] 64)) := by go_grown
          have ownX : X.ownsRow B 64 2 (.slice A told.length c) told.length (pcells told) := own_below Own.out KX0.out (Nat.le_refl _)
          have OwnX := Lib.hid ownX
          clear ownX x0 x1 y0 y1 hcell hcell2
          rcases own_none2 OwnX.out with ⟨rfl, hz0', rfl⟩ | ⟨gg, rfl⟩
          · have ht : told = [] := List.eq_nil_of_length_eq_zero hz0'
            rw [hz0']
            have q0 : ((X.alloc (.cells #[] 64)).alloc (.cells #[.int .i64 (a : Int), .int .i64 (b : Int)] 64)).cell? ⟨X.heap.size + 1, 0, none⟩ = some (.int .i64 (a : Int)) := by simp
            have q1 : ((X.alloc (.cells #[] 64)).alloc (.cells #[.int .i64 (a : Int), .int .i64 (b : Int)] 64)).cell? ⟨X.heap.size + 1, 1, none⟩ = some (.int .i64 (b : Int)) := by simp
            go_wp2_with (at_builtin; first
              | (refine wpList_append_own _ rfl _ _ 23 rfl X.heap.size 64 i0 _ 2 16 Try.underlying23 hi hz0 hz1 hz2 rfl (by decide) (.slice (some ⟨X.heap.size, 0, none⟩) 0 0) 0 [] rfl (h0.alloc _) ⟨X.heap.size + 1, 0, none⟩ 1 1 [.int .i64 (a : Int), .int .i64 (b : Int)] rfl rfl (two_cellsB q0 q1) (two_oneB rfl rfl) (by unfold maxLen; omega) (by omega) (by simp <;> omega) ?_; intro v7 w7 own7 gr7 _; have k7 : Below X.heap.size X w7 := (kY.alloc (by simp) _).grown gr7 (by simp <;> omega) (by intro m hm; simp [Value.ownBlock] at hm; omega); obtain ⟨A7, c7, rfl, _⟩ := own_shape own7; have HK7 := Lib.hid k7; have Own7 := Lib.hid own7; clear own7 gr7 k7)
              | (refine wpList_append_own_none rfl _ _ 23 rfl X.heap.size 64 i0 2 Try.underlying23 hi _ _ _ rfl h0 rfl ?_))
            have hll : (told ++ [((a : Int), (b : Int))]).length = 0 + 1 := by rw [ht]; rfl
            have own8 : w7.ownsRow B 64 2 (.slice A7 (told ++ [((a : Int), (b : Int))]).length c7) (told ++ [((a : Int), (b : Int))]).length (pcells (told ++ [((a : Int), (b : Int))])) := by
              rw [hll, pcells_append, ht]
              exact own_lower Own7.out (by omega)
            have hb7 := HK7.out
            have s7 := hb7.size
            have k07 : Below w.heap.size w w7 := KX0.out.trans (hb7.mono sX)
            have P7 := HP.out.below k07
            have own9 : w7.ownsRow B 3 1 (.slice (some ⟨g1, 0, none⟩) n c1) n (icells (lessN l a b)) := own_lower (own_below Own3.out hb7 (Nat.le_refl _)) (by omega)
            have ihc := IH.out (lessN l a b) a (b + 1) g1 c1 (told ++ [((a : Int), (b : Int))]) A7 c7 cnt fst FA fc w7 Hs.out (by rw [lessN_len]; exact Hll.out) Hfl.out (by rw [hll]; omega) (by omega) (by omega) own9 P7 own8
            rw [HL1.out] at ihc
            rw [hll, eb] at ihc
            have IHC := Lib.hid ihc
            have K07 := Lib.hid k07
            clear ihc own8 own9 P7 hb7 k07
            go_wp2_with fail
            refine IHC.out.mono ?_
            rintro e w8 ⟨rfl, hL⟩
            have hL2 := LookD.after K07.out hL
            obtain ⟨FA8, fc8, P8⟩ := hL2.2
            have s8 := hL2.1.below.size
            have ihd := IH.out l a (b + 1) g cl told none 0 (cnt + L1.length) (fstN fst cnt L1) FA8 fc8 w8 Hs.out Hll.out Hfew.out (by omega) (by omega) (by omega) (own_ap Ownl.out hL2.1 (fun j hj => by omega)) P8 (own_ap Own.out hL2.1 (fun j hj => by omega))
            rw [eb] at ihd
            rw [hz0'] at ihd
            have IHD := Lib.hid ihd
            have HL2 := Lib.hid hL2
            clear ihd hL hL2 P8 IHC
            go_wp2_with fail
            refine IHD.out.mono ?_
            rintro e w9 ⟨rfl, hL9⟩
            have fin := HL2.out.trans hL9
            clear IHD hL9
            go_wp2
            refine show _ = [] ∧ _ from ⟨rfl, .tuple #[], by simp [results, Try.results69, go_sem], ?_⟩
            exact ⟨rfl, fin⟩
          · have rdX : CRead (X.alloc (.cells #[] 64)) (X.alloc (.cells #[] 64)).heap.size (some ⟨gg, 0, none⟩) (pcells told) := (CRead.of_own OwnX.out).below kY (Nat.le_refl _) |>.more kY.size
            go_wp2_with (at_builtin; first
              | (refine wpList_append_own _ rfl _ _ 23 rfl X.heap.size 64 i0 _ 2 16 Try.underlying23 hi hz0 hz1 hz2 rfl (by decide) _ told.length _ rfl (own5.alloc _) ⟨w5.heap.size, 0, none⟩ 1 1 [.int .i64 (a : Int), .int .i64 (b : Int)] rfl rfl (two_cellsB (by simp) (by simp)) (two_oneB rfl rfl) (by unfold maxLen; omega) (by omega) (by simp <;> omega) ?_; intro v7 w7 own7 gr7 _; have k7 : Below X.heap.size X w7 := (k5.alloc z5 _).grown gr7 (by simp <;> omega) (fun k hk => (own5.lt k hk).1); obtain ⟨A7, c7, rfl, _⟩ := own_shape own7; have HK7 := Lib.hid k7; have Own7 := Lib.hid own7; clear own7 gr7 k7)
              | (refine wpList_append_own _ rfl _ _ 23 rfl X.heap.size 64 i0 _ 2 16 Try.underlying23 hi hz0 hz1 hz2 rfl (by decide) (.slice (some ⟨X.heap.size, 0, none⟩) 0 0) 0 [] rfl h0 ⟨gg, 0, none⟩ told.length c (pcells told) rfl (pcells_length told) (read_add_P rdX) (pcells_one _) (by unfold maxLen; omega) (by omega) (by simp) ?_; intro v5 w5 own5 gr5 _; have k5 : Below X.heap.size X w5 := kY.grown gr5 (by simp) (by intro m hm; simp [Value.ownBlock] at hm; omega); simp only [Nat.zero_add, List.nil_append] at own5; obtain ⟨A5, c5, rfl, _⟩ := own_shape own5; have z5 := k5.size))
            clear own5 gr5 k5
            have hll : (told ++ [((a : Int), (b : Int))]).length = told.length + 1 := by simp
            have own8 : w7.ownsRow B 64 2 (.slice A7 (told ++ [((a : Int), (b : Int))]).length c7) (told ++ [((a : Int), (b : Int))]).length (pcells (told ++ [((a : Int), (b : Int))])) := by
              rw [hll, pcells_append]
              exact own_lower Own7.out (by omega)
            have hb7 := HK7.out
            have s7 := hb7.size
            have k07 : Below w.heap.size w w7 := KX0.out.trans (hb7.mono sX)
            have P7 := HP.out.below k07
            have own9 : w7.ownsRow B 3 1 (.slice (some ⟨g1, 0, none⟩) n c1) n (icells (lessN l a b)) := own_lower (own_below Own3.out hb7 (Nat.le_refl _)) (by omega)
            have ihc := IH.out (lessN l a b) a (b + 1) g1 c1 (told ++ [((a : Int), (b : Int))]) A7 c7 cnt fst FA fc w7 Hs.out (by rw [lessN_len]; exact Hll.out) Hfl.out (by rw [hll]; omega) (by omega) (by omega) own9 P7 own8
            rw [HL1.out] at ihc
            rw [hll, eb] at ihc
            have IHC := Lib.hid ihc
            have K07 := Lib.hid k07
            clear ihc own8 own9 P7 hb7 k07
            go_wp2_with fail
            refine IHC.out.mono ?_
            rintro e w8 ⟨rfl, hL⟩
            have hL2 := LookD.after K07.out hL
            obtain ⟨FA8, fc8, P8⟩ := hL2.2
            have s8 := hL2.1.below.size
            have ihd := IH.out l a (b + 1) g cl told (some ⟨gg, 0, none⟩) c (cnt + L1.length) (fstN fst cnt L1) FA8 fc8 w8 Hs.out Hll.out Hfew.out (by omega) (by omega) (by omega) (own_ap Ownl.out hL2.1 (fun j hj => by omega)) P8 (own_ap Own.out hL2.1 (fun j hj => by omega))
            rw [eb] at ihd
            have IHD := Lib.hid ihd
            have HL2 := Lib.hid hL2
            clear ihd hL hL2 P8 IHC
            go_wp2_with fail
            refine IHD.out.mono ?_
            rintro e w9 ⟨rfl, hL9⟩
            have fin := HL2.out.trans hL9
            clear IHD hL9
            go_wp2
            refine show _ = [] ∧ _ from ⟨rfl, .tuple #[], by simp [results, Try.results69, go_sem], ?_⟩
            exact ⟨rfl, fin⟩
        · rw [lookN_not hb (by rw [hlaD, hlbD]; exact fun h => hpb h.2)]
          have ihc := ih l a (b + 1) g cl told A c cnt fst FA fc w (hs.more hb) hl hfew (by omega) (by omega) hBw ownl hP own
          rw [eb] at ihc
          have IHC := Lib.hid ihc
          clear ihc ih hP own ownl hfew hs hl hla hlaD hlb hlbD hcnt hp ea ea2 eb
          go_enter Try.func69, Try.ntmps69
          go_wp2_with fail
          refine IHC.out.mono ?_
          rintro e w' ⟨rfl, hL⟩
          go_wp2
          refine show _ = [] ∧ _ from ⟨rfl, .tuple #[], by simp [results, Try.results69, go_sem], ?_⟩
          exact ⟨rfl, hL⟩
      · rw [lookN_not hb (by rw [hlaD, hlbD]; exact fun h => hpa h.1)]
        have ihc := ih l a (b + 1) g cl told A c cnt fst FA fc w (hs.more hb) hl hfew (by omega) (by omega) hBw ownl hP own
        rw [eb] at ihc
        have IHC := Lib.hid ihc
        clear ihc ih hP own ownl hfew hs hl hla hlaD hlb hlbD hcnt hp ea ea2 eb
        go_enter Try.func69, Try.ntmps69
        go_wp2_with fail
        refine IHC.out.mono ?_
        rintro e w' ⟨rfl, hL⟩
        go_wp2
        refine show _ = [] ∧ _ from ⟨rfl, .tuple #[], by simp [results, Try.results69, go_sem], ?_⟩
        exact ⟨rfl, hL⟩
    · have hbn : ((b : Int) == (n : Int)) = true := by simp; omega
      rw [lookN_end hb, hlaD]
      by_cases h0 : la = 0
      · subst h0
        rw [if_pos rfl]
        have ihc := ih l (a + 1) (a + 2) g cl told A c cnt fst FA fc w (hs.next hb) hl hfew (by omega) (by omega) hBw ownl hP own
        rw [ea, ea2] at ihc
        have IHC := Lib.hid ihc
        clear ihc ih hP own ownl hfew hs hl hla hlaD hcnt hp ea ea2 eb
        go_enter Try.func69, Try.ntmps69
        go_wp2_with fail
        refine IHC.out.mono ?_
        rintro e w' ⟨rfl, hL⟩
        go_wp2
        refine show _ = [] ∧ _ from ⟨rfl, .tuple #[], by simp [results, Try.results69, go_sem], ?_⟩
        exact ⟨rfl, hL⟩
      · rw [if_neg h0]
        have Fin := Lib.hid (LookD.nil hP)
        have hla0 : (la == 0) = false := by simpa using h0
        clear ih hP own hlaD hla ownl hfew hs hcnt hp ea ea2 eb
        go_enter Try.func69, Try.ntmps69
        go_wp2
        refine show _ = [] ∧ _ from ⟨rfl, .tuple #[], by simp [results, Try.results69, go_sem], ?_⟩
        exact ⟨rfl, Fin.out⟩
end Go.Proofs.Ythddlpghjkiioaa
