/-
  Texts put together for the claim of 'FriendThrees' (pack 4): Tied, CountT, TrG, Ties, Ties2, CountG, Clone, Threes, IterG.
-/
import Derived.Test.YtnpljmipicjacaaDoorFriendThreesP1
import Derived.Test.YtnpljmipicjacaaDoorFriendThreesP2
import Derived.Test.YtnpljmipicjacaaDoorFriendThreesP3
import Derived.Laws.EntriesVeiled
import Derived.StillTailTactics
import Derived.Deep.DeepCutAuto
import Derived.Lib.SliceRun
import Derived.Deep.LoopGhost
import Derived.Deep.Slices
import Derived.WideShapes
/-
  THE PROGRAM's ITERATOR OVER LISTS OF TIED PEOPLE ('allTied'): its contract, in the form that the law of the statement takes.
-/
namespace Go.Proofs.YtnpljmipicjacaaDoor
open Go.RowKit

/-- ties as the program has them: twelve sets -/
def tcells (T : Nat → Nat) : Array Value := #[.int .u16 (T 0), .int .u16 (T 1), .int .u16 (T 2), .int .u16 (T 3), .int .u16 (T 4), .int .u16 (T 5), .int .u16 (T 6), .int .u16 (T 7), .int .u16 (T 8), .int .u16 (T 9), .int .u16 (T 10), .int .u16 (T 11)]
theorem tcells_at (T : Nat → Nat) : ∀ a, a < 12 → (tcells T)[a]? = some (.int .u16 (T a)) := by
  intro a ha
  match a, ha with
  | 0, _ => rfl
  | 1, _ => rfl
  | 2, _ => rfl
  | 3, _ => rfl
  | 4, _ => rfl
  | 5, _ => rfl
  | 6, _ => rfl
  | 7, _ => rfl
  | 8, _ => rfl
  | 9, _ => rfl
  | 10, _ => rfl
  | 11, _ => rfl
/-- sets of people that tell who is tied to whom -/
structure TiesOf (T : Nat → Nat) (t : Nat → Nat → Bool) : Prop where
  bit : ∀ a b, a < 12 → b < 16 → (T a).testBit b = t a b
  lt : ∀ a, a < 12 → T a < 65536

set_option maxHeartbeats 1000000 in
theorem allTied_any (T : Nat → Nat) (among : Nat) (size : Int) (w : World) :
    Calls Tryd.prog 58 #[.agg (tcells T), .int .u16 among, .int .i64 size] w fun e w' =>
      e = .returned (.func (.func 79) #[] #[.pointer (some ⟨w.heap.size + 2, 0, none⟩), .pointer (some ⟨w.heap.size, 0, none⟩), .pointer (some ⟨w.heap.size + 1, 0, none⟩)]) ∧
      w' = ((w.alloc (.cells (tcells T) 63)).alloc (.cells #[.int .u16 among] 60)).alloc (.cells #[.int .i64 size] 3) := by
  unfold tcells
  go_enter Tryd.func58, Tryd.ntmps58
  go_wp2
  go_ret
  exact ⟨rfl, rfl⟩

/-- what a round is handed: a list told, in a block of the iterator's own -/
def RdL (S : Nat → Prop) (told : List Int) (args : Array Value) (W : World) : Prop := ∃ A c, args = #[.slice A told.length c] ∧ World.told W A c told ∧ (∀ k, (Value.slice A told.length c).ownBlock = some k → S k) ∧ told.length ≤ 100
theorem RdL.stays {S : Nat → Prop} {told : List Int} {args : Array Value} {A C : World} (h : RdL S told args A) (hs : Stays S A C) : RdL S told args C := by
  obtain ⟨B, c, e, ht, hk, h100⟩ := h
  exact ⟨B, c, e, told_kept ht fun k hb => hs.same k (own_lies ht k hb).2 (hk k hb), hk, h100⟩
theorem RdL.one {S : Nat → Prop} {told : List Int} {args : Array Value} {A : World} (h : RdL S told args A) : args.size = 1 := by
  obtain ⟨B, c, e, _⟩ := h
  rw [e]; rfl

set_option maxHeartbeats 1000000 in
set_option maxRecDepth 100000 in
theorem tied_seq {T : Nat → Nat} {t : Nat → Nat → Bool} (hT : TiesOf T t) {among : Nat} {cs : List Nat} (hset : IsSet among cs) (hcs : ∀ b ∈ cs, b < 12) {size : Int} (h100 : size ≤ 100) {bs bt ba : Nat} {w0 : World}
    (hs : w0.cell? ⟨bs, 0, none⟩ = some (.int .i64 size)) (ht : ∀ a, a < 12 → w0.cell? ⟨bt, a, none⟩ = some (.int .u16 (T a))) (ha : w0.cell? ⟨ba, 0, none⟩ = some (.int .u16 among)) (htab : TabW w0) :
    Seq Tryd.prog 79 #[.pointer (some ⟨bs, 0, none⟩), .pointer (some ⟨bt, 0, none⟩), .pointer (some ⟨ba, 0, none⟩)] (fun j => j = 0 ∨ j = bs ∨ j = bt ∨ j = ba) RdL (listsC t size.toNat [] cs) w0 := by
  intro l J Jx W hW hh hY h0
  have lbs : bs < w0.heap.size := World.block_lt_of_cell? w0 _ hs
  have lbt : bt < w0.heap.size := World.block_lt_of_cell? w0 _ (ht 0 (by omega))
  have lba : ba < w0.heap.size := World.block_lt_of_cell? w0 _ ha
  have l0 := htab.pos
  have hsz := hW.size
  show Calls Tryd.prog 79 #[.func (.yield l) #[] #[], .pointer (some ⟨bs, 0, none⟩), .pointer (some ⟨bt, 0, none⟩), .pointer (some ⟨ba, 0, none⟩)] W _
  have qs := carry hW hs lbs
  have qa := carry hW ha lba
  have qt : ∀ a, a < 12 → W.cell? ⟨bt, a, none⟩ = some (.int .u16 (T a)) := fun a h => carry hW (ht a h) lbt
  have qtab := htab.below hW l0
  have la : ba < W.heap.size := Nat.lt_of_lt_of_le lba hsz
  clear hs ht ha htab
  -- the world where the closure is called first
  obtain ⟨W2, hW2⟩ : ∃ W2, (W.alloc (Obj.cells #[.func (.yield l) #[] #[]] 97)).alloc (Obj.cells #[lookV bs W.heap.size (W.heap.size + 1) bt] 98) = W2 := ⟨_, rfl⟩
  have z2 : W2.heap.size = W.heap.size + 2 := by rw [← hW2]; simp
  have b2 : Below W.heap.size W W2 := by rw [← hW2]; go_grown
  have y2 : W2.cell? ⟨W.heap.size, 0, none⟩ = some (.func (.yield l) #[] #[]) := by rw [← hW2]; exact (World.cell?_alloc_lt _ _ _ (by simp)).trans (by simp)
  have k2 : W2.cell? ⟨W.heap.size + 1, 0, none⟩ = some (lookV bs W.heap.size (W.heap.size + 1) bt) := by
    rw [← hW2]
    have := heap_alloc_new (W.alloc (Obj.cells #[.func (.yield l) #[] #[]] 97)) (Obj.cells #[lookV bs W.heap.size (W.heap.size + 1) bt] 98)
    rw [World.size_alloc] at this
    rw [cell_of_row _ _ _ _ _ _ this]
    rfl
  have at2 : LookAt W2 l size T bs W.heap.size (W.heap.size + 1) bt := ⟨carry b2 qs (by omega), y2, k2, fun a h => carry b2 (qt a h) (by omega), qtab.below b2 (by omega)⟩
  have hJ2 : J (fun j => j = W.heap.size ∨ j = W.heap.size + 1) [] W2 := hh _ _ _ _ _ h0 (Apart.of_below b2) (fun j hj => .inr (by omega))
  have call := look_any (Good := fun q => q <+: listsC t size.toNat [] cs) (J := fun S pre X => J (fun j => S j ∨ j = W.heap.size ∨ j = W.heap.size + 1) pre X) (Jx := fun S pre X => Jx (fun j => S j ∨ j = W.heap.size ∨ j = W.heap.size + 1) pre X)
    (R := fun j => (j = 0 ∨ j = bs ∨ j = bt ∨ j = ba) ∨ j = W.heap.size ∨ j = W.heap.size + 1) (B := W.heap.size + 2) (l := l) (size := size) (T := T) (t := t) (bs := bs) (yb := W.heap.size) (bl := W.heap.size + 1) (bt := bt)
    (fun j hj => by omega)
    (fun S pre told A c W1 hj htold hk h100 hgd => by
      refine YieldAt.mono (hY _ pre told _ W1 hj ⟨A, c, rfl, htold, fun k hb => .inl (hk k hb), h100⟩ hgd) fun e W' h => ?_
      rcases h with ⟨he, hj', hst⟩ | h
      · exact .inl ⟨he, hj', hst.mono fun j hj => by rcases hj with h | h | h; exact .inl (.inl h); exact .inr h; exact .inl (.inr h)⟩
      · exact .inr h)
    (fun S S' pre A C hj hap hS => hh _ _ _ _ _ hj (hap.mono fun j h => .inl h) (fun j h => by
      rcases h with h | h
      · exact (hS j h).imp .inl id
      · exact .inl (.inr h)))
    (.inl (.inr (.inl rfl))) (.inr (.inl rfl)) (.inr (.inr rfl)) (.inl (.inr (.inr (.inl rfl)))) (.inl (.inl rfl)) hT.bit hT.lt size.toNat cs [] among none 0 (fun _ => False) [] W2
    (by simp only [List.length_nil]; omega) (by simp only [List.length_nil]; omega) (fun q hq => hq) hset hcs (by omega) at2 (hh _ _ _ _ _ hJ2 (Apart.refl _ _) (fun j hj => by rcases hj with h | h; exact h.elim; exact .inl h)) (World.ownsRow_nil _ _ _ _) (fun k hk => by simp [Value.ownBlock] at hk) (fun j h => h.elim)
  have Call := Lib.hid call
  have HW2 := Lib.hid hW2
  clear call hW2 at2 hJ2 y2 k2 qt qs hY hh
  go_enter Tryd.func79, Tryd.ntmps79
  go_wp2_with fail
  rw [HW2.out]
  refine Call.out.mono ?_
  rintro e W3 ⟨ok, rfl, hpost⟩
  go_wp2
  go_end0
  refine ⟨⟨_, rfl⟩, ?_⟩
  cases ok
  · obtain ⟨S', q, x, hq, hx⟩ := hpost
    exact .inr ⟨_, q, x, hq, hx⟩
  · obtain ⟨S', hj, _⟩ := hpost.ex
    exact .inl ⟨_, hj⟩
theorem Seq.more {α : Type} {P : Program} {g : Nat} {lb : Array Value} {R R' : Nat → Prop} {Rd : (Nat → Prop) → α → Array Value → World → Prop} {xs : List α} {w0 : World} (h : Seq P g lb R Rd xs w0) (hR : ∀ j, R j → R' j) : Seq P g lb R' Rd xs w0 :=
  fun l J Jx W hW hh hY h0 => h l J Jx W hW hh (fun T pre x args W1 hJ hrd hpx => YieldAt.mono (hY T pre x args W1 hJ hrd hpx) fun _ _ hp =>
    hp.elim (fun ⟨he, hj, hs⟩ => .inl ⟨he, hj, hs.mono fun j hj => hj.elim .inl fun hr => .inr (hR j hr)⟩) .inr) h0

/-- A range over an iterator of one value, its variable not used elsewhere. -/
theorem wp_rangeFunc_one {P : Program} {α : Type} {g : Operand} {p : Tmp} {body : Code} {Q : Exit → Act → World → Prop} {a : Act} {w : World} {gf : Nat} {lb : Array Value} (hg : a.eval g = .func (.func gf) #[] lb)
    (eg : ∀ args w, (callFunc gf args).run P w = .ok (.enter gf args) w) {R : Nat → Prop} {Rd : (Nat → Prop) → α → Array Value → World → Prop} {xs : List α} (hseq : Seq P gf lb R Rd xs w) (hR : ∀ j, R j → j < w.heap.size)
    (hRd : ∀ T x args A C, Rd T x args A → Stays T A C → Rd T x args C) (hps : ∀ T x args W, Rd T x args W → args.size = 1)
    (I : (Nat → Prop) → List α → World → Prop) (Ix : Code → List α → World → Prop) (hI : Held I) (hIx : ∀ c pre A C, Ix c pre A → Apart (fun j => j = w.heap.size + 1) A C → Ix c pre C) (h0 : I (fun _ => False) [] w)
    (hbody : ∀ (l : Nat) (T S : Nat → Prop) (pre : List α) (x : α) (v : Value) (W : World), I S pre W → Rd T x #[v] W → (∀ j, T j → S j) →
      body.wpIn (Fence.wide.inRound l) 3 P (iterPost w.heap.size S R I Ix (pre ++ [x]) W) { tmps := a.tmps.setIfInBounds p v, defers := [] } W)
    (hdone : ∀ (S : Nat → Prop) (W : World), I S xs W → W.heap[w.heap.size]? = some (.deferred (some [])) → Q .normal { a with defers := { target := .collected w.heap.size, args := #[] } :: a.defers } W)
    (hstop : ∀ (c : Code) (pre : List α) (x : α) (W : World), pre ++ [x] <+: xs → Ix c (pre ++ [x]) W → W.heap[w.heap.size]? = some (.deferred (some [])) → c.wp P Q { a with defers := { target := .collected w.heap.size, args := #[] } :: a.defers } W) :
    (Code.rangeFunc g #[p] Code.skip body).wp P Q a w := by
  refine (wpIn_wide (n := 3)).1 ?_
  have hone : ∀ args : Array Value, args.size = 1 → ∃ v, args = #[v] := fun args h => by
    obtain ⟨l⟩ := args
    match l, h with
    | [v], _ => exact ⟨v, rfl⟩
  refine wpIn_rangeFunc_iter hg eg hseq (Below.refl _ _) hR hRd (fun T x args W h => hps T x args W h) I Ix hI hIx h0 (fun args => { tmps := a.tmps.setIfInBounds p (args[0]?.getD undef), defers := [] }) ?_ ?_ hdone (fun c pre x W h1 h2 h3 => (wpIn_wide (n := 3)).2 (hstop c pre x W h1 h2 h3))
  · intro l T x args W K hrd hK
    obtain ⟨v, rfl⟩ := hone args (hps T x args W hrd)
    refine wpIn_skip ?_
    change K _ W
    simpa using hK
  · intro l T S pre x args W hi hrd hTS
    obtain ⟨v, rfl⟩ := hone args (hps T x args W hrd)
    exact hbody l T S pre x v W hi hrd hTS

/-- A call of the iterator's maker, with all that its loop wants. -/
theorem allTied_got {T : Nat → Nat} {t : Nat → Nat → Bool} (hT : TiesOf T t) {among : Nat} {cs : List Nat} (hset : IsSet among cs) (hcs : ∀ b ∈ cs, b < 12) {size : Int} (h100 : size ≤ 100) (w : World) (htab : TabW w) :
    Calls Tryd.prog 58 #[.agg (tcells T), .int .u16 among, .int .i64 size] w fun e w1 =>
      ∃ lb, e = .returned (.func (.func 79) #[] lb) ∧ Below w.heap.size w w1 ∧ Seq Tryd.prog 79 lb (fun j => j = 0 ∨ w.heap.size ≤ j ∧ j < w1.heap.size) RdL (listsC t size.toNat [] cs) w1 := by
  refine (allTied_any T among size w).mono ?_
  rintro e w1 ⟨rfl, rfl⟩
  have hb : Below w.heap.size w (((w.alloc (.cells (tcells T) 63)).alloc (.cells #[.int .u16 among] 60)).alloc (.cells #[.int .i64 size] 3)) := by go_grown
  have h1 := heap_alloc_new w (.cells (tcells T) 63)
  have h2 := heap_alloc_new (w.alloc (.cells (tcells T) 63)) (.cells #[.int .u16 among] 60)
  have h3 := heap_alloc_new ((w.alloc (.cells (tcells T) 63)).alloc (.cells #[.int .u16 among] 60)) (.cells #[.int .i64 size] 3)
  simp only [World.size_alloc] at h2 h3
  refine ⟨_, rfl, hb, (tied_seq hT hset hcs h100 (w0 := _) (bs := w.heap.size + 2) (bt := w.heap.size) (ba := w.heap.size + 1) ?_ ?_ ?_ (htab.below hb htab.pos)).more ?_⟩
  · rw [cell_of_row _ _ _ _ _ _ h3]; rfl
  · intro a ha
    refine (World.cell?_alloc_lt _ _ _ (by simp; omega)).trans ((World.cell?_alloc_lt _ _ _ (by simp)).trans ?_)
    rw [cell_of_row _ _ _ _ _ _ h1]
    exact tcells_at T a ha
  · refine (World.cell?_alloc_lt _ _ _ (by simp)).trans ?_
    rw [cell_of_row _ _ _ _ _ _ h2]; rfl
  · intro j hj
    simp only [World.size_alloc]
    omega
end Go.Proofs.YtnpljmipicjacaaDoor
/-
  HOW MANY LISTS OF TIED PEOPLE THERE ARE ('countTied'), and whether there is one ('hasTied'), by their contracts.
-/
namespace Go.Proofs.YtnpljmipicjacaaDoor
open Go.RowKit Go.Shelf
attribute [local go_sem] Oper.semAt_some

theorem listsC_length_le (t : Nat → Nat → Bool) : ∀ (k : Nat) (told : List Int) (cs : List Nat), (listsC t k told cs).length ≤ 2 ^ cs.length := by
  intro k told cs
  induction h : k + cs.length using Nat.strongRecOn generalizing k told cs with
  | _ n ih =>
    match k, cs with
    | 0, cs => rw [listsC_zero]; exact Nat.one_le_two_pow
    | k + 1, [] => rw [listsC_nil]; simp
    | k + 1, a :: cs =>
      rw [listsC_cons, List.length_append]
      simp only [List.length_cons] at h
      have h0 : (cs.filter (t a)).length ≤ cs.length := List.length_filter_le _ _
      have h1 := ih (k + (cs.filter (t a)).length) (by omega) k (told ++ [(a : Int)]) (cs.filter (t a)) rfl
      have h2 := ih (k + 1 + cs.length) (by omega) (k + 1) told cs rfl
      have h3 : 2 ^ (cs.filter (t a)).length ≤ 2 ^ cs.length := Nat.pow_le_pow_right (by omega) h0
      rw [List.length_cons, Nat.pow_succ]
      omega
theorem set_len {j : Nat} {cs : List Nat} (hs : IsSet j cs) (hcs : ∀ b ∈ cs, b < 12) : cs.length ≤ 12 := by
  have h := List.Nodup.length_le_of_subset (l₁ := cs) (l₂ := List.range 12) (hs.up.imp fun h => Nat.ne_of_lt h) (fun b hb => List.mem_range.2 (hcs b hb))
  simpa using h
theorem lists_few {t : Nat → Nat → Bool} {k : Nat} {told : List Int} {j : Nat} {cs : List Nat} (hs : IsSet j cs) (hcs : ∀ b ∈ cs, b < 12) : (listsC t k told cs).length ≤ 4096 := by
  have h1 := listsC_length_le t k told cs
  have h2 : 2 ^ cs.length ≤ 2 ^ 12 := Nat.pow_le_pow_right (by omega) (set_len hs hcs)
  omega
theorem wrap_next (n : Nat) : wrap64 (wrap64 (n : Int) + 1) = wrap64 ((n + 1 : Nat) : Int) := by unfold wrap64; omega

theorem below_putObj {B l : Nat} {A W : World} (h : Below B A W) (hB : B ≤ W.heap.size) (hl : B ≤ l) (o : Obj) : Below B A (W.putObj l o) := h.grown (grownBy_putObj' W l o) hB (fun k e => by cases e; exact hl)

theorem cell_putObj {W : World} {l b o : Nat} (ob : Obj) (hne : b ≠ l) : (W.putObj l ob).cell? ⟨b, o, none⟩ = W.cell? ⟨b, o, none⟩ := World.cell?_of_block (w := W) (w' := W.putObj l ob) (a := ⟨b, o, none⟩) (World.putObj_heap_other hne)

set_option maxHeartbeats 2000000 in
set_option maxRecDepth 100000 in
theorem countTied_any {T : Nat → Nat} {t : Nat → Nat → Bool} (hT : TiesOf T t) {among : Nat} {cs : List Nat} (hset : IsSet among cs) (hcs : ∀ b ∈ cs, b < 12) {size : Int} (h100 : size ≤ 100) (w : World) (htab : TabW w) :
    Calls Tryd.prog 53 #[.agg (tcells T), .int .u16 among, .int .i64 size] w fun e w' => e = .returned (.int .i64 ((listsC t size.toNat [] cs).length : Int)) ∧ Below w.heap.size w w' := by
  have hfew := lists_few (t := t) (k := size.toNat) (told := []) hset hcs
  refine (callsIn_wide (n := 5)).1 ?_
  refine callsIn_of_wp_marks Tryd.func53 rfl trivial ?_
  simp only [Tryd.ntmps53, List.size_toArray, List.length_cons, List.length_nil, Nat.reduceAdd, Nat.reduceSub, Array.replicate_succ, Array.replicate_zero, List.push_toArray, List.append_toArray, List.nil_append, List.cons_append]
  refine wpIn_wide.2 ?_
  have hTab := Lib.hid htab
  have HT := Lib.hid hT
  have hgot := fun (X : World) (hX : TabW X) => allTied_got hT hset hcs h100 X hX
  unfold tcells at hgot ⊢
  have Got := Lib.hid hgot
  clear htab hT hgot
  go_wp2_with fail
  generalize hW : (w.alloc (Obj.cells #[Value.int IntKind.u16 (T 0), Value.int IntKind.u16 (T 1), Value.int IntKind.u16 (T 2), Value.int IntKind.u16 (T 3), Value.int IntKind.u16 (T 4), Value.int IntKind.u16 (T 5), Value.int IntKind.u16 (T 6), Value.int IntKind.u16 (T 7), Value.int IntKind.u16 (T 8), Value.int IntKind.u16 (T 9), Value.int IntKind.u16 (T 10), Value.int IntKind.u16 (T 11)] 63)).alloc (Obj.cells #[.int .i64 0] 3) = W
  have kW : Below w.heap.size w W := by rw [← hW]; go_grown
  have zW : W.heap.size = w.heap.size + 2 := by rw [← hW]; simp
  have cW : W.cell? ⟨w.heap.size + 1, 0, none⟩ = some (.int .i64 0) := by rw [← hW]; simp
  have fW : W.frozen? ⟨w.heap.size + 1, 0, none⟩ = false := by rw [← hW]; simp
  clear hW
  have pos := hTab.out.pos
  refine (Got.out W (hTab.out.below kW pos)).mono ?_
  rintro e w1 ⟨lb, rfl, hb1, hseq⟩
  have s1 := hb1.size
  have c1 := carry hb1 cW (by omega)
  have f1 := (hb1.frozen (p := ⟨w.heap.size + 1, 0, none⟩) (by simp; omega)).trans fW
  have k1 := kW.trans (hb1.mono kW.size)
  have Seq1 := Lib.hid hseq
  clear hseq cW fW
  go_wp2_with fail
  refine wp_rangeFunc_one rfl (enters_of Tryd.func79 (by kernel_rfl) rfl) Seq1.out (fun j hj => by omega) (fun T x args A C h hs => h.stays hs) (fun T x args W h => h.one)
    (fun S pre X => (∀ j, S j → w1.heap.size ≤ j) ∧ w1.heap.size ≤ X.heap.size ∧ Below w.heap.size w X ∧ X.cell? ⟨w.heap.size + 1, 0, none⟩ = some (.int .i64 (wrap64 (pre.length : Int))) ∧ X.frozen? ⟨w.heap.size + 1, 0, none⟩ = false)
    (fun _ _ _ => False) ?held (fun _ _ _ _ h _ => h.elim) ⟨fun _ h => h.elim, Nat.le_refl _, k1, by simpa [wrap64] using c1, f1⟩ ?body ?done (fun _ _ _ _ _ h _ => h.elim)
  case held =>
    rintro T T' pre A C ⟨a1, a2, a3, a4, a5⟩ hap hT'
    have hn : ¬ T (w.heap.size + 1) := fun h => by have := a1 _ h; omega
    refine ⟨fun j hj => (hT' j hj).elim (a1 j) (by omega), Nat.le_trans a2 hap.below.size, a3.trans (hap.below_of (by omega) fun j hj => by have := a1 j hj; omega), hap.cell (p := ⟨w.heap.size + 1, 0, none⟩) a4 hn, (hap.frozen (p := ⟨w.heap.size + 1, 0, none⟩) a4 hn).trans a5⟩
  case body =>
    rintro l T S pre x v X ⟨a1, a2, a3, a4, a5⟩ _ _
    gi_wp2
    have hn : ¬ (S (w.heap.size + 1) ∨ (w.heap.size + 1 = 0 ∨ W.heap.size ≤ w.heap.size + 1 ∧ w.heap.size + 1 < w1.heap.size)) := fun h => by
      rcases h with h | h
      · have := a1 _ h; omega
      · omega
    refine ⟨Stays.setCell (p := ⟨w.heap.size + 1, 0, none⟩) hn X _, a1, by simpa using a2, a3.setCell (p := ⟨w.heap.size + 1, 0, none⟩) (by simp) _, ?_, ?_⟩
    · rw [World.cell?_setCell_same' _ _ _ (by rw [a4]; rfl), wrap_next, List.length_append]
      rfl
    · rw [World.frozen?_setCell]; exact a5
  case done =>
    rintro S X ⟨a1, a2, a3, a4, a5⟩ hD
    go_wp2
    refine ⟨by simp, .inl ⟨_, _, rfl, run_takeDeferred hD, ?_⟩⟩
    refine ⟨_, results_tmp rfl _ _ _, ?_, below_putObj a3 (by omega) (by omega) _⟩
    rw [show wrap64 ((listsC t size.toNat [] cs).length : Int) = ((listsC t size.toNat [] cs).length : Int) from by unfold wrap64; omega]
    rfl

end Go.Proofs.YtnpljmipicjacaaDoor
/-
  THE MODEL's GROUPS OF A SIZE ('spec.trGroups'), by its contract: induction on how many are still to come.
-/
namespace Go.Proofs.YtnpljmipicjacaaDoor
open Go.RowKit

theorem candR_set {t : Nat → Nat → Bool} {n : Nat} (hn : n ≤ 12) (q : List Int) (a : Nat) : (candR t n q a).length ≤ 12 := by
  unfold candR
  refine Nat.le_trans (List.length_filter_le _ _) ?_
  simp only [List.length_range']
  omega
theorem lists_candR {t : Nat → Nat → Bool} {n k : Nat} (hn : n ≤ 12) (q : List Int) (a : Nat) : (listsC t k q (candR t n q a)).length ≤ 4096 := by
  have h1 := listsC_length_le t k q (candR t n q a)
  have h2 : 2 ^ (candR t n q a).length ≤ 2 ^ 12 := Nat.pow_le_pow_right (by omega) (candR_set hn q a)
  omega
theorem Tryd.infoIntsG : (Tryd.prog.info? 25).map (fun i => (i.zero, i.size, i.bytes)) = some (some (.slice none 0 0), 1, 24) := by kernel_rfl

set_option maxHeartbeats 4000000 in
set_option maxRecDepth 100000 in
theorem trGroups_any (n : Nat) (hn : n ≤ 12) (t : Nat → Nat → Bool) (hsym : ∀ i j, t i j = t j i) (At : Option Addr) (ct : Nat) (G : Nat → Nat) (B0 : Nat) : ∀ (need : Nat) (q : List Int) (A : Option Addr) (c : Nat) (w : World),
    TabG w B0 (.slice At n ct) n n G t → (∀ x ∈ q, 0 ≤ x ∧ x < n) → q.length + need ≤ 100 → CRead w w.heap.size A (icells q) → (q = [] → A = none ∧ c = 0) →
    Calls Tryd.prog 57 #[.slice At n ct, .slice A q.length c, .int .i64 ((q.length + need : Nat) : Int)] w (GotLL w (listsC t need q (candR t n q (fromQ q)))) := by
  obtain ⟨i0, hi, hz0, hz1, hz2⟩ := info_parts Tryd.infoInt
  obtain ⟨i1, hj, hy0, hy1, hy2⟩ := info_parts Tryd.infoIntsG
  intro need
  induction need with
  | zero =>
    intro q A c w tab hq h100 hA hnil
    rw [listsC_zero]
    have hown := l1Own_all q A c w (by omega) hA hnil
    have Hown := Lib.hid hown
    clear hown tab
    rw [Nat.add_zero]
    go_enter Tryd.func57, Tryd.ntmps57
    go_wp2_with fail
    refine Hown.out.mono ?_
    rintro e w1 ⟨A1, c1, rfl, own1, hb1⟩
    go_wp2
    go_ret
    refine ⟨_, _, [.slice A1 q.length c1], rfl, ⟨?_, fun i l hl => ?_, fun e => by simp at e⟩, hb1.alloc hb1.size _⟩
    · refine ⟨by simp, .inr ⟨w1.heap.size, 1, #[.slice A1 q.length c1], rfl, hb1.size, heap_alloc_new w1 _, by simp, by simp [maxLen], by simp, by simp⟩⟩
    · match i, hl with
      | 0, hl =>
        simp at hl
        subst hl
        exact ⟨A1, c1, by simp, own_below own1 ((Below.refl _ w1).alloc (Nat.le_refl _) _) (Nat.le_refl _)⟩
  | succ need ih =>
    intro q A c w tab hq h100 hA hnil
    obtain ⟨L, hL⟩ : ∃ L, listsC t (need + 1) q (candR t n q (fromQ q)) = L := ⟨_, rfl⟩
    have hL4096 := lists_candR (t := t) (k := need + 1) hn q (fromQ q)
    rw [hL] at hL4096 ⊢
    obtain ⟨sz, hsz⟩ : ∃ sz : Int, ((q.length + (need + 1) : Nat) : Int) = sz := ⟨_, rfl⟩
    have hne : ((q.length : Int) == sz) = false := by simp only [beq_eq_false_iff_ne, ne_eq]; omega
    rw [hsz]
    have HSZ := Lib.hid hsz
    clear hsz
    have Tab := Lib.hid tab
    have Hq := Lib.hid hq
    rcases List.eq_nil_or_concat q with hq0 | ⟨q', x, hqx⟩
    · obtain ⟨rfl, rfl⟩ := hnil hq0
      subst hq0
      have HL := Lib.hid (show listsC t (need + 1) [] (candR t n [] 0) = L from hL)
      clear hL tab hq hnil
      generalize hqq : ([] : List Int) = q at *
      have hq0 : ¬ (0 : Int) < (q.length : Int) := by rw [← hqq]; simp
      go_enter Tryd.func57, Tryd.ntmps57
      go_wp2
      go_loopw [8, 9] (fun v i wr => ∃ (a : Nat) (done : List (List Int)) (hs : List Value), a ≤ n ∧ i = .int .i64 a ∧ L = done ++ listsC t (need + 1) q (candR t n q a) ∧ LRows wr w.heap.size v done hs ∧ Below w.heap.size w wr) (fun _ i _ => n - (intOf i).toNat)
      case atStart => exact ⟨0, [], [], by omega, by go_num, by rw [HL.out]; rfl, LRows.none _ _, Below.refl _ _⟩
      case round =>
        obtain ⟨a, done, hs, han, rfl, hL, rows, hb⟩ := hrel
        have s0 := hb.size
        have hLl := congrArg List.length hL
        rw [List.length_append] at hLl
        have HL' := Lib.hid hL
        clear hL
        by_cases hlt : a < n
        · have hai : (a : Int) < n := by omega
          go_wp2_with fail
          refine (trKnows_any n a t At ct G B0 q none 0 _ hn hlt (Tab.out.below hb (Nat.le_refl _)) Hq.out (by omega) ((hA.below hb (Nat.le_refl _)).more s0)).mono ?_
          rintro e w1 ⟨rfl, rfl⟩
          cases hk : (q.all fun y => t a y.toNat) with
          | false =>
            have Hk := Lib.hid hk
            clear hk
            go_wp2
            go_roundw
            case rel => exact ⟨a + 1, done, hs, by omega, by go_num, by rw [HL'.out, candR_no hlt Hk.out], rows, hb⟩
            case measure => simp [intOf]; omega
          | true =>
            have Hk := Lib.hid hk
            clear hk
            go_wp2_with fail
            refine (l1Own_all q none 0 _ (by omega) ((hA.below hb (Nat.le_refl _)).more s0) (fun _ => ⟨rfl, rfl⟩)).mono ?_
            rintro e w2 ⟨A2, c2, rfl, own2, hb2⟩
            have s2 := hb2.size
            go_wp2_with (at_builtin; refine wpList_append_own _ rfl _ _ 25 rfl wr.heap.size 3 i0 _ 1 8 Tryd.underlying25 hi hz0 hz1 hz2 rfl (by decide) _ _ _ rfl (own2.alloc _) ⟨w2.heap.size, 0, none⟩ 1 1 [.int .i64 a] rfl rfl (one_cell (by simp)) (one_one rfl) (by unfold maxLen; omega) (by omega) (by simp; omega) ?_; intro v3 w3 own3 gr3 _; obtain ⟨A3, c3, rfl, _⟩ := own_shape own3)
            have hb3 : Below wr.heap.size wr w3 := (hb2.alloc s2 _).grown gr3 (by simp; omega) (fun k hk => (own2.lt k hk).1)
            have s3 := hb3.size
            have k3 := hb.trans (hb3.mono s0)
            have hll : (q ++ [(a : Int)]).length = q.length + 1 := by simp
            have ihc := ih (q ++ [(a : Int)]) A3 c3 w3 (Tab.out.below k3 (Nat.le_refl _)) (fun x hx => by rcases List.mem_append.1 hx with h | h; exact Hq.out x h; simp at h; omega) (by rw [hll]; omega) (by rw [icells_append]; exact CRead.of_own own3) (fun e => by simp at e)
            rw [← candR_tied hsym, hll, show q.length + 1 + need = q.length + (need + 1) from by omega, HSZ.out] at ihc
            have e1 := candR_yes hlt Hk.out
            have hL2 := HL'.out
            rw [e1, listsC_cons, ← List.append_assoc] at hL2
            obtain ⟨L4, hL4⟩ : ∃ L4, listsC t need (q ++ [(a : Int)]) ((candR t n q (a + 1)).filter (t a)) = L4 := ⟨_, rfl⟩
            rw [hL4] at ihc hL2
            have hl4 := congrArg List.length hL2
            simp only [List.length_append] at hl4
            have HL2 := Lib.hid hL2
            have rows3 := rows.below (hb3.mono (Nat.le_refl _))
            have IHC := Lib.hid ihc
            clear ihc e1 hL4 hL2 own2 own3 gr3 rows hLl HL'
            go_wp2_with fail
            refine IHC.out.mono ?_
            rintro e w4 ⟨A4, c4, hs4, rfl, rows4, hb4⟩
            have s4 := hb4.size
            have k4 := k3.trans (hb4.mono k3.size)
            have rows3' := rows3.below hb4
            have rows4' := rows4.lower (B' := w.heap.size) (by omega)
            clear rows3 rows4 IHC
            by_cases hz4 : L4 = []
            · have e4 := rows4'.nil hz4
              subst hz4
              simp only [List.length_nil, Value.slice.injEq, true_and] at e4
              obtain ⟨rfl, rfl⟩ := e4
              go_wp2_with (at_builtin; refine wpList_append_own_none rfl _ _ 42 rfl w.heap.size 25 i1 1 Tryd.underlying42 hj _ done.length hs rfl rows3'.own rfl ?_)
              go_roundw
              case rel => exact ⟨a + 1, done, hs, by omega, by go_num, by rw [HL2.out, List.append_nil], rows3', k4⟩
              case measure => simp [intOf]; omega
            · have hp4 : 0 < L4.length := by cases L4 with | nil => exact absurd rfl hz4 | cons x y => simp
              obtain ⟨g4, rfl⟩ := own_form rows4'.own hp4
              have rd4 := CRead.of_own rows4'.own
              have hc4 : ∀ j u, hs4[j]? = some u → w4.cell? ((⟨g4, 0, none⟩ : Addr).add j) = some u := fun j u hj => by
                obtain ⟨b, off, e, _, hcell⟩ := rd4 j u hj
                simp only [Option.some.injEq, Addr.mk.injEq, and_true] at e
                obtain ⟨rfl, rfl⟩ := e
                rw [Addr.add_lit]
                exact hcell
              go_wp2_with (at_builtin; refine wpList_append_own _ rfl _ _ 42 rfl w.heap.size 25 i1 _ 1 24 Tryd.underlying42 hj hy0 hy1 hy2 rfl (by decide) _ _ _ rfl rows3'.own ⟨g4, 0, none⟩ L4.length c4 hs4 rfl (by rw [rows4'.length, Nat.mul_one]) hc4 rows4'.one (by unfold maxLen; omega) (by omega) (by omega) ?_; intro v5 w5 own5 gr5 _; obtain ⟨A5, c5, rfl, _⟩ := own_shape own5)
              have rows5 := rows3'.append rows4' own5 gr5 hz4
              have k5 := k4.grown gr5 (by omega) (fun k hk => (rows3'.own.lt k hk).1)
              go_roundw
              case rel => exact ⟨a + 1, _, _, by omega, by go_num, HL2.out, rows5, k5⟩
              case measure => simp [intOf]; omega
        · have hal : a = n := by omega
          subst hal
          have hge : ¬ ((a : Int) < a) := by omega
          have e := HL'.out
          rw [candR_end _ _ _ (Nat.le_refl _), listsC_nil, List.append_nil] at e
          obtain ⟨A5, c5, rfl, _⟩ := own_shape rows.own
          have HE := Lib.hid e
          clear e HL'
          go_wp2
          go_ret
          rw [HE.out]
          exact ⟨A5, c5, hs, rfl, rows, hb⟩
    · have hx : q[q.length - 1]? = some x := by rw [hqx]; simp
      have hxn := hq x (List.mem_of_getElem? hx)
      have hqpos : 0 < q.length := by rw [hqx]; simp
      have hfrom : fromQ q = x.toNat + 1 := by rw [hqx]; unfold fromQ; simp
      obtain ⟨y, rfl⟩ : ∃ y : Nat, x = y := ⟨x.toNat, by omega⟩
      rw [Int.toNat_natCast] at hfrom
      rw [hfrom] at hL
      have HL := Lib.hid hL
      have hqi : (0 : Int) < (q.length : Int) := by omega
      have hq1 : (0 : Int) ≤ (q.length : Int) - 1 := by omega
      have hq2 : ((q.length : Int) - 1).toNat = q.length - 1 := by omega
      obtain ⟨b, off, rfl, hbb, cx⟩ := hA.int hx
      clear hL tab hq hqx hfrom hx
      have Hqpos := Lib.hid hqpos
      go_enter Tryd.func57, Tryd.ntmps57
      go_wp2
      clear hqi hq1 hq2 cx
      go_loopw [8, 9] (fun v i wr => ∃ (a : Nat) (done : List (List Int)) (hs : List Value), a ≤ n ∧ i = .int .i64 a ∧ L = done ++ listsC t (need + 1) q (candR t n q a) ∧ LRows wr w.heap.size v done hs ∧ Below w.heap.size w wr) (fun _ i _ => n - (intOf i).toNat)
      case atStart => exact ⟨y + 1, [], [], by omega, by go_num, by rw [HL.out]; rfl, LRows.none _ _, Below.refl _ _⟩
      case round =>
        obtain ⟨a, done, hs, han, rfl, hL, rows, hb⟩ := hrel
        have s0 := hb.size
        have hLl := congrArg List.length hL
        rw [List.length_append] at hLl
        have HL' := Lib.hid hL
        clear hL
        by_cases hlt : a < n
        · have hai : (a : Int) < n := by omega
          go_wp2_with fail
          refine (trKnows_any n a t At ct G B0 q (some ⟨b, off, none⟩) c _ hn hlt (Tab.out.below hb (Nat.le_refl _)) Hq.out (by omega) ((hA.below hb (Nat.le_refl _)).more s0)).mono ?_
          rintro e w1 ⟨rfl, rfl⟩
          cases hk : (q.all fun y => t a y.toNat) with
          | false =>
            have Hk := Lib.hid hk
            clear hk
            go_wp2
            go_roundw
            case rel => exact ⟨a + 1, done, hs, by omega, by go_num, by rw [HL'.out, candR_no hlt Hk.out], rows, hb⟩
            case measure => simp [intOf]; omega
          | true =>
            have Hk := Lib.hid hk
            clear hk
            go_wp2_with fail
            refine (l1Own_all q (some ⟨b, off, none⟩) c _ (by omega) ((hA.below hb (Nat.le_refl _)).more s0) (fun e => by have h := Hqpos.out; rw [e] at h; simp at h)).mono ?_
            rintro e w2 ⟨A2, c2, rfl, own2, hb2⟩
            have s2 := hb2.size
            go_wp2_with (at_builtin; refine wpList_append_own _ rfl _ _ 25 rfl wr.heap.size 3 i0 _ 1 8 Tryd.underlying25 hi hz0 hz1 hz2 rfl (by decide) _ _ _ rfl (own2.alloc _) ⟨w2.heap.size, 0, none⟩ 1 1 [.int .i64 a] rfl rfl (one_cell (by simp)) (one_one rfl) (by unfold maxLen; omega) (by omega) (by simp; omega) ?_; intro v3 w3 own3 gr3 _; obtain ⟨A3, c3, rfl, _⟩ := own_shape own3)
            have hb3 : Below wr.heap.size wr w3 := (hb2.alloc s2 _).grown gr3 (by simp; omega) (fun k hk => (own2.lt k hk).1)
            have s3 := hb3.size
            have k3 := hb.trans (hb3.mono s0)
            have hll : (q ++ [(a : Int)]).length = q.length + 1 := by simp
            have ihc := ih (q ++ [(a : Int)]) A3 c3 w3 (Tab.out.below k3 (Nat.le_refl _)) (fun x hx => by rcases List.mem_append.1 hx with h | h; exact Hq.out x h; simp at h; omega) (by rw [hll]; omega) (by rw [icells_append]; exact CRead.of_own own3) (fun e => by simp at e)
            rw [← candR_tied hsym, hll, show q.length + 1 + need = q.length + (need + 1) from by omega, HSZ.out] at ihc
            have e1 := candR_yes hlt Hk.out
            have hL2 := HL'.out
            rw [e1, listsC_cons, ← List.append_assoc] at hL2
            obtain ⟨L4, hL4⟩ : ∃ L4, listsC t need (q ++ [(a : Int)]) ((candR t n q (a + 1)).filter (t a)) = L4 := ⟨_, rfl⟩
            rw [hL4] at ihc hL2
            have hl4 := congrArg List.length hL2
            simp only [List.length_append] at hl4
            have HL2 := Lib.hid hL2
            have rows3 := rows.below (hb3.mono (Nat.le_refl _))
            have IHC := Lib.hid ihc
            clear ihc e1 hL4 hL2 own2 own3 gr3 rows hLl HL'
            go_wp2_with fail
            refine IHC.out.mono ?_
            rintro e w4 ⟨A4, c4, hs4, rfl, rows4, hb4⟩
            have s4 := hb4.size
            have k4 := k3.trans (hb4.mono k3.size)
            have rows3' := rows3.below hb4
            have rows4' := rows4.lower (B' := w.heap.size) (by omega)
            clear rows3 rows4 IHC
            by_cases hz4 : L4 = []
            · have e4 := rows4'.nil hz4
              subst hz4
              simp only [List.length_nil, Value.slice.injEq, true_and] at e4
              obtain ⟨rfl, rfl⟩ := e4
              go_wp2_with (at_builtin; refine wpList_append_own_none rfl _ _ 42 rfl w.heap.size 25 i1 1 Tryd.underlying42 hj _ done.length hs rfl rows3'.own rfl ?_)
              go_roundw
              case rel => exact ⟨a + 1, done, hs, by omega, by go_num, by rw [HL2.out, List.append_nil], rows3', k4⟩
              case measure => simp [intOf]; omega
            · have hp4 : 0 < L4.length := by cases L4 with | nil => exact absurd rfl hz4 | cons x y => simp
              obtain ⟨g4, rfl⟩ := own_form rows4'.own hp4
              have rd4 := CRead.of_own rows4'.own
              have hc4 : ∀ j u, hs4[j]? = some u → w4.cell? ((⟨g4, 0, none⟩ : Addr).add j) = some u := fun j u hj => by
                obtain ⟨b, off, e, _, hcell⟩ := rd4 j u hj
                simp only [Option.some.injEq, Addr.mk.injEq, and_true] at e
                obtain ⟨rfl, rfl⟩ := e
                rw [Addr.add_lit]
                exact hcell
              go_wp2_with (at_builtin; refine wpList_append_own _ rfl _ _ 42 rfl w.heap.size 25 i1 _ 1 24 Tryd.underlying42 hj hy0 hy1 hy2 rfl (by decide) _ _ _ rfl rows3'.own ⟨g4, 0, none⟩ L4.length c4 hs4 rfl (by rw [rows4'.length, Nat.mul_one]) hc4 rows4'.one (by unfold maxLen; omega) (by omega) (by omega) ?_; intro v5 w5 own5 gr5 _; obtain ⟨A5, c5, rfl, _⟩ := own_shape own5)
              have rows5 := rows3'.append rows4' own5 gr5 hz4
              have k5 := k4.grown gr5 (by omega) (fun k hk => (rows3'.own.lt k hk).1)
              go_roundw
              case rel => exact ⟨a + 1, _, _, by omega, by go_num, HL2.out, rows5, k5⟩
              case measure => simp [intOf]; omega
        · have hal : a = n := by omega
          subst hal
          have hge : ¬ ((a : Int) < a) := by omega
          have e := HL'.out
          rw [candR_end _ _ _ (Nat.le_refl _), listsC_nil, List.append_nil] at e
          obtain ⟨A5, c5, rfl, _⟩ := own_shape rows.own
          have HE := Lib.hid e
          clear e HL'
          go_wp2
          go_ret
          rw [HE.out]
          exact ⟨A5, c5, hs, rfl, rows, hb⟩
end Go.Proofs.YtnpljmipicjacaaDoor
/-
  TIES AS THE PROGRAM HAS THEM, twelve sets of people: made of a party's pairs ('friendsIn'); those missing ('strangersIn'); everybody. Written by wip/tools/gen_ties.py.
-/
namespace Go.Proofs.YtnpljmipicjacaaDoor
open Go.RowKit

def updN (T : Nat → Nat) (a v : Nat) : Nat → Nat := fun i => if i = a then v else T i
/-- one pair more is tied -/
def withT (T : Nat → Nat) (a b : Nat) : Nat → Nat := updN (updN T a (T a ||| 2 ^ b)) b (updN T a (T a ||| 2 ^ b) b ||| 2 ^ a)
theorem tcells_row (T : Nat → Nat) : ∀ m, m < 12 → (tcells T)[m]? = some (Value.int .u16 (T m)) := tcells_at T
theorem rowIs_u16 (w : World) (T : Nat → Nat) (ty : TypeId) : (w.alloc (.cells (tcells T) ty)).rowIs w.heap.size ty 12 (fun j => .int .u16 (T j)) :=
  ⟨tcells T, heap_alloc_new w _, rfl, fun i hi => tcells_at T i hi⟩
theorem shl_bit {a : Nat} (ha : a < 16) : IntKind.u16.wrap (2 ^ min a 16) = ((2 ^ a : Nat) : Int) := by
  have h2 : 2 ^ a < 2 ^ 16 := Nat.pow_lt_pow_right (by omega) ha
  rw [show (2 : Nat) ^ 16 = 65536 from rfl] at h2
  obtain ⟨m, hm⟩ : ∃ m, 2 ^ a = m := ⟨_, rfl⟩
  rw [Nat.min_eq_left (by omega), IntKind.wrap_u16, show (2 : Int) ^ a = ((2 ^ a : Nat) : Int) from by simp, hm]
  rw [hm] at h2
  omega
theorem two_lt {a : Nat} (ha : a < 16) : 2 ^ a < 65536 := by
  have h2 : 2 ^ a < 2 ^ 16 := Nat.pow_lt_pow_right (by omega) ha
  rwa [show (2 : Nat) ^ 16 = 65536 from rfl] at h2
theorem or_bit {x a : Nat} (hx : x < 65536) (ha : a < 16) : bits BinOp.or IntKind.u16 (x : Int) (IntKind.u16.wrap (2 ^ min a 16)) = ((x ||| 2 ^ a : Nat) : Int) := by
  rw [shl_bit ha, u16_or_nat x _ hx (two_lt ha)]
theorem or_bit2 {x a : Nat} (hx : x < 65536) (ha : a < 16) : bits BinOp.or IntKind.u16 (x : Int) (IntKind.u16.wrap (2 ^ a)) = ((x ||| 2 ^ a : Nat) : Int) := by
  have := or_bit hx ha
  rwa [Nat.min_eq_left (by omega)] at this
theorem or_lt {x a : Nat} (hx : x < 65536) (ha : a < 16) : x ||| 2 ^ a < 65536 := Nat.or_lt_two_pow (n := 16) hx (two_lt ha)

set_option maxHeartbeats 4000000 in
set_option maxRecDepth 100000 in
theorem tiesWith_any (T : Nat → Nat) (a b : Nat) (ha : a < 12) (hb : b < 12) (hT : ∀ i, i < 12 → T i < 65536) (w : World) :
    Calls Tryd.prog 71 #[.agg (tcells T), .agg #[.int .i64 a, .int .i64 b]] w fun e w' => e = .returned (.agg (tcells (withT T a b))) ∧ Below w.heap.size w w' := by
  have hai : (a : Int) < 12 := by omega
  have hbi : (b : Int) < 12 := by omega
  obtain ⟨W, hW⟩ : ∃ W, ((w.alloc (Obj.cells (tcells T) 63)).alloc (Obj.cells #[.int .i64 a, .int .i64 b] 85)).alloc (Obj.cells #[.int .u16 0, .int .u16 0, .int .u16 0, .int .u16 0, .int .u16 0, .int .u16 0, .int .u16 0, .int .u16 0, .int .u16 0, .int .u16 0, .int .u16 0, .int .u16 0] 63) = W := ⟨_, rfl⟩
  have kW : Below w.heap.size w W := by rw [← hW]; go_grown
  have zW : W.heap.size = w.heap.size + 3 := by rw [← hW]; simp
  have row0 : W.rowIs w.heap.size 63 12 (fun j => .int .u16 (T j)) := by rw [← hW]; exact ((rowIs_u16 w T _).alloc _).alloc _
  have p0 : W.cell? ⟨w.heap.size + 1, 0, none⟩ = some (.int .i64 a) := by rw [← hW]; exact (World.cell?_alloc_lt _ _ _ (by simp)).trans (by simp)
  have p1 : W.cell? ⟨w.heap.size + 1, 1, none⟩ = some (.int .i64 b) := by rw [← hW]; exact (World.cell?_alloc_lt _ _ _ (by simp)).trans (by simp)
  have rowR : W.rowIs (w.heap.size + 2) 63 12 (fun _ => .int .u16 0) := by
    rw [← hW]
    have := rowIs_u16 ((w.alloc (Obj.cells (tcells T) 63)).alloc (Obj.cells #[.int .i64 a, .int .i64 b] 85)) (fun _ => 0) 63
    simp only [World.size_alloc] at this
    exact this
  have s1 : w.heap.size ≠ w.heap.size + 1 := by omega
  -- the first store
  have q0 := row0.cell ha
  have f0 := row0.frozen a
  have o1 := or_bit2 (hT a ha) (show b < 16 by omega)
  have l1 := or_lt (hT a ha) (show b < 16 by omega)
  have row1 := row0.set a (.int .u16 ((T a ||| 2 ^ b : Nat) : Int))
  have row1' : (W.setCell ⟨w.heap.size, a, none⟩ (.int .u16 ((T a ||| 2 ^ b : Nat) : Int))).rowIs w.heap.size 63 12 (fun j => .int .u16 (updN T a (T a ||| 2 ^ b) j : Nat)) := row1.congr fun j _ => by unfold updN; by_cases h : j = a <;> simp [h]
  obtain ⟨T1, hT1⟩ : ∃ T1, updN T a (T a ||| 2 ^ b) = T1 := ⟨_, rfl⟩
  have hT1l : T1 b < 65536 := by rw [← hT1]; unfold updN; split; exact l1; exact hT b hb
  have hw : withT T a b = updN T1 b (T1 b ||| 2 ^ a) := by unfold withT; rw [hT1]
  rw [hT1] at row1'
  rw [hw]
  obtain ⟨r1, hr1⟩ : ∃ r1, T a ||| 2 ^ b = r1 := ⟨_, rfl⟩
  rw [hr1] at o1 row1'
  have P0 := (World.cell?_setCell_other W ⟨w.heap.size, a, none⟩ ⟨w.heap.size + 1, 0, none⟩ (.int .u16 (r1 : Int)) (by simp)).trans p0
  have P1 := (World.cell?_setCell_other W ⟨w.heap.size, a, none⟩ ⟨w.heap.size + 1, 1, none⟩ (.int .u16 (r1 : Int)) (by simp)).trans p1
  have rowR1 := rowR.setOther (a := ⟨w.heap.size, a, none⟩) (by simp) (.int .u16 (r1 : Int))
  have kX := kW.setCell (p := ⟨w.heap.size, a, none⟩) (Nat.le_refl _) (.int .u16 (r1 : Int))
  have HW := Lib.hid hW
  have ROW1 := Lib.hid row1'
  have ROWR1 := Lib.hid rowR1
  have KX := Lib.hid kX
  have PP0 := Lib.hid P0
  have PP1 := Lib.hid P1
  clear hT hT1 hw hr1 row0 row1 row1' rowR rowR1 hW kX P0 P1
  unfold tcells at HW ⊢
  go_enter Tryd.func71, Tryd.ntmps71
  go_wp2_with fail
  rw [HW.out]
  refine wp_region_still_tail 9 (by kernel_rfl) (by kernel_rfl) ?_
  simp only [List.take_succ_cons, List.take_zero, List.drop_succ_cons, List.drop_zero]
  repeat still_step
  refine wpStill_nil ?_
  change wpList _ _ _ _ _ (World.drew _)
  go_wp2_with fail
  try rw [o1]
  obtain ⟨X, hX⟩ : ∃ X, (W.setCell ⟨w.heap.size, a, none⟩ (.int .u16 (r1 : Int))).drew = X := ⟨_, rfl⟩
  rw [hX]
  have rowX : X.rowIs w.heap.size 63 12 (fun j => .int .u16 (T1 j)) := by rw [← hX]; exact ROW1.out
  have rowZ : X.rowIs (w.heap.size + 2) 63 12 (fun _ => .int .u16 0) := by rw [← hX]; exact ROWR1.out
  have kX : Below w.heap.size w X := by rw [← hX]; exact KX.out.drew
  have p0 : X.cell? ⟨w.heap.size + 1, 0, none⟩ = some (.int .i64 a) := by rw [← hX]; exact PP0.out
  have p1 : X.cell? ⟨w.heap.size + 1, 1, none⟩ = some (.int .i64 b) := by rw [← hX]; exact PP1.out
  have q0 := rowX.cell hb
  have f0 := rowX.frozen b
  have o2 := or_bit2 hT1l (show a < 16 by omega)
  have row2 := rowX.set b (.int .u16 ((T1 b ||| 2 ^ a : Nat) : Int))
  have row2' : (X.setCell ⟨w.heap.size, b, none⟩ (.int .u16 ((T1 b ||| 2 ^ a : Nat) : Int))).rowIs w.heap.size 63 12 (fun j => .int .u16 (updN T1 b (T1 b ||| 2 ^ a) j : Nat)) := row2.congr fun j _ => by unfold updN; by_cases h : j = b <;> simp [h]
  obtain ⟨T2, hT2⟩ : ∃ T2, updN T1 b (T1 b ||| 2 ^ a) = T2 := ⟨_, rfl⟩
  have HT2 := Lib.hid hT2
  obtain ⟨r2, hr2⟩ : ∃ r2, T1 b ||| 2 ^ a = r2 := ⟨_, rfl⟩
  rw [hT2] at row2'
  rw [hr2] at o2 row2'
  have rowZ2 := rowZ.setOther (a := ⟨w.heap.size, b, none⟩) (by simp) (.int .u16 (r2 : Int))
  have kY := kX.setCell (p := ⟨w.heap.size, b, none⟩) (Nat.le_refl _) (.int .u16 (r2 : Int))
  have ROW2 := Lib.hid row2'
  have ROWZ2 := Lib.hid rowZ2
  have KY := Lib.hid kY
  clear hX rowX rowZ row2 row2' rowZ2 hT2 hr2 kX kY
  refine wp_region_still_tail 9 (by kernel_rfl) (by kernel_rfl) ?_
  simp only [List.take_succ_cons, List.take_zero, List.drop_succ_cons, List.drop_zero]
  repeat still_step
  refine wpStill_nil ?_
  change wpList _ _ _ _ _ (World.drew _)
  go_upto_region 3 with fail
  try rw [o2]
  obtain ⟨Y, hY⟩ : ∃ Y, (X.setCell ⟨w.heap.size, b, none⟩ (.int .u16 (r2 : Int))).drew = Y := ⟨_, rfl⟩
  rw [hY]
  have rowY : Y.rowIs w.heap.size 63 12 (fun j => .int .u16 (T2 j)) := by rw [← hY]; exact ROW2.out
  have rowZ : Y.rowIs (w.heap.size + 2) 63 12 (fun _ => .int .u16 0) := by rw [← hY]; exact ROWZ2.out
  have kY : Below w.heap.size w Y := by rw [← hY]; exact KY.out.drew
  clear hY p0 p1 q0 f0 o1 o2 hai hbi
  have r0 := rowY.cell (i := 0) (by omega)
  have r1 := rowY.cell (i := 1) (by omega)
  have r2 := rowY.cell (i := 2) (by omega)
  have r3 := rowY.cell (i := 3) (by omega)
  have r4 := rowY.cell (i := 4) (by omega)
  have r5 := rowY.cell (i := 5) (by omega)
  have r6 := rowY.cell (i := 6) (by omega)
  have r7 := rowY.cell (i := 7) (by omega)
  have r8 := rowY.cell (i := 8) (by omega)
  have r9 := rowY.cell (i := 9) (by omega)
  have r10 := rowY.cell (i := 10) (by omega)
  have r11 := rowY.cell (i := 11) (by omega)
  have g0 := rowZ.cell (i := 0) (by omega)
  have g1 := rowZ.cell (i := 1) (by omega)
  have g2 := rowZ.cell (i := 2) (by omega)
  have g3 := rowZ.cell (i := 3) (by omega)
  have g4 := rowZ.cell (i := 4) (by omega)
  have g5 := rowZ.cell (i := 5) (by omega)
  have g6 := rowZ.cell (i := 6) (by omega)
  have g7 := rowZ.cell (i := 7) (by omega)
  have g8 := rowZ.cell (i := 8) (by omega)
  have g9 := rowZ.cell (i := 9) (by omega)
  have g10 := rowZ.cell (i := 10) (by omega)
  have g11 := rowZ.cell (i := 11) (by omega)
  have e0 := rowZ.frozen 0
  have e1 := rowZ.frozen 1
  have e2 := rowZ.frozen 2
  have e3 := rowZ.frozen 3
  have e4 := rowZ.frozen 4
  have e5 := rowZ.frozen 5
  have e6 := rowZ.frozen 6
  have e7 := rowZ.frozen 7
  have e8 := rowZ.frozen 8
  have e9 := rowZ.frozen 9
  have e10 := rowZ.frozen 10
  have e11 := rowZ.frozen 11
  have KY2 := Lib.hid kY
  clear rowY rowZ kY
  go_wp2
  refine bodyPost_ret (v := .agg #[.int .u16 (T2 0), .int .u16 (T2 1), .int .u16 (T2 2), .int .u16 (T2 3), .int .u16 (T2 4), .int .u16 (T2 5), .int .u16 (T2 6), .int .u16 (T2 7), .int .u16 (T2 8), .int .u16 (T2 9), .int .u16 (T2 10), .int .u16 (T2 11)]) (by simp [results, Tryd.results71, go_sem, g0, g1, g2, g3, g4, g5, g6, g7, g8, g9, g10, g11]) rfl ?_
  rw [← HT2.out] 
  exact ⟨rfl, ((((((((((((KY2.out.setCell (p := ⟨w.heap.size + 2, 0, none⟩) (by simp) _).setCell (p := ⟨w.heap.size + 2, 1, none⟩) (by simp) _).setCell (p := ⟨w.heap.size + 2, 2, none⟩) (by simp) _).setCell (p := ⟨w.heap.size + 2, 3, none⟩) (by simp) _).setCell (p := ⟨w.heap.size + 2, 4, none⟩) (by simp) _).setCell (p := ⟨w.heap.size + 2, 5, none⟩) (by simp) _).setCell (p := ⟨w.heap.size + 2, 6, none⟩) (by simp) _).setCell (p := ⟨w.heap.size + 2, 7, none⟩) (by simp) _).setCell (p := ⟨w.heap.size + 2, 8, none⟩) (by simp) _).setCell (p := ⟨w.heap.size + 2, 9, none⟩) (by simp) _).setCell (p := ⟨w.heap.size + 2, 10, none⟩) (by simp) _).setCell (p := ⟨w.heap.size + 2, 11, none⟩) (by simp) _)⟩
end Go.Proofs.YtnpljmipicjacaaDoor
/-
  TIES MADE OF A PARTY's PAIRS ('friendsIn'); everybody. Written by wip/tools/gen_ties2.py.
-/
namespace Go.Proofs.YtnpljmipicjacaaDoor
open Go.RowKit

theorem TiesOf.none : TiesOf (fun _ => 0) (adj []) := ⟨fun a b _ _ => by rw [Nat.zero_testBit]; rfl, fun a _ => by omega⟩
theorem TiesOf.congr {T : Nat → Nat} {t t' : Nat → Nat → Bool} (h : TiesOf T t) (e : ∀ a b, a < 12 → b < 16 → t a b = t' a b) : TiesOf T t' := ⟨fun a b ha hb => (h.bit a b ha hb).trans (e a b ha hb), h.lt⟩
theorem TiesOf.with {T : Nat → Nat} {t : Nat → Nat → Bool} (h : TiesOf T t) {a b : Nat} (ha : a < 12) (hb : b < 12) (hab : a ≠ b) : TiesOf (withT T a b) (upd (upd t a b true) b a true) := by
  have e1 : ∀ i, withT T a b i = if i = b then T b ||| 2 ^ a else if i = a then T a ||| 2 ^ b else T i := fun i => by
    unfold withT updN
    by_cases h1 : i = b
    · rw [if_pos h1, if_pos h1, if_neg (by omega)]
    · rw [if_neg h1, if_neg h1]
  refine ⟨fun i j hi hj => ?_, fun i hi => ?_⟩
  · rw [e1]
    unfold upd
    by_cases h1 : i = b
    · rw [if_pos h1, Nat.testBit_or, Nat.testBit_two_pow, h.bit b j hb hj]
      by_cases h2 : j = a
      · simp [h1, h2]
      · have h3 : ¬ (a = j) := fun e => h2 e.symm
        have h4 : ¬ (b = a) := fun e => hab e.symm
        simp [h1, h2, h3, h4]
    · rw [if_neg h1]
      by_cases h2 : i = a
      · rw [if_pos h2, Nat.testBit_or, Nat.testBit_two_pow, h.bit a j ha hj]
        by_cases h3 : j = b
        · simp [h2, h3, hab]
        · have h4 : ¬ (b = j) := fun e => h3 e.symm
          simp [h2, h3, h4, hab]
      · rw [if_neg h2, h.bit i j hi hj]
        simp [h1, h2]
  · rw [e1]
    split
    · exact or_lt (h.lt b hb) (by omega)
    · split
      · exact or_lt (h.lt a ha) (by omega)
      · exact h.lt i hi
theorem people_bits : ∀ n : Fin 13, ((2 : Int) ^ n.val % 65536 - 1) % 65536 = ((2 ^ n.val - 1 : Nat) : Int) := by decide

set_option maxHeartbeats 1000000 in
theorem everybody_any (n : Nat) (hn : n ≤ 12) (w : World) : Calls Tryd.prog 54 #[.int .i64 n] w fun e w' => e = .returned (.int .u16 ((2 ^ n - 1 : Nat) : Int)) ∧ w = w' := by
  have h0 : (0 : Int) ≤ n := by omega
  have e := people_bits ⟨n, by omega⟩
  have hn12 : (n : Int) ≤ 12 := by omega
  go_enter Tryd.func54, Tryd.ntmps54
  go_wp2
  go_ret
  refine ⟨?_, rfl⟩
  rw [← e, IntKind.wrap_u16, IntKind.wrap_u16]
  rfl

/-- the ties of a list of pairs -/
def friendsT (l : PL) : Nat → Nat := l.foldl (fun T q => withT T q.1.toNat q.2.toNat) fun _ => 0
theorem friendsT_snoc (l : PL) (a b : Nat) : friendsT (l ++ [((a : Int), (b : Int))]) = withT (friendsT l) a b := by simp [friendsT]

set_option maxHeartbeats 4000000 in
set_option maxRecDepth 100000 in
theorem friendsIn_any (p : Int) (l : PL) (A : Option Addr) (c : Nat) (w : World) (hp : isP p l = true) (hA : CRead w w.heap.size A (pcells l)) :
    Calls Tryd.prog 46 #[.agg #[.int .i64 p, .slice A l.length c]] w fun e w' => e = .returned (.agg (tcells (friendsT l))) ∧ TiesOf (friendsT l) (adj l) ∧ Below w.heap.size w w' := by
  have hn := isP_range hp
  have hlen : l.length ≤ 66 := by have h1 := isP_length hp; have h2 := people_sq hn.1 hn.2; omega
  obtain ⟨W, hW⟩ : ∃ W, ((w.alloc (Obj.cells #[.int .i64 p, .slice A l.length c] 31)).alloc (Obj.cells #[.int .u16 0, .int .u16 0, .int .u16 0, .int .u16 0, .int .u16 0, .int .u16 0, .int .u16 0, .int .u16 0, .int .u16 0, .int .u16 0, .int .u16 0, .int .u16 0] 63)).alloc (Obj.cells #[.int .u16 0, .int .u16 0, .int .u16 0, .int .u16 0, .int .u16 0, .int .u16 0, .int .u16 0, .int .u16 0, .int .u16 0, .int .u16 0, .int .u16 0, .int .u16 0] 63) = W := ⟨_, rfl⟩
  have kW : Below w.heap.size w W := by rw [← hW]; go_grown
  have zW : W.heap.size = w.heap.size + 3 := by rw [← hW]; simp
  have p1 : W.cell? ⟨w.heap.size, 1, none⟩ = some (.slice A l.length c) := by rw [← hW]; exact (World.cell?_alloc_lt _ _ _ (by simp; omega)).trans ((World.cell?_alloc_lt _ _ _ (by simp)).trans (by simp))
  have rowR : W.rowIs (w.heap.size + 1) 63 12 (fun _ => .int .u16 0) := by
    rw [← hW]
    have := rowIs_u16 (w.alloc (Obj.cells #[.int .i64 p, .slice A l.length c] 31)) (fun _ => 0) 63
    simp only [World.size_alloc] at this
    exact this.alloc _
  have rowF : W.rowIs (w.heap.size + 2) 63 12 (fun _ => .int .u16 0) := by
    rw [← hW]
    have := rowIs_u16 ((w.alloc (Obj.cells #[.int .i64 p, .slice A l.length c] 31)).alloc (Obj.cells #[.int .u16 0, .int .u16 0, .int .u16 0, .int .u16 0, .int .u16 0, .int .u16 0, .int .u16 0, .int .u16 0, .int .u16 0, .int .u16 0, .int .u16 0, .int .u16 0] 63)) (fun _ => 0) 63
    simp only [World.size_alloc] at this
    exact this
  have Hp := Lib.hid hp
  have RF := Lib.hid rowF
  have RR := Lib.hid rowR
  have P1 := Lib.hid p1
  have HW := Lib.hid hW
  have KW := Lib.hid kW
  clear hp rowF rowR hW kW
  go_enter Tryd.func46, Tryd.ntmps46
  go_upto_region 2 with fail
  rw [HW.out]
  go_wp2_with fail
  clear p1
  go_loopw [9] (fun i wr => ∃ (m : Nat) (T : Nat → Nat), m ≤ l.length ∧ i = .int .i64 m ∧ TiesOf T (adj (l.take m)) ∧ T = friendsT (l.take m) ∧ wr.rowIs (w.heap.size + 2) 63 12 (fun j => .int .u16 (T j)) ∧ Below (w.heap.size + 2) W wr) (fun i _ => l.length - (intOf i).toNat)
  case atStart => exact ⟨0, fun _ => 0, Nat.zero_le _, rfl, TiesOf.none, rfl, RF.out, Below.refl _ _⟩
  case round =>
    obtain ⟨m, T, hm, rfl, hT, hTf, rowF, hb⟩ := hrel
    have HTf := Lib.hid hTf
    clear hTf
    have s0 := hb.size
    by_cases hlt : m < l.length
    · obtain ⟨⟨x, y⟩, hx⟩ := getSome l m hlt
      obtain ⟨h0, h1, h2⟩ := goodAt_pair (isP_good Hp.out hlt) hx
      obtain ⟨a, rfl⟩ : ∃ a : Nat, x = a := ⟨x.toNat, by omega⟩
      obtain ⟨b, rfl⟩ : ∃ b : Nat, y = b := ⟨y.toNat, by omega⟩
      have kr : Below w.heap.size w wr := KW.out.trans (hb.mono (by omega))
      obtain ⟨bb, off, rfl, hbb, c0, c1⟩ := (hA.below kr (Nat.le_refl _)).pair hx
      have hmi : (m : Int) < (l.length : Int) := by omega
      have HT := Lib.hid hT
      have Hx := Lib.hid hx
      have HB := Lib.hid hb
      have HF := Lib.hid rowF
      clear hT hx hb
      go_upto_region 5 with fail
      obtain ⟨X, hX⟩ : ∃ X, wr.alloc (Obj.cells #[.int .i64 (a : Int), .int .i64 (b : Int)] 85) = X := ⟨_, rfl⟩
      rw [hX]
      have rowX : X.rowIs (w.heap.size + 2) 63 12 (fun j => .int .u16 (T j)) := by rw [← hX]; exact rowF.alloc _
      have zX : X.heap.size = wr.heap.size + 1 := by rw [← hX]; simp
      have x0 : X.cell? ⟨wr.heap.size, 0, none⟩ = some (.int .i64 a) := by rw [← hX]; simp
      have x1 : X.cell? ⟨wr.heap.size, 1, none⟩ = some (.int .i64 b) := by rw [← hX]; simp
      have kX : Below (w.heap.size + 2) W X := by rw [← hX]; exact HB.out.alloc (by omega) _
      clear hX c0 c1 rowF
      have r0 := rowX.cell (i := 0) (by omega)
      have r1 := rowX.cell (i := 1) (by omega)
      have r2 := rowX.cell (i := 2) (by omega)
      have r3 := rowX.cell (i := 3) (by omega)
      have r4 := rowX.cell (i := 4) (by omega)
      have r5 := rowX.cell (i := 5) (by omega)
      have r6 := rowX.cell (i := 6) (by omega)
      have r7 := rowX.cell (i := 7) (by omega)
      have r8 := rowX.cell (i := 8) (by omega)
      have r9 := rowX.cell (i := 9) (by omega)
      have r10 := rowX.cell (i := 10) (by omega)
      have r11 := rowX.cell (i := 11) (by omega)
      have call := tiesWith_any T a b (by omega) (by omega) HT.out.lt X
      unfold tcells at call
      have Call := Lib.hid call
      clear call
      go_wp2_with fail
      refine Call.out.mono ?_
      rintro e w2 ⟨rfl, hb2⟩
      have row2 := rowX.of_block (hb2.block _ rowX.lt)
      have s2 := hb2.size
      have hTw := HT.out.with (a := a) (b := b) (by omega) (by omega) (by omega)
      rw [← adj_snoc] at hTw
      have hTf2 : withT T a b = friendsT (l.take m ++ [((a : Int), (b : Int))]) := by rw [friendsT_snoc, HTf.out]
      generalize withT T a b = T' at *
      have HTf2 := Lib.hid hTf2
      clear hTf2
      have k2 : Below (w.heap.size + 2) W w2 := kX.trans (hb2.mono (by omega))
      clear r0 r1 r2 r3 r4 r5 r6 r7 r8 r9 r10 r11
      have r0 := row2.cell (i := 0) (by omega)
      have r1 := row2.cell (i := 1) (by omega)
      have r2 := row2.cell (i := 2) (by omega)
      have r3 := row2.cell (i := 3) (by omega)
      have r4 := row2.cell (i := 4) (by omega)
      have r5 := row2.cell (i := 5) (by omega)
      have r6 := row2.cell (i := 6) (by omega)
      have r7 := row2.cell (i := 7) (by omega)
      have r8 := row2.cell (i := 8) (by omega)
      have r9 := row2.cell (i := 9) (by omega)
      have r10 := row2.cell (i := 10) (by omega)
      have r11 := row2.cell (i := 11) (by omega)
      have e0 := row2.frozen 0
      have e1 := row2.frozen 1
      have e2 := row2.frozen 2
      have e3 := row2.frozen 3
      have e4 := row2.frozen 4
      have e5 := row2.frozen 5
      have e6 := row2.frozen 6
      have e7 := row2.frozen 7
      have e8 := row2.frozen 8
      have e9 := row2.frozen 9
      have e10 := row2.frozen 10
      have e11 := row2.frozen 11
      have row3 : ((((((((((((w2.setCell ⟨w.heap.size + 2, 0, none⟩ (.int .u16 (T' 0))).setCell ⟨w.heap.size + 2, 1, none⟩ (.int .u16 (T' 1))).setCell ⟨w.heap.size + 2, 2, none⟩ (.int .u16 (T' 2))).setCell ⟨w.heap.size + 2, 3, none⟩ (.int .u16 (T' 3))).setCell ⟨w.heap.size + 2, 4, none⟩ (.int .u16 (T' 4))).setCell ⟨w.heap.size + 2, 5, none⟩ (.int .u16 (T' 5))).setCell ⟨w.heap.size + 2, 6, none⟩ (.int .u16 (T' 6))).setCell ⟨w.heap.size + 2, 7, none⟩ (.int .u16 (T' 7))).setCell ⟨w.heap.size + 2, 8, none⟩ (.int .u16 (T' 8))).setCell ⟨w.heap.size + 2, 9, none⟩ (.int .u16 (T' 9))).setCell ⟨w.heap.size + 2, 10, none⟩ (.int .u16 (T' 10))).setCell ⟨w.heap.size + 2, 11, none⟩ (.int .u16 (T' 11))).rowIs (w.heap.size + 2) 63 12 (fun j => .int .u16 (T' j)) := ((((((((((((row2.set 0 (.int .u16 (T' 0))).set 1 (.int .u16 (T' 1))).set 2 (.int .u16 (T' 2))).set 3 (.int .u16 (T' 3))).set 4 (.int .u16 (T' 4))).set 5 (.int .u16 (T' 5))).set 6 (.int .u16 (T' 6))).set 7 (.int .u16 (T' 7))).set 8 (.int .u16 (T' 8))).set 9 (.int .u16 (T' 9))).set 10 (.int .u16 (T' 10))).set 11 (.int .u16 (T' 11))).congr fun j hj => by
        match j, hj with
        | 0, _ => rfl
        | 1, _ => rfl
        | 2, _ => rfl
        | 3, _ => rfl
        | 4, _ => rfl
        | 5, _ => rfl
        | 6, _ => rfl
        | 7, _ => rfl
        | 8, _ => rfl
        | 9, _ => rfl
        | 10, _ => rfl
        | 11, _ => rfl
      have k3 := ((((((((((((k2.setCell (p := ⟨w.heap.size + 2, 0, none⟩) (Nat.le_refl _) (.int .u16 (T' 0))).setCell (p := ⟨w.heap.size + 2, 1, none⟩) (Nat.le_refl _) (.int .u16 (T' 1))).setCell (p := ⟨w.heap.size + 2, 2, none⟩) (Nat.le_refl _) (.int .u16 (T' 2))).setCell (p := ⟨w.heap.size + 2, 3, none⟩) (Nat.le_refl _) (.int .u16 (T' 3))).setCell (p := ⟨w.heap.size + 2, 4, none⟩) (Nat.le_refl _) (.int .u16 (T' 4))).setCell (p := ⟨w.heap.size + 2, 5, none⟩) (Nat.le_refl _) (.int .u16 (T' 5))).setCell (p := ⟨w.heap.size + 2, 6, none⟩) (Nat.le_refl _) (.int .u16 (T' 6))).setCell (p := ⟨w.heap.size + 2, 7, none⟩) (Nat.le_refl _) (.int .u16 (T' 7))).setCell (p := ⟨w.heap.size + 2, 8, none⟩) (Nat.le_refl _) (.int .u16 (T' 8))).setCell (p := ⟨w.heap.size + 2, 9, none⟩) (Nat.le_refl _) (.int .u16 (T' 9))).setCell (p := ⟨w.heap.size + 2, 10, none⟩) (Nat.le_refl _) (.int .u16 (T' 10))).setCell (p := ⟨w.heap.size + 2, 11, none⟩) (Nat.le_refl _) (.int .u16 (T' 11)))
      have ROW3 := Lib.hid row3
      have K3 := Lib.hid k3
      have HTw := Lib.hid hTw
      clear row2 row3 k3 hTw rowX k2 kX
      go_wp2
      go_roundw
      case rel => exact ⟨m + 1, T', by omega, by go_num, by rw [List.take_add_one, Hx.out, Option.toList_some]; exact HTw.out, by rw [List.take_add_one, Hx.out, Option.toList_some]; exact HTf2.out, ROW3.out, K3.out⟩
      case measure => simp [intOf]; omega
    · have hml : m = l.length := by omega
      subst hml
      have hge : ¬ ((l.length : Int) < (l.length : Int)) := by omega
      rw [List.take_length] at hT
      have HT := Lib.hid hT
      have rowR := RR.out.of_block (hb.block _ (by omega))
      have kr : Below w.heap.size w wr := KW.out.trans (hb.mono (by omega))
      clear hT hb
      have r0 := rowF.cell (i := 0) (by omega)
      have r1 := rowF.cell (i := 1) (by omega)
      have r2 := rowF.cell (i := 2) (by omega)
      have r3 := rowF.cell (i := 3) (by omega)
      have r4 := rowF.cell (i := 4) (by omega)
      have r5 := rowF.cell (i := 5) (by omega)
      have r6 := rowF.cell (i := 6) (by omega)
      have r7 := rowF.cell (i := 7) (by omega)
      have r8 := rowF.cell (i := 8) (by omega)
      have r9 := rowF.cell (i := 9) (by omega)
      have r10 := rowF.cell (i := 10) (by omega)
      have r11 := rowF.cell (i := 11) (by omega)
      have g0 := rowR.cell (i := 0) (by omega)
      have g1 := rowR.cell (i := 1) (by omega)
      have g2 := rowR.cell (i := 2) (by omega)
      have g3 := rowR.cell (i := 3) (by omega)
      have g4 := rowR.cell (i := 4) (by omega)
      have g5 := rowR.cell (i := 5) (by omega)
      have g6 := rowR.cell (i := 6) (by omega)
      have g7 := rowR.cell (i := 7) (by omega)
      have g8 := rowR.cell (i := 8) (by omega)
      have g9 := rowR.cell (i := 9) (by omega)
      have g10 := rowR.cell (i := 10) (by omega)
      have g11 := rowR.cell (i := 11) (by omega)
      have e0 := rowR.frozen 0
      have e1 := rowR.frozen 1
      have e2 := rowR.frozen 2
      have e3 := rowR.frozen 3
      have e4 := rowR.frozen 4
      have e5 := rowR.frozen 5
      have e6 := rowR.frozen 6
      have e7 := rowR.frozen 7
      have e8 := rowR.frozen 8
      have e9 := rowR.frozen 9
      have e10 := rowR.frozen 10
      have e11 := rowR.frozen 11
      have KR := Lib.hid kr
      clear rowF rowR kr
      go_wp2
      refine bodyPost_ret (v := .agg #[.int .u16 (T 0), .int .u16 (T 1), .int .u16 (T 2), .int .u16 (T 3), .int .u16 (T 4), .int .u16 (T 5), .int .u16 (T 6), .int .u16 (T 7), .int .u16 (T 8), .int .u16 (T 9), .int .u16 (T 10), .int .u16 (T 11)]) (by simp [results, Tryd.results46, go_sem, g0, g1, g2, g3, g4, g5, g6, g7, g8, g9, g10, g11]) rfl ?_
      have hfin := HTf.out
      rw [List.take_length] at hfin
      rw [← hfin]
      exact ⟨rfl, HT.out, ((((((((((((KR.out.setCell (p := ⟨w.heap.size + 1, 0, none⟩) (by simp) _).setCell (p := ⟨w.heap.size + 1, 1, none⟩) (by simp) _).setCell (p := ⟨w.heap.size + 1, 2, none⟩) (by simp) _).setCell (p := ⟨w.heap.size + 1, 3, none⟩) (by simp) _).setCell (p := ⟨w.heap.size + 1, 4, none⟩) (by simp) _).setCell (p := ⟨w.heap.size + 1, 5, none⟩) (by simp) _).setCell (p := ⟨w.heap.size + 1, 6, none⟩) (by simp) _).setCell (p := ⟨w.heap.size + 1, 7, none⟩) (by simp) _).setCell (p := ⟨w.heap.size + 1, 8, none⟩) (by simp) _).setCell (p := ⟨w.heap.size + 1, 9, none⟩) (by simp) _).setCell (p := ⟨w.heap.size + 1, 10, none⟩) (by simp) _).setCell (p := ⟨w.heap.size + 1, 11, none⟩) (by simp) _)⟩
end Go.Proofs.YtnpljmipicjacaaDoor
/-
  'CountGroups': the model's and the program's, by their contracts.
-/
namespace Go.Proofs.YtnpljmipicjacaaDoor
open Go.RowKit

theorem friendsT_of {n : Int} {l : PL} (h : isP n l = true) : TiesOf (friendsT l) (adj l) := by
  have hn := isP_range h
  have hl := (isP_list h).2.2.1
  have key : ∀ m, m ≤ l.length → TiesOf (friendsT (l.take m)) (adj (l.take m)) := by
    intro m
    induction m with
    | zero => intro _; exact TiesOf.none
    | succ m ih =>
      intro hm
      obtain ⟨⟨x, y⟩, hx⟩ := getSome l m (by omega)
      have h0 := hl _ (List.mem_of_getElem? hx)
      simp only at h0
      obtain ⟨a, rfl⟩ : ∃ a : Nat, x = a := ⟨x.toNat, by omega⟩
      obtain ⟨b, rfl⟩ : ∃ b : Nat, y = b := ⟨y.toNat, by omega⟩
      rw [List.take_add_one, hx, Option.toList_some, friendsT_snoc, adj_snoc]
      exact (ih (by omega)).with (by omega) (by omega) (by omega)
  have := key l.length (Nat.le_refl _)
  rwa [List.take_length] at this
theorem candR_all (t : Nat → Nat → Bool) (n : Nat) : candR t n [] 0 = List.range n := by
  unfold candR
  rw [List.filter_eq_self.2 (by simp), Nat.sub_zero, List.range_eq_range']
/-- the groups of a size -/
def groupsL (n : Nat) (l : PL) (k : Nat) : List (List Int) := listsC (adj l) k [] (List.range n)
theorem groupsL_few {n : Nat} (hn : n ≤ 12) (l : PL) (k : Nat) : (groupsL n l k).length ≤ 4096 := lists_few (IsSet.people (n := n) (by omega)) (fun b hb => by have := List.mem_range.1 hb; omega)
def resCountGroups (p : Int) (l : PL) (k : Int) : Int × Bool := if isP p l && decide (0 ≤ k ∧ k ≤ 12) then ((groupsL p.toNat l k.toNat).length, true) else (0, false)

end Go.Proofs.YtnpljmipicjacaaDoor
/-
  slices.Clone of pairs and of numbers, by its contracts, at every address.
-/
namespace Go.Proofs.YtnpljmipicjacaaDoor
open Go.RowKit

theorem read_add_P {w : World} {B : Nat} {a : Addr} {l : PL} (h : CRead w B (some a) (pcells l)) : ∀ j u, (pcells l)[j]? = some u → w.cell? (a.add j) = some u := by
  intro j u hj
  obtain ⟨b, off, e, _, hc⟩ := h j u hj
  simp only [Option.some.injEq] at e
  subst e
  rw [Go.WideShapes.add_plain]
  exact hc
theorem read_add_I {w : World} {B : Nat} {a : Addr} {l : List Int} (h : CRead w B (some a) (icells l)) : ∀ j u, (icells l)[j]? = some u → w.cell? (a.add j) = some u := by
  intro j u hj
  obtain ⟨b, off, e, _, hc⟩ := h j u hj
  simp only [Option.some.injEq] at e
  subst e
  rw [Go.WideShapes.add_plain]
  exact hc
set_option maxHeartbeats 1000000 in
set_option maxRecDepth 100000 in
theorem cloneI_any (l : List Int) (A : Option Addr) (c : Nat) (w : World) (hl : l.length ≤ 1048576) (hA : CRead w w.heap.size A (icells l)) :
    Calls Tryd.prog 59 #[.slice A l.length c] w fun e w' => ∃ A' c', e = .returned (.slice A' l.length c') ∧ w'.ownsRow w.heap.size 3 1 (.slice A' l.length c') l.length (icells l) ∧ Below w.heap.size w w' := by
  obtain ⟨i0, hi, hz0, hz1, hz2⟩ := info_parts Tryd.infoInt
  have q22 : ∀ (w : World) (a : Option Addr) (n c n' c' : Nat), (binOp .eql 25 (.slice a n c) (.slice none n' c')).run Tryd.prog w = .ok (.bool a.isNone) w := fun w a n c n' c' => Lib.run_eql_slice_nil w _ _ a n c n' c' Tryd.underlying25
  have u22 : ∀ w, Sem.run Tryd.prog (underlying 25) w = .ok (TypeDesc.slice 3) w := run_underlying Tryd.underlying25
  cases A with
  | none =>
    have hq : l = [] := by
      cases l with
      | nil => rfl
      | cons x l =>
        obtain ⟨b, off, e, _⟩ := hA 0 _ (by simp [icells]; rfl)
        cases e
    subst hq
    go_enter Tryd.func59, Tryd.ntmps59
    go_wp2
    go_ret
    exact ⟨none, 0, rfl, World.ownsRow_nil _ _ _ _, Below.refl _ _⟩
  | some a =>
    have hc := read_add_I hA
    have H : Aside (∀ j u, (icells l)[j]? = some u → w.cell? (a.add j) = some u) := hc
    clear hc hA
    go_enter Tryd.func59, Tryd.ntmps59
    go_wp2_with (at_builtin; refine wpList_append_own _ rfl _ _ 25 rfl w.heap.size 3 i0 (.int .i64 0) 1 8 Tryd.underlying25 hi hz0 hz1 hz2 rfl (by decide) _ _ _ rfl (World.ownsRow_made w #[] 0 (Nat.le_refl _) (Nat.zero_le _) rfl) a l.length c (icells l) rfl ?qc1 ?qc2 ?qc3 ?qc4 ?qc5 ?qc6 ?_)
    case qc1 => rw [icells_length, Nat.mul_one]
    case qc2 =>
      intro j u hj
      exact Lib.cell?_alloc_some _ (H.out j u hj)
    case qc3 => exact icells_one l
    case qc4 => unfold maxLen; omega
    case qc5 => omega
    case qc6 => simp
    intro v' w1 hown hgrow _

    obtain ⟨A1, c1, rfl, _⟩ := own_shape hown
    go_wp2
    go_ret
    exact ⟨A1, c1, rfl, hown, ((Below.refl _ w).alloc (Nat.le_refl _) _).grown hgrow (by simp) (by intro k hk; simp [Value.ownBlock] at hk; omega)⟩
end Go.Proofs.YtnpljmipicjacaaDoor
/-
  HOW MANY LISTS OF TIED PEOPLE HAVE A PERSON. Nothing here speaks of the program.
-/
namespace Go.Proofs.YtnpljmipicjacaaDoor
open Go.RowKit

theorem listsC_told (t : Nat → Nat → Bool) : ∀ (k : Nat) (told : List Int) (cs : List Nat), listsC t k told cs = (listsC t k [] cs).map (told ++ ·) := by
  intro k told cs
  induction h : k + cs.length using Nat.strongRecOn generalizing k told cs with
  | _ n ih =>
    match k, cs with
    | 0, cs => rw [listsC_zero, listsC_zero]; simp
    | k + 1, [] => rw [listsC_nil, listsC_nil]; rfl
    | k + 1, a :: cs =>
      simp only [List.length_cons] at h
      have h0 : (cs.filter (t a)).length ≤ cs.length := List.length_filter_le _ _
      rw [listsC_cons, listsC_cons, List.map_append, ih (k + (cs.filter (t a)).length) (by omega) k (told ++ [(a : Int)]) _ rfl, ih (k + 1 + cs.length) (by omega) (k + 1) told cs rfl,
        ih (k + (cs.filter (t a)).length) (by omega) k ([] ++ [(a : Int)]) _ rfl, List.map_map]
      congr 1
      refine List.map_congr_left fun x _ => ?_
      simp
theorem listsC_len (t : Nat → Nat → Bool) (k : Nat) (told : List Int) (cs : List Nat) : (listsC t k told cs).length = (listsC t k [] cs).length := by rw [listsC_told, List.length_map]
theorem listsC_size (t : Nat → Nat → Bool) : ∀ (k : Nat) (told : List Int) (cs : List Nat), ∀ l ∈ listsC t k told cs, l.length = told.length + k := by
  intro k told cs
  induction h : k + cs.length using Nat.strongRecOn generalizing k told cs with
  | _ n ih =>
    match k, cs with
    | 0, cs => rw [listsC_zero]; simp
    | k + 1, [] => rw [listsC_nil]; simp
    | k + 1, a :: cs =>
      simp only [List.length_cons] at h
      have h0 : (cs.filter (t a)).length ≤ cs.length := List.length_filter_le _ _
      rw [listsC_cons]
      intro l hl
      rcases List.mem_append.1 hl with hl | hl
      · have := ih (k + (cs.filter (t a)).length) (by omega) k _ _ rfl l hl
        simp at this
        omega
      · have := ih (k + 1 + cs.length) (by omega) (k + 1) _ _ rfl l hl
        omega
/-- whom a list has -/
theorem listsC_mem (t : Nat → Nat → Bool) : ∀ (k : Nat) (told : List Int) (cs : List Nat), ∀ l ∈ listsC t k told cs, ∀ x ∈ l, x ∈ told ∨ ∃ b ∈ cs, x = ((b : Nat) : Int) := by
  intro k told cs
  induction h : k + cs.length using Nat.strongRecOn generalizing k told cs with
  | _ n ih =>
    match k, cs with
    | 0, cs => rw [listsC_zero]; intro l hl x hx; simp at hl; subst hl; exact .inl hx
    | k + 1, [] => rw [listsC_nil]; simp
    | k + 1, a :: cs =>
      simp only [List.length_cons] at h
      have h0 : (cs.filter (t a)).length ≤ cs.length := List.length_filter_le _ _
      rw [listsC_cons]
      intro l hl x hx
      rcases List.mem_append.1 hl with hl | hl
      · rcases ih (k + (cs.filter (t a)).length) (by omega) k _ _ rfl l hl x hx with h1 | ⟨b, hb, h1⟩
        · rcases List.mem_append.1 h1 with h1 | h1
          · exact .inl h1
          · simp at h1
            exact .inr ⟨a, by simp, h1⟩
        · exact .inr ⟨b, by simp [(List.mem_filter.1 hb).1], h1⟩
      · rcases ih (k + 1 + cs.length) (by omega) (k + 1) _ _ rfl l hl x hx with h1 | ⟨b, hb, h1⟩
        · exact .inl h1
        · exact .inr ⟨b, by simp [hb], h1⟩
/-- how many lists have a person -/
def hasN (L : List (List Int)) (a : Nat) : Nat := L.countP (hasI · a)
theorem hasN_append (L M : List (List Int)) (a : Nat) : hasN (L ++ M) a = hasN L a + hasN M a := List.countP_append
theorem hasN_none {t : Nat → Nat → Bool} {k : Nat} {told : List Int} {cs : List Nat} {a : Nat} (h0 : (a : Int) ∉ told) (h : a ∉ cs) : hasN (listsC t k told cs) a = 0 := by
  refine List.countP_eq_zero.2 fun l hl hc => ?_
  rcases listsC_mem t k told cs l hl _ (hasI_mem.1 hc) with h1 | ⟨b, hb, h1⟩
  · exact h0 h1
  · have : a = b := by omega
    exact h (this ▸ hb)
theorem hasN_all {t : Nat → Nat → Bool} {k : Nat} {told : List Int} {cs : List Nat} {a : Nat} (h0 : (a : Int) ∈ told) : hasN (listsC t k told cs) a = (listsC t k told cs).length := by
  refine List.countP_eq_length.2 fun l hl => ?_
  rw [listsC_told] at hl
  obtain ⟨m, _, rfl⟩ := List.mem_map.1 hl
  exact hasI_mem.2 (List.mem_append_left _ h0)
theorem hasN_listsC {t : Nat → Nat → Bool} (hsym : ∀ i j, t i j = t j i) {a : Nat} (hirr : t a a = false) : ∀ (k : Nat) (told : List Int) (cs : List Nat),
    cs.Pairwise (· < ·) → a ∈ cs → (a : Int) ∉ told → hasN (listsC t (k + 1) told cs) a = (listsC t k [] (cs.filter (t a))).length := by
  intro k told cs
  induction h : k + cs.length using Nat.strongRecOn generalizing k told cs with
  | _ n ih =>
    intro hs ha h0
    match cs with
    | [] => simp at ha
    | x :: cs =>
      simp only [List.length_cons] at h
      obtain ⟨hx, hs'⟩ := List.pairwise_cons.1 hs
      have hl0 : (cs.filter (t x)).length ≤ cs.length := List.length_filter_le _ _
      rw [listsC_cons, hasN_append]
      by_cases e : x = a
      · subst e
        have hn : x ∉ cs := fun hc => by have := hx x hc; omega
        rw [hasN_all (by simp), hasN_none h0 hn, listsC_len, List.filter_cons_of_neg (by simp [hirr])]
        omega
      · have ha' : a ∈ cs := by rcases List.mem_cons.1 ha with h | h; exact absurd h.symm e; exact h
        have h1 : (a : Int) ∉ told ++ [(x : Int)] := by simp [h0]; omega
        rw [ih (k + cs.length) (by omega) k told cs rfl hs' ha' h0]
        match k with
        | 0 =>
          rw [listsC_zero, listsC_zero, listsC_zero]
          have : hasN [told ++ [(x : Int)]] a = 0 := List.countP_eq_zero.2 fun l hl hc => by
            simp only [List.mem_singleton] at hl
            subst hl
            exact h1 (hasI_mem.1 hc)
          rw [this]
          simp
        | k + 1 =>
          cases hxa : t x a with
          | true =>
            have hax : t a x = true := by rw [hsym, hxa]
            rw [ih (k + (cs.filter (t x)).length) (by omega) k _ _ rfl (hs'.filter _) (List.mem_filter.2 ⟨ha', hxa⟩) h1, List.filter_cons_of_pos hax, listsC_cons, List.length_append, listsC_len t k ([] ++ [(x : Int)])]
            congr 2
            rw [List.filter_filter, List.filter_filter]
            congr 1
            exact List.filter_congr fun b _ => Bool.and_comm _ _
          | false =>
            have hax : ¬ t a x = true := by rw [hsym, hxa]; simp
            rw [hasN_none h1 (fun hc => by have := (List.mem_filter.1 hc).2; simp [hxa] at this), List.filter_cons_of_neg hax]
            omega
end Go.Proofs.YtnpljmipicjacaaDoor
/-
  A RANGE OVER AN ITERATOR, its body told besides that the loop's own two blocks lie below what it makes; the loop's variable assigned. Nothing here speaks of the program.
-/
namespace Go.Proofs.YtnpljmipicjacaaDoor
open Go.RowKit

variable {P : Program}
theorem wpIn_rangeFunc_iterG {α : Type} {n : Nat} {g : Operand} {ps : Array Tmp} {assign body : Code} {Q : Exit → Act → World → Prop} {a : Act} {w : World}
    {gf : Nat} {lb : Array Value} (hg : a.eval g = .func (.func gf) #[] lb) (eg : ∀ args w, (callFunc gf args).run P w = .ok (.enter gf args) w)
    {R : Nat → Prop} {Rd : (Nat → Prop) → α → Array Value → World → Prop} {xs : List α} {w0 : World} (hseq : Seq P gf lb R Rd xs w0) (hb0 : Below w0.heap.size w0 w) (hR : ∀ j, R j → j < w.heap.size)
    (hRd : ∀ T x args A C, Rd T x args A → Stays T A C → Rd T x args C) (hps : ∀ T x args W, Rd T x args W → args.size = ps.size)
    (I : (Nat → Prop) → List α → World → Prop) (Ix : Code → List α → World → Prop) (hI : Held I) (hIx : ∀ c pre A C, Ix c pre A → Apart (fun j => j = w.heap.size + 1) A C → Ix c pre C)
    (h0 : I (fun _ => False) [] w) (a₁ : Array Value → Act)
    (hassign : ∀ (l : Nat) (T : Nat → Prop) (x : α) (args : Array Value) (W : World) (K : Act → World → Prop), Rd T x args W → K (a₁ args) W →
      assign.wpIn (Fence.wide.inRound l) n P (Exit.then K (fun _ _ _ => False)) { tmps := (ps.zip args).foldl (fun t (p, v) => t.setIfInBounds p v) a.tmps, defers := [] } W)
    (hbody : ∀ (l : Nat) (T S : Nat → Prop) (pre : List α) (x : α) (args : Array Value) (W : World), I S pre W → Rd T x args W → (∀ j, T j → S j) → w.heap.size + 2 ≤ W.heap.size → (∀ j, T j → j < w.heap.size ∨ w.heap.size + 2 ≤ j) → pre ++ [x] <+: xs →
      body.wpIn (Fence.wide.inRound l) n P (iterPost w.heap.size S R I Ix (pre ++ [x]) W) (a₁ args) W)
    (hdone : ∀ (S : Nat → Prop) (W : World), I S xs W → W.heap[w.heap.size]? = some (.deferred (some [])) → Q .normal { a with defers := { target := .collected w.heap.size, args := #[] } :: a.defers } W)
    (hstop : ∀ (c : Code) (pre : List α) (x : α) (W : World), pre ++ [x] <+: xs → Ix c (pre ++ [x]) W → W.heap[w.heap.size]? = some (.deferred (some [])) → c.wpIn Fence.wide n P Q { a with defers := { target := .collected w.heap.size, args := #[] } :: a.defers } W) :
    (Code.rangeFunc g ps assign body).wpIn Fence.wide n P Q a w := by
  refine wpIn_rangeFunc ?_
  intro fn hfn
  rw [show Fence.wide.round = none from rfl]
  obtain ⟨rec, hrec⟩ : ∃ rec : LoopState → Option Code → Loop, rec = fun st pe => { state := st, pending := pe, fn, tmps := a.tmps, params := ps, assign, body, defers := w.heap.size } := ⟨_, rfl⟩
  obtain ⟨W1, hW1⟩ : ∃ W1, (w.alloc (.deferred (some []))).alloc (.loop (rec .ready none)) = W1 := ⟨_, rfl⟩
  have hL1 : W1.heap[w.heap.size + 1]? = some (.loop (rec .ready none)) := by
    rw [← hW1]; have := World.alloc_heap_new (w.alloc (.deferred (some []))) (.loop (rec .ready none)); rwa [World.size_alloc] at this
  have hK1 : W1.heap[w.heap.size]? = some (.deferred (some [])) := by
    rw [← hW1]; exact (Below.heap_alloc _ _ _ (by simp)).trans (World.alloc_heap_new w _)
  have hw1 : Below w.heap.size w W1 := by rw [← hW1]; exact (((Below.refl _ w).alloc (Nat.le_refl _) _).alloc (by simp) _)
  have hb1 : Below w0.heap.size w0 W1 := hb0.trans (hw1.mono hb0.size)
  have hz1 : W1.heap.size = w.heap.size + 2 := by rw [← hW1]; simp
  have hI1 : I (fun j => j = w.heap.size ∨ j = w.heap.size + 1) [] W1 := hI _ _ _ _ _ h0 (Apart.of_below hw1) (fun j hj => .inr (by omega))
  refine ⟨w.heap.size + 1, [{ target := .collected w.heap.size, args := #[] }], W1, { target := .fn (.func gf) lb, args := #[.func (.yield (w.heap.size + 1)) #[] #[]] }, W1, gf,
    #[.func (.yield (w.heap.size + 1)) #[] #[]] ++ lb, W1, ?_, ?_, ?_, ?_, fun h => (by cases h), ?_⟩
  · rw [← hW1, hrec]; exact run_enterLoop_outer _ _ _ _ _
  · simp only [resolve, hg]
    simp [go_sem]
  · intro f' hf'; trivial
  · simp [invoke, go_sem, eg]
  · refine callsIn_wide.2 ?_
    refine (hseq (w.heap.size + 1)
      (fun T pre W => I (fun j => T j ∨ j = w.heap.size ∨ j = w.heap.size + 1) pre W ∧ (∀ j, T j → w.heap.size + 2 ≤ j) ∧ W.heap[w.heap.size + 1]? = some (.loop (rec .ready none)) ∧ W.heap[w.heap.size]? = some (.deferred (some [])))
      (fun T pre W => ∃ c, Ix c pre W ∧ W.heap[w.heap.size + 1]? = some (.loop (rec .done (some c))) ∧ W.heap[w.heap.size]? = some (.deferred (some [])))
      W1 hb1 ?held ?round ⟨hI _ _ _ _ _ hI1 (Apart.refl _ _) (fun j hj => by rcases hj with h | h; exact h.elim; exact .inl h), fun j h => h.elim, hL1, hK1⟩).mono ?_
    case held =>
      rintro T T' pre A C ⟨hi, hT, hl, hk⟩ hA hT'
      have hlt : w.heap.size + 1 < A.heap.size := (Array.getElem?_eq_some_iff.1 hl).1
      refine ⟨hI _ _ _ _ _ hi (hA.mono fun j hj => .inl hj) (fun j hj => ?_), fun j hj => ?_, (hA.same _ hlt (fun h => by have := hT _ h; omega)).trans hl, (hA.same _ (by omega) (fun h => by have := hT _ h; omega)).trans hk⟩
      · rcases hj with hj | hj
        · rcases hT' j hj with h | h
          · exact .inl (.inl h)
          · exact .inr h
        · exact .inl (.inr hj)
      · rcases hT' j hj with h | h
        · exact hT j h
        · omega
    case round =>
      rintro T pre x args W ⟨hi, hT, hl, hk⟩ hrd hpx
      have hlt : w.heap.size + 1 < W.heap.size := (Array.getElem?_eq_some_iff.1 hl).1
      have hnT : ¬ T (w.heap.size + 1) := fun h => by have := hT _ h; omega
      have hnR : ¬ (T (w.heap.size + 1) ∨ R (w.heap.size + 1)) := fun h => by rcases h with h | h; exact hnT h; have := hR _ h; omega
      have hy := run_yield (P := P) (args := args) hl (by rw [hrec]; exact hps T x args W hrd)
      rw [hrec] at hy
      refine yield_any (m := n + 1) ⟨fn, _, assign, body, hy, roundIn_any (m := n) (roundIn_of_wpIn hfn (hassign _ T x args W _ hrd ⟨_, run_beginRound hl (by rw [hrec]), ?_⟩))⟩
      have hl2 : (W.putObj (w.heap.size + 1) (.loop { rec .ready none with state := .busy })).heap[w.heap.size + 1]? = some (.loop { rec .ready none with state := .busy }) := World.putObj_heap_same hlt
      have hk2 : (W.putObj (w.heap.size + 1) (.loop { rec .ready none with state := .busy })).heap[w.heap.size]? = some (.deferred (some [])) := (World.putObj_heap_other (by omega)).trans hk
      have hi2 := hI _ _ _ _ _ hi ((Apart.putObj W (w.heap.size + 1) (.loop { rec .ready none with state := .busy })).mono fun j hj => .inr (.inr hj)) (fun j hj => .inl hj)
      have hst := Stays.putObj (S := fun j => T j ∨ R j) hnR W (.loop { rec .ready none with state := .busy })
      have hlz := (Array.getElem?_eq_some_iff.1 hl2).1
      have hkz := (Array.getElem?_eq_some_iff.1 hk2).1
      refine wpIn_mono (hbody _ T _ pre x args _ hi2 (hRd _ _ _ _ _ hrd (hst.mono fun j hj => .inl hj)) (fun j hj => .inl hj) hlz (fun j hj => .inr (hT j hj)) hpx) ?_
      have fin : ∀ (jump : Option Code) (W3 : World), W3.heap[w.heap.size + 1]? = some (.loop { rec .ready none with state := .busy }) → W3.heap[w.heap.size]? = some (.deferred (some [])) →
          (Instr.endRound (w.heap.size + 1) jump).run P W3 = .ok (.bool jump.isNone) (W3.putObj (w.heap.size + 1) (.loop (rec (if jump.isNone then .ready else .done) jump))) ∧
          (W3.putObj (w.heap.size + 1) (.loop (rec (if jump.isNone then .ready else .done) jump))).heap[w.heap.size + 1]? = some (.loop (rec (if jump.isNone then .ready else .done) jump)) ∧
          (W3.putObj (w.heap.size + 1) (.loop (rec (if jump.isNone then .ready else .done) jump))).heap[w.heap.size]? = some (.deferred (some [])) := fun jump W3 hl3 hk3 => by
        have := run_endRound (P := P) jump hl3
        rw [hrec] at this ⊢
        exact ⟨this, World.putObj_heap_same (Array.getElem?_eq_some_iff.1 hl3).1, (World.putObj_heap_other (by omega)).trans hk3⟩
      rintro e a3 W3 hp
      cases e with
      | normal =>
        obtain ⟨hs3, hi3⟩ := hp
        have hl3 := (hs3.same (w.heap.size + 1) hlz (.inl (.inr (.inr rfl)))).trans hl2
        have hk3 := (hs3.same w.heap.size hkz (.inl (.inr (.inl rfl)))).trans hk2
        obtain ⟨hr, hl4, hk4⟩ := fin none W3 hl3 hk3
        refine ⟨_, _, hr, .inl ⟨rfl, ⟨hI _ _ _ _ _ hi3 ((Apart.putObj W3 _ _).mono fun j hj => .inr (.inr hj)) (fun j hj => .inl hj), hT, hl4, hk4⟩, ?_⟩⟩
        exact (hst.trans (hs3.mono fun j hj => hj.elim (fun h => .inl (.inl h)) .inr)).trans (Stays.putObj (S := fun j => T j ∨ R j) hnR W3 _)
      | ret =>
        obtain ⟨hs3, hi3⟩ := hp
        obtain ⟨hr, hl4, hk4⟩ := fin (some .ret) W3 ((hs3.same (w.heap.size + 1) hlz (by omega)).trans hl2) ((hs3.same w.heap.size hkz (by omega)).trans hk2)
        exact ⟨_, _, hr, .inr ⟨rfl, .ret, hIx _ _ _ _ hi3 (Apart.putObj W3 _ _), hl4, hk4⟩⟩
      | exit id =>
        obtain ⟨hs3, hi3⟩ := hp
        obtain ⟨hr, hl4, hk4⟩ := fin (some (.exit id)) W3 ((hs3.same (w.heap.size + 1) hlz (by omega)).trans hl2) ((hs3.same w.heap.size hkz (by omega)).trans hk2)
        exact ⟨_, _, hr, .inr ⟨rfl, .exit id, hIx _ _ _ _ hi3 (Apart.putObj W3 _ _), hl4, hk4⟩⟩
      | goto t =>
        obtain ⟨hs3, hi3⟩ := hp
        obtain ⟨hr, hl4, hk4⟩ := fin (some (.goto t)) W3 ((hs3.same (w.heap.size + 1) hlz (by omega)).trans hl2) ((hs3.same w.heap.size hkz (by omega)).trans hk2)
        exact ⟨_, _, hr, .inr ⟨rfl, .goto t, hIx _ _ _ _ hi3 (Apart.putObj W3 _ _), hl4, hk4⟩⟩
      | panic ch => exact hp.elim
      | outgrown => exact hp.elim
    · rintro e W2 ⟨⟨v, rfl⟩, (⟨T, hi, hT, hl, hk⟩ | ⟨T, pre, x, hpre, c, hi, hl, hk⟩)⟩
      · exact ⟨none, _, by have := run_endLoop (P := P) hl (by rw [hrec]; simp); rw [hrec] at this; exact this, hdone _ _ (hI _ _ _ _ _ hi ((Apart.putObj W2 _ _).mono fun j hj => .inr (.inr hj)) (fun j hj => .inl hj)) ((World.putObj_heap_other (by omega)).trans hk)⟩
      · exact ⟨some c, _, by have := run_endLoop (P := P) hl (by rw [hrec]; simp); rw [hrec] at this; exact this, hstop c pre x _ hpre (hIx _ _ _ _ hi (Apart.putObj W2 _ _)) ((World.putObj_heap_other (by omega)).trans hk)⟩

/-- A range over an iterator of one value; its variable is assigned ahead of the body. -/
theorem wp_rangeFunc_asg {P : Program} {α : Type} {g : Operand} {p : Tmp} {assign body : Code} {Q : Exit → Act → World → Prop} {a : Act} {w : World} {gf : Nat} {lb : Array Value} (hg : a.eval g = .func (.func gf) #[] lb)
    (eg : ∀ args w, (callFunc gf args).run P w = .ok (.enter gf args) w) {R : Nat → Prop} {Rd : (Nat → Prop) → α → Array Value → World → Prop} {xs : List α} (hseq : Seq P gf lb R Rd xs w) (hR : ∀ j, R j → j < w.heap.size)
    (hRd : ∀ T x args A C, Rd T x args A → Stays T A C → Rd T x args C) (hps : ∀ T x args W, Rd T x args W → args.size = 1)
    (I : (Nat → Prop) → List α → World → Prop) (Ix : Code → List α → World → Prop) (hI : Held I) (hIx : ∀ c pre A C, Ix c pre A → Apart (fun j => j = w.heap.size + 1) A C → Ix c pre C) (h0 : I (fun _ => False) [] w)
    (a₁ : Value → Act)
    (hassign : ∀ (l : Nat) (v : Value) (W : World) (K : Act → World → Prop), K (a₁ v) W → assign.wpIn (Fence.wide.inRound l) 3 P (Exit.then K (fun _ _ _ => False)) { tmps := a.tmps.setIfInBounds p v, defers := [] } W)
    (hbody : ∀ (l : Nat) (T S : Nat → Prop) (pre : List α) (x : α) (v : Value) (W : World), I S pre W → Rd T x #[v] W → (∀ j, T j → S j) → w.heap.size + 2 ≤ W.heap.size → (∀ j, T j → j < w.heap.size ∨ w.heap.size + 2 ≤ j) → pre ++ [x] <+: xs →
      body.wpIn (Fence.wide.inRound l) 3 P (iterPost w.heap.size S R I Ix (pre ++ [x]) W) (a₁ v) W)
    (hdone : ∀ (S : Nat → Prop) (W : World), I S xs W → W.heap[w.heap.size]? = some (.deferred (some [])) → Q .normal { a with defers := { target := .collected w.heap.size, args := #[] } :: a.defers } W)
    (hstop : ∀ (c : Code) (pre : List α) (x : α) (W : World), pre ++ [x] <+: xs → Ix c (pre ++ [x]) W → W.heap[w.heap.size]? = some (.deferred (some [])) → c.wp P Q { a with defers := { target := .collected w.heap.size, args := #[] } :: a.defers } W) :
    (Code.rangeFunc g #[p] assign body).wp P Q a w := by
  refine (wpIn_wide (n := 3)).1 ?_
  have hone : ∀ args : Array Value, args.size = 1 → ∃ v, args = #[v] := fun args h => by
    obtain ⟨l⟩ := args
    match l, h with
    | [v], _ => exact ⟨v, rfl⟩
  refine wpIn_rangeFunc_iterG hg eg hseq (Below.refl _ _) hR hRd (fun T x args W h => hps T x args W h) I Ix hI hIx h0 (fun args => a₁ (args[0]?.getD undef)) ?_ ?_ hdone (fun c pre x W h1 h2 h3 => (wpIn_wide (n := 3)).2 (hstop c pre x W h1 h2 h3))
  · intro l T x args W K hrd hK
    obtain ⟨v, rfl⟩ := hone args (hps T x args W hrd)
    have e : (#[p].zip #[v]).foldl (fun (t : Array Value) (x : Tmp × Value) => t.setIfInBounds x.1 x.2) a.tmps = a.tmps.setIfInBounds p v := by simp
    have h := hassign l v W K hK
    rw [← e] at h
    exact h
  · intro l T S pre x args W hi hrd hTS hz hT hpx
    obtain ⟨v, rfl⟩ := hone args (hps T x args W hrd)
    exact hbody l T S pre x v W hi hrd hTS hz hT hpx
end Go.Proofs.YtnpljmipicjacaaDoor
