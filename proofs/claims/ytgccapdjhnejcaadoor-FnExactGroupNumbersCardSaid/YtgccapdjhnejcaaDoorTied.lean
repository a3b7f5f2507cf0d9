/-
  THE PROGRAM's ITERATOR OVER LISTS OF TIED PEOPLE ('allTied'): its contract, in the form that the law of the statement takes.
-/
import Derived.Test.YtgccapdjhnejcaaDoorLookW
import Derived.Laws.EntriesVeiled
namespace Go.Proofs.YtgccapdjhnejcaaDoor
open Go.RowKit

/-- ties as the program has them: twelve sets -/
def tcells (T : Nat → Nat) : Array Value := #[.int .u16 (T 0), .int .u16 (T 1), .int .u16 (T 2), .int .u16 (T 3), .int .u16 (T 4), .int .u16 (T 5), .int .u16 (T 6), .int .u16 (T 7), .int .u16 (T 8), .int .u16 (T 9), .int .u16 (T 10), .int .u16 (T 11)]
theorem tcells_at (T : Nat → Nat) : ∀ a, a < 12 → (tcells T)[a]? = some (.int .u16 (T a)) := by
  intro a ha
  match a, ha with
  | 0, _ => rfl
  | 1, _ => rfl
  | 2, _ => rfl
  | 3, _ => rfl
  | 4, _ => rfl
  | 5, _ => rfl
  | 6, _ => rfl
  | 7, _ => rfl
  | 8, _ => rfl
  | 9, _ => rfl
  | 10, _ => rfl
  | 11, _ => rfl
/-- sets of people that tell who is tied to whom -/
structure TiesOf (T : Nat → Nat) (t : Nat → Nat → Bool) : Prop where
  bit : ∀ a b, a < 12 → b < 16 → (T a).testBit b = t a b
  lt : ∀ a, a < 12 → T a < 65536

set_option maxHeartbeats 1000000 in
theorem allTied_any (T : Nat → Nat) (among : Nat) (size : Int) (w : World) :
    Calls Tryd.prog 77 #[.agg (tcells T), .int .u16 among, .int .i64 size] w fun e w' =>
      e = .returned (.func (.func 100) #[] #[.pointer (some ⟨w.heap.size + 2, 0, none⟩), .pointer (some ⟨w.heap.size, 0, none⟩), .pointer (some ⟨w.heap.size + 1, 0, none⟩)]) ∧
      w' = ((w.alloc (.cells (tcells T) 69)).alloc (.cells #[.int .u16 among] 66)).alloc (.cells #[.int .i64 size] 3) := by
  unfold tcells
  go_enter Tryd.func77, Tryd.ntmps77
  go_wp2
  go_ret
  exact ⟨rfl, rfl⟩

/-- what a round is handed: a list told, in a block of the iterator's own -/
def RdL (S : Nat → Prop) (told : List Int) (args : Array Value) (W : World) : Prop := ∃ A c, args = #[.slice A told.length c] ∧ World.told W A c told ∧ ∀ k, (Value.slice A told.length c).ownBlock = some k → S k
theorem RdL.stays {S : Nat → Prop} {told : List Int} {args : Array Value} {A C : World} (h : RdL S told args A) (hs : Stays S A C) : RdL S told args C := by
  obtain ⟨B, c, e, ht, hk⟩ := h
  exact ⟨B, c, e, told_kept ht fun k hb => hs.same k (own_lies ht k hb).2 (hk k hb), hk⟩
theorem RdL.one {S : Nat → Prop} {told : List Int} {args : Array Value} {A : World} (h : RdL S told args A) : args.size = 1 := by
  obtain ⟨B, c, e, _⟩ := h
  rw [e]; rfl

set_option maxHeartbeats 1000000 in
set_option maxRecDepth 100000 in
theorem tied_seq {T : Nat → Nat} {t : Nat → Nat → Bool} (hT : TiesOf T t) {among : Nat} {cs : List Nat} (hset : IsSet among cs) (hcs : ∀ b ∈ cs, b < 12) {size : Int} (h100 : size ≤ 100) {bs bt ba : Nat} {w0 : World}
    (hs : w0.cell? ⟨bs, 0, none⟩ = some (.int .i64 size)) (ht : ∀ a, a < 12 → w0.cell? ⟨bt, a, none⟩ = some (.int .u16 (T a))) (ha : w0.cell? ⟨ba, 0, none⟩ = some (.int .u16 among)) (htab : TabW w0) :
    Seq Tryd.prog 100 #[.pointer (some ⟨bs, 0, none⟩), .pointer (some ⟨bt, 0, none⟩), .pointer (some ⟨ba, 0, none⟩)] (fun j => j = 0 ∨ j = bs ∨ j = bt ∨ j = ba) RdL (listsC t size.toNat [] cs) w0 := by
  intro l J Jx W hW hh hY h0
  have lbs : bs < w0.heap.size := World.block_lt_of_cell? w0 _ hs
  have lbt : bt < w0.heap.size := World.block_lt_of_cell? w0 _ (ht 0 (by omega))
  have lba : ba < w0.heap.size := World.block_lt_of_cell? w0 _ ha
  have l0 := htab.pos
  have hsz := hW.size
  show Calls Tryd.prog 100 #[.func (.yield l) #[] #[], .pointer (some ⟨bs, 0, none⟩), .pointer (some ⟨bt, 0, none⟩), .pointer (some ⟨ba, 0, none⟩)] W _
  have qs := carry hW hs lbs
  have qa := carry hW ha lba
  have qt : ∀ a, a < 12 → W.cell? ⟨bt, a, none⟩ = some (.int .u16 (T a)) := fun a h => carry hW (ht a h) lbt
  have qtab := htab.below hW l0
  have la : ba < W.heap.size := Nat.lt_of_lt_of_le lba hsz
  clear hs ht ha htab
  -- the world where the closure is called first
  obtain ⟨W2, hW2⟩ : ∃ W2, (W.alloc (Obj.cells #[.func (.yield l) #[] #[]] 111)).alloc (Obj.cells #[lookV bs W.heap.size (W.heap.size + 1) bt] 112) = W2 := ⟨_, rfl⟩
  have z2 : W2.heap.size = W.heap.size + 2 := by rw [← hW2]; simp
  have b2 : Below W.heap.size W W2 := by rw [← hW2]; go_grown
  have y2 : W2.cell? ⟨W.heap.size, 0, none⟩ = some (.func (.yield l) #[] #[]) := by rw [← hW2]; exact (World.cell?_alloc_lt _ _ _ (by simp)).trans (by simp)
  have k2 : W2.cell? ⟨W.heap.size + 1, 0, none⟩ = some (lookV bs W.heap.size (W.heap.size + 1) bt) := by
    rw [← hW2]
    have := heap_alloc_new (W.alloc (Obj.cells #[.func (.yield l) #[] #[]] 111)) (Obj.cells #[lookV bs W.heap.size (W.heap.size + 1) bt] 112)
    rw [World.size_alloc] at this
    rw [cell_of_row _ _ _ _ _ _ this]
    rfl
  have at2 : LookAt W2 l size T bs W.heap.size (W.heap.size + 1) bt := ⟨carry b2 qs (by omega), y2, k2, fun a h => carry b2 (qt a h) (by omega), qtab.below b2 (by omega)⟩
  have hJ2 : J (fun j => j = W.heap.size ∨ j = W.heap.size + 1) [] W2 := hh _ _ _ _ _ h0 (Apart.of_below b2) (fun j hj => .inr (by omega))
  have call := look_any (J := fun S pre X => J (fun j => S j ∨ j = W.heap.size ∨ j = W.heap.size + 1) pre X) (Jx := fun S pre X => Jx (fun j => S j ∨ j = W.heap.size ∨ j = W.heap.size + 1) pre X)
    (R := fun j => (j = 0 ∨ j = bs ∨ j = bt ∨ j = ba) ∨ j = W.heap.size ∨ j = W.heap.size + 1) (B := W.heap.size + 2) (l := l) (size := size) (T := T) (t := t) (bs := bs) (yb := W.heap.size) (bl := W.heap.size + 1) (bt := bt)
    (fun j hj => by omega)
    (fun S pre told A c W1 hj htold hk => by
      refine YieldAt.mono (hY _ pre told _ W1 hj ⟨A, c, rfl, htold, fun k hb => .inl (hk k hb)⟩) fun e W' h => ?_
      rcases h with ⟨he, hj', hst⟩ | h
      · exact .inl ⟨he, hj', hst.mono fun j hj => by rcases hj with h | h | h; exact .inl (.inl h); exact .inr h; exact .inl (.inr h)⟩
      · exact .inr h)
    (fun S S' pre A C hj hap hS => hh _ _ _ _ _ hj (hap.mono fun j h => .inl h) (fun j h => by
      rcases h with h | h
      · exact (hS j h).imp .inl id
      · exact .inl (.inr h)))
    (.inl (.inr (.inl rfl))) (.inr (.inl rfl)) (.inr (.inr rfl)) (.inl (.inr (.inr (.inl rfl)))) (.inl (.inl rfl)) hT.bit hT.lt size.toNat cs [] among none 0 (fun _ => False) [] W2
    (by simp only [List.length_nil]; omega) (by simp only [List.length_nil]; omega) hset hcs (by omega) at2 (hh _ _ _ _ _ hJ2 (Apart.refl _ _) (fun j hj => by rcases hj with h | h; exact h.elim; exact .inl h)) (World.ownsRow_nil _ _ _ _) (fun k hk => by simp [Value.ownBlock] at hk) (fun j h => h.elim)
  have Call := Lib.hid call
  have HW2 := Lib.hid hW2
  clear call hW2 at2 hJ2 y2 k2 qt qs hY hh
  go_enter Tryd.func100, Tryd.ntmps100
  go_wp2_with fail
  rw [HW2.out]
  refine Call.out.mono ?_
  rintro e W3 ⟨ok, rfl, hpost⟩
  go_wp2
  go_end0
  refine ⟨⟨_, rfl⟩, ?_⟩
  cases ok
  · obtain ⟨S', q, x, hq, hx⟩ := hpost
    exact .inr ⟨_, q, x, hq, hx⟩
  · obtain ⟨S', hj, _⟩ := hpost.ex
    exact .inl ⟨_, hj⟩
theorem Seq.more {α : Type} {P : Program} {g : Nat} {lb : Array Value} {R R' : Nat → Prop} {Rd : (Nat → Prop) → α → Array Value → World → Prop} {xs : List α} {w0 : World} (h : Seq P g lb R Rd xs w0) (hR : ∀ j, R j → R' j) : Seq P g lb R' Rd xs w0 :=
  fun l J Jx W hW hh hY h0 => h l J Jx W hW hh (fun T pre x args W1 hJ hrd => YieldAt.mono (hY T pre x args W1 hJ hrd) fun _ _ hp =>
    hp.elim (fun ⟨he, hj, hs⟩ => .inl ⟨he, hj, hs.mono fun j hj => hj.elim .inl fun hr => .inr (hR j hr)⟩) .inr) h0

/-- A range over an iterator of one value, its variable not used elsewhere. -/
theorem wp_rangeFunc_one {P : Program} {α : Type} {g : Operand} {p : Tmp} {body : Code} {Q : Exit → Act → World → Prop} {a : Act} {w : World} {gf : Nat} {lb : Array Value} (hg : a.eval g = .func (.func gf) #[] lb)
    (eg : ∀ args w, (callFunc gf args).run P w = .ok (.enter gf args) w) {R : Nat → Prop} {Rd : (Nat → Prop) → α → Array Value → World → Prop} {xs : List α} (hseq : Seq P gf lb R Rd xs w) (hR : ∀ j, R j → j < w.heap.size)
    (hRd : ∀ T x args A C, Rd T x args A → Stays T A C → Rd T x args C) (hps : ∀ T x args W, Rd T x args W → args.size = 1)
    (I : (Nat → Prop) → List α → World → Prop) (Ix : Code → List α → World → Prop) (hI : Held I) (hIx : ∀ c pre A C, Ix c pre A → Apart (fun j => j = w.heap.size + 1) A C → Ix c pre C) (h0 : I (fun _ => False) [] w)
    (hbody : ∀ (l : Nat) (T S : Nat → Prop) (pre : List α) (x : α) (v : Value) (W : World), I S pre W → Rd T x #[v] W → (∀ j, T j → S j) →
      body.wpIn (Fence.wide.inRound l) 3 P (iterPost w.heap.size S R I Ix (pre ++ [x]) W) { tmps := a.tmps.setIfInBounds p v, defers := [] } W)
    (hdone : ∀ (S : Nat → Prop) (W : World), I S xs W → W.heap[w.heap.size]? = some (.deferred (some [])) → Q .normal { a with defers := { target := .collected w.heap.size, args := #[] } :: a.defers } W)
    (hstop : ∀ (c : Code) (pre : List α) (x : α) (W : World), pre ++ [x] <+: xs → Ix c (pre ++ [x]) W → W.heap[w.heap.size]? = some (.deferred (some [])) → c.wp P Q { a with defers := { target := .collected w.heap.size, args := #[] } :: a.defers } W) :
    (Code.rangeFunc g #[p] Code.skip body).wp P Q a w := by
  refine (wpIn_wide (n := 3)).1 ?_
  have hone : ∀ args : Array Value, args.size = 1 → ∃ v, args = #[v] := fun args h => by
    obtain ⟨l⟩ := args
    match l, h with
    | [v], _ => exact ⟨v, rfl⟩
  refine wpIn_rangeFunc_iter hg eg hseq (Below.refl _ _) hR hRd (fun T x args W h => hps T x args W h) I Ix hI hIx h0 (fun args => { tmps := a.tmps.setIfInBounds p (args[0]?.getD undef), defers := [] }) ?_ ?_ hdone (fun c pre x W h1 h2 h3 => (wpIn_wide (n := 3)).2 (hstop c pre x W h1 h2 h3))
  · intro l T x args W K hrd hK
    obtain ⟨v, rfl⟩ := hone args (hps T x args W hrd)
    refine wpIn_skip ?_
    change K _ W
    simpa using hK
  · intro l T S pre x args W hi hrd hTS
    obtain ⟨v, rfl⟩ := hone args (hps T x args W hrd)
    exact hbody l T S pre x v W hi hrd hTS

/-- A call of the iterator's maker, with all that its loop wants. -/
theorem allTied_got {T : Nat → Nat} {t : Nat → Nat → Bool} (hT : TiesOf T t) {among : Nat} {cs : List Nat} (hset : IsSet among cs) (hcs : ∀ b ∈ cs, b < 12) {size : Int} (h100 : size ≤ 100) (w : World) (htab : TabW w) :
    Calls Tryd.prog 77 #[.agg (tcells T), .int .u16 among, .int .i64 size] w fun e w1 =>
      ∃ lb, e = .returned (.func (.func 100) #[] lb) ∧ Below w.heap.size w w1 ∧ Seq Tryd.prog 100 lb (fun j => j = 0 ∨ w.heap.size ≤ j ∧ j < w1.heap.size) RdL (listsC t size.toNat [] cs) w1 := by
  refine (allTied_any T among size w).mono ?_
  rintro e w1 ⟨rfl, rfl⟩
  have hb : Below w.heap.size w (((w.alloc (.cells (tcells T) 69)).alloc (.cells #[.int .u16 among] 66)).alloc (.cells #[.int .i64 size] 3)) := by go_grown
  have h1 := heap_alloc_new w (.cells (tcells T) 69)
  have h2 := heap_alloc_new (w.alloc (.cells (tcells T) 69)) (.cells #[.int .u16 among] 66)
  have h3 := heap_alloc_new ((w.alloc (.cells (tcells T) 69)).alloc (.cells #[.int .u16 among] 66)) (.cells #[.int .i64 size] 3)
  simp only [World.size_alloc] at h2 h3
  refine ⟨_, rfl, hb, (tied_seq hT hset hcs h100 (w0 := _) (bs := w.heap.size + 2) (bt := w.heap.size) (ba := w.heap.size + 1) ?_ ?_ ?_ (htab.below hb htab.pos)).more ?_⟩
  · rw [cell_of_row _ _ _ _ _ _ h3]; rfl
  · intro a ha
    refine (World.cell?_alloc_lt _ _ _ (by simp; omega)).trans ((World.cell?_alloc_lt _ _ _ (by simp)).trans ?_)
    rw [cell_of_row _ _ _ _ _ _ h1]
    exact tcells_at T a ha
  · refine (World.cell?_alloc_lt _ _ _ (by simp)).trans ?_
    rw [cell_of_row _ _ _ _ _ _ h2]; rfl
  · intro j hj
    simp only [World.size_alloc]
    omega
end Go.Proofs.YtgccapdjhnejcaaDoor
