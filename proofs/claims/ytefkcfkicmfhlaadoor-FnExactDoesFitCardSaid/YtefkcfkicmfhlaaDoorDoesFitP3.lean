/-
  Texts put together for the claims of 'DoesFit' (pack 3): LookW, Tied, CountT, Table, Ties, Ties2, Has, Own, LRows, Of, Other.
-/
import Derived.Test.YtefkcfkicmfhlaaDoorDoesFitP2
import Derived.WalkMore
import Derived.Laws.EntriesVeiled
import Derived.StillTailTactics
import Derived.Deep.DeepCutAuto
import Derived.ArgAppend
import Derived.Laws.AppendOwnNone
/-
  THE PROGRAM's RECURSIVE CLOSURE THAT GOES THROUGH THE LISTS OF PEOPLE WHO ARE TIED, walked.
-/
namespace Go.Proofs.YtefkcfkicmfhlaaDoor
open Go.RowKit Go.Shelf
attribute [local go_sem] Oper.semAt_some

theorem clear_bit {j a : Nat} (hj : j < 65536) (ha : a < 16) : bits BinOp.andNot IntKind.u16 (j : Int) (IntKind.u16.wrap (2 ^ min a 16)) = ((j &&& (65535 - 2 ^ a) : Nat) : Int) := by
  have h2 : 2 ^ a < 2 ^ 16 := Nat.pow_lt_pow_right (by omega) ha
  rw [show (2 : Nat) ^ 16 = 65536 from rfl] at h2
  have e : IntKind.u16.wrap (2 ^ min a 16) = ((2 ^ a : Nat) : Int) := by
    obtain ⟨m, hm⟩ : ∃ m, 2 ^ a = m := ⟨_, rfl⟩
    rw [Nat.min_eq_left (by omega), IntKind.wrap_u16, show (2 : Int) ^ a = ((2 ^ a : Nat) : Int) from by simp, hm]
    rw [hm] at h2
    omega
  rw [e, u16_andNot_nat j _ hj h2]

section
variable {l : Nat} {size : Int} {T : Nat → Nat} {t : Nat → Nat → Bool} {bs yb bl bt B : Nat} {R : Nat → Prop} {J Jx : (Nat → Prop) → List (List Int) → World → Prop} {Good : List (List Int) → Prop}
/-- Nobody more is wanted: the list is handed to the round. -/
theorem look_zero (hR : ∀ j, R j → j < B)
    (hY : ∀ S pre told A c W1, J S pre W1 → World.told W1 A c told → (∀ k, (Value.slice A told.length c).ownBlock = some k → S k) → told.length ≤ 100 → Good (pre ++ [told]) → YieldAt Fence.wide 0 Tryd.prog l #[.slice A told.length c] W1 fun e W' =>
      (e = .returned (.bool true) ∧ J S (pre ++ [told]) W' ∧ Stays (fun j => S j ∨ R j) W1 W') ∨ (e = .returned (.bool false) ∧ Jx S (pre ++ [told]) W'))
    (cs : List Nat) (told : List Int) (jn : Nat) (A : Option Addr) (c : Nat) (S : Nat → Prop) (pre : List (List Int)) (W : World) (hsz : size ≤ told.length) (h100 : told.length ≤ 100) (hgd : Good (pre ++ [told])) (hB : B ≤ W.heap.size) (hL : LookAt W l size T bs yb bl bt)
    (hJ : J S pre W) (ht : World.told W A c told) (hA : ∀ k, (Value.slice A told.length c).ownBlock = some k → S k) :
    Calls Tryd.prog 190 #[.slice A told.length c, .int .u16 jn, .pointer (some ⟨bs, 0, none⟩), .pointer (some ⟨yb, 0, none⟩), .pointer (some ⟨bl, 0, none⟩), .pointer (some ⟨bt, 0, none⟩)] W fun e W' =>
      ∃ ok, e = .returned (.bool ok) ∧ LookPost J Jx R S A c told pre (listsC t 0 told cs) W ok W' := by
  have hs := hL.s
  have hy0 := hL.y
  obtain ⟨fn, tmps, assign, body, hy, hRd⟩ := yield_any (m' := 2) (hY S pre told A c W hJ ht hA h100 hgd)
  rw [listsC_zero]
  refine (callsIn_wide (n := 3)).1 ?_
  refine callsIn_of_wp Tryd.func190 rfl trivial ?_ rfl
  simp only [Tryd.ntmps190, List.size_toArray, List.length_cons, List.length_nil, Nat.reduceAdd, Nat.reduceSub, Array.replicate_succ, Array.replicate_zero, List.push_toArray, List.append_toArray, List.nil_append, List.cons_append]
  gi_wp2
  refine wpIn_wide.2 (wp_scope_straight ((wpIn_wide (n := 3)).1 ?_))
  gi_wp2
  refine hRd.mono ?_
  rintro e W' (⟨rfl, hJ', hst⟩ | ⟨rfl, hJx⟩)
  · gi_wp2
    rw [Exit.noGoto_ret]
    go_ret
    refine ⟨true, rfl, ⟨S, hJ', fun _ h => h, fun _ h => .inl h⟩, hst.below, fun j hj => hst.same j (by have := hR j hj; omega) (.inr hj), fun j hj hlt _ => hst.same j hlt (.inl hj), ?_⟩
    exact told_kept ht fun k hk => hst.same k (own_lies ht k hk).2 (.inl (hA k hk))
  · gi_wp2
    rw [Exit.noGoto_ret]
    go_ret
    exact ⟨false, rfl, S, [], told, List.prefix_refl _, hJx⟩

set_option maxHeartbeats 4000000 in
set_option maxRecDepth 100000 in
theorem look_any (hR : ∀ j, R j → j < B)
    (hY : ∀ S pre told A c W1, J S pre W1 → World.told W1 A c told → (∀ k, (Value.slice A told.length c).ownBlock = some k → S k) → told.length ≤ 100 → Good (pre ++ [told]) → YieldAt Fence.wide 0 Tryd.prog l #[.slice A told.length c] W1 fun e W' =>
      (e = .returned (.bool true) ∧ J S (pre ++ [told]) W' ∧ Stays (fun j => S j ∨ R j) W1 W') ∨ (e = .returned (.bool false) ∧ Jx S (pre ++ [told]) W'))
    (hh : Held J) (h1 : R bs) (h2 : R yb) (h3 : R bl) (h4 : R bt) (h5 : R 4) (hT : ∀ a b, a < 12 → b < 16 → (T a).testBit b = t a b) (hT16 : ∀ a, a < 12 → T a < 65536) : ∀ (need : Nat)
    (cs : List Nat) (told : List Int) (jn : Nat) (A : Option Addr) (c : Nat) (S : Nat → Prop) (pre : List (List Int)) (W : World), (need = 0 ∧ size ≤ told.length ∨ 0 < need ∧ size = told.length + need) → told.length + need ≤ 100 → (∀ q, q <+: listsC t need told cs → Good (pre ++ q)) → IsSet jn cs → (∀ b ∈ cs, b < 12) →
    B ≤ W.heap.size → LookAt W l size T bs yb bl bt → J S pre W → World.told W A c told → (∀ k, (Value.slice A told.length c).ownBlock = some k → S k) → (∀ j, S j → B ≤ j) →
    Calls Tryd.prog 190 #[.slice A told.length c, .int .u16 jn, .pointer (some ⟨bs, 0, none⟩), .pointer (some ⟨yb, 0, none⟩), .pointer (some ⟨bl, 0, none⟩), .pointer (some ⟨bt, 0, none⟩)] W fun e W' =>
      ∃ ok, e = .returned (.bool ok) ∧ LookPost J Jx R S A c told pre (listsC t need told cs) W ok W' := by
  intro need
  induction need with
  | zero =>
    intro cs told jn A c S pre W hsz h100 hgd _ _ hB hL hJ ht hA _
    exact look_zero hR hY cs told jn A c S pre W (by omega) (by omega) (hgd _ (by rw [listsC_zero]; exact List.prefix_refl _)) hB hL hJ ht hA
  | succ need ih =>
    intro cs told jn A c S pre W hsz h100 hgd hset hcs hB hL hJ ht hA hS
    have hlt : (told.length : Int) < size := by omega
    have hnle : ¬ size ≤ (told.length : Int) := by omega
    have hs := hL.s
    have hsz' : (need = 0 ∧ size ≤ ((told.length + 1 : Nat) : Int)) ∨ (0 < need ∧ size = ((told.length + 1 : Nat) : Int) + need) := by omega
    obtain ⟨L, hLL⟩ : ∃ L, listsC t (need + 1) told cs = L := ⟨_, rfl⟩
    rw [hLL] at hgd ⊢
    have HGD := Lib.hid hgd
    have HLL := Lib.hid hLL
    have HSZ := Lib.hid hsz'
    have HL0 := Lib.hid hL
    clear hLL hsz' hsz hL hgd
    go_enter Tryd.func190, Tryd.ntmps190
    go_wp2
    refine wp_scope_jumps 0 (fun a W' => (∃ t0 t1 t2 t3 t4 t5 t6 t7 t8 t9 t10 t11 t12 t13 t14 t15 t16 t17 t18 t19 t20 t21 t22 t23 t24 t25 t26 t27 t28 t29 t30 t31 t32 t33 t34 t35 t36, a = ({ tmps := #[t0, t1, t2, t3, t4, t5, t6, t7, t8, t9, t10, t11, t12, t13, t14, t15, t16, t17, t18, t19, t20, t21, t22, t23, t24, t25, t26, t27, t28, t29, t30, t31, t32, t33, t34, t35, t36], defers := [] } : Act)) ∧ ∃ S' q x, q ++ [x] <+: L ∧ Jx S' (pre ++ (q ++ [x])) W') (fun _ _ => 0) rfl ?first ?pass
    case pass =>
      rintro a W' ⟨⟨t0, t1, t2, t3, t4, t5, t6, t7, t8, t9, t10, t11, t12, t13, t14, t15, t16, t17, t18, t19, t20, t21, t22, t23, t24, t25, t26, t27, t28, t29, t30, t31, t32, t33, t34, t35, t36, rfl⟩, hx⟩
      go_wp2
      rw [show ∀ (a : Act) (w : World) (Q : Exit → Act → World → Prop) (J : Act → World → Prop), Exit.jump 0 J Q .ret a w = Q .ret a w from fun _ _ _ _ => rfl]
      go_ret
      exact ⟨false, rfl, hx⟩
    case first =>
      go_wp2
      clear hs
      go_loopw [1] (fun i wr => ∃ (jn' : Nat) (cs' : List Nat) (done : List (List Int)), i = .int .u16 jn' ∧ IsSet jn' cs' ∧ (∀ b ∈ cs', b < 12) ∧ L = done ++ listsC t (need + 1) told cs' ∧ LookYes J R S A c told (pre ++ done) W wr) (fun i _ => (intOf i).toNat)
      case atStart => exact ⟨jn, cs, [], rfl, hset, hcs, by rw [HLL.out]; rfl, by rw [List.append_nil]; exact LookYes.start hJ ht⟩
      case round =>
        obtain ⟨jn', cs', done, rfl, hset', hcs', hL', hyes⟩ := hrel
        have hL2 := HL0.out.of hyes.ro h1 h2 h3 h4 h5
        have Hyes := Lib.hid hyes
        have HL' := Lib.hid hL'
        clear hyes hL'
        cases cs' with
        | nil =>
          have hz := hset'.zero
          subst hz
          go_wp2
          rw [show ∀ (a : Act) (w : World) (Q : Exit → Act → World → Prop) (J : Act → World → Prop), Exit.jump 0 J Q .ret a w = Q .ret a w from fun _ _ _ _ => rfl]
          go_ret
          refine ⟨true, rfl, ?_⟩
          have e := HL'.out
          rw [listsC_nil, List.append_nil] at e
          rw [e]
          exact Hyes.out
        | cons a cs'' =>
          have hpos := hset'.pos
          have hposI : ((jn' : Int) == 0) = false := by simp only [beq_eq_false_iff_ne, ne_eq]; omega
          go_wp2_with fail
          refine (tz16_any hset' wr hL2.tab).mono ?_
          rintro e w' ⟨rfl, rfl⟩
          go_wp2
          have ha12 := hcs' a List.mem_cons_self
          have hTa := hT16 a ha12
          rw [clear_bit hset'.small (by omega)]
          have htail := hset'.tail
          have hsm := hset'.smaller
          have hint := htail.inter (T := T a) (f := t a) (fun b hb => hT a b ha12 hb)
          obtain ⟨j2, hj2⟩ : ∃ j2, jn' &&& (65535 - 2 ^ a) = j2 := ⟨_, rfl⟩
          rw [hj2] at htail hsm hint ⊢
          have hand := u16_and_nat j2 (T a) htail.small hTa
          have hai : (a : Int) < 12 := by omega
          have hto := Hyes.out.told
          have f1 := hL2.k
          have f2 := hL2.t a ha12
          have hblw : bl < wr.heap.size := World.block_lt_of_cell? wr _ f1
          have hbtw : bt < wr.heap.size := World.block_lt_of_cell? wr _ f2
          have g1 : ∀ o, (wr.drew.alloc o).cell? ⟨bl, 0, none⟩ = some (lookV bs yb bl bt) := fun o => (World.cell?_alloc_lt wr.drew _ _ hblw).trans f1
          have g2 : ∀ o, (wr.drew.alloc o).cell? ⟨bt, a, none⟩ = some (.int .u16 (T a)) := fun o => (World.cell?_alloc_lt wr.drew _ _ hbtw).trans f2
          have hll : (told ++ [(a : Int)]).length = told.length + 1 := by simp
          have Htail := Lib.hid htail
          have Hint := Lib.hid hint
          have Hlen : (told ++ [(a : Int)]).length + need ≤ 100 := by rw [hll]; omega
          have hgd2 : ∀ q, q <+: listsC t need (told ++ [(a : Int)]) (cs''.filter (t a)) → Good (pre ++ done ++ q) := fun q hq => by
            rw [List.append_assoc]
            refine HGD.out _ ?_
            rw [HL'.out, listsC_cons]
            exact (List.prefix_append_right_inj done).2 (hq.trans (List.prefix_append _ _))
          have HGD2 := Lib.hid hgd2
          clear hgd2
          clear hj2 hset' hpos hposI hint htail hL2 hlt hnle
          go_region_law (first
            | (refine step_append_told (by rfl) _ _ (by rfl) A c told a (by rfl) ((World.ownsRow.drew hto).alloc _) ⟨wr.heap.size, 0, none⟩ (by rfl) (one_cell (by simp)) (by omega) ?_; intro A1 c1 w1 G1; obtain ⟨⟨S2, e1, e2, e3, e4⟩, e5, e6, e7⟩ := Hyes.out.step hh hA hS hR hB ((Below.refl _ wr).drew.alloc (Nat.le_refl _) _) G1; have hL3 := HL0.out.of (fun j hj => (e5 j hj).trans (Hyes.out.ro j hj)) h1 h2 h3 h4 h5; have m1 := hL3.k; have m2 := hL3.t a ha12; have ihc := ih (cs''.filter (t a)) (told ++ [(a : Int)]) (j2 &&& T a) A1 c1 S2 (pre ++ done) w1 (by rw [hll]; exact HSZ.out) Hlen HGD2.out Hint.out (fun b hb => hcs' b (List.mem_cons_of_mem _ (List.mem_filter.1 hb).1)) e6 hL3 e1 G1.new e4 (fun j hj => by rcases e3 j hj with h | h; exact hS j h; omega); rw [hll] at ihc; have IHC := Lib.hid ihc; have HG := Lib.hid G1; clear ihc hL3 G1)
            | (go_simp; refine IHC.out.mono ?_; rintro e w2 ⟨ok, rfl, hpost⟩)
            | fail)
          all_goals (cases ok)
          all_goals (go_wp2)
          all_goals first
            | (go_step3; refine (show 0 = 0 ∧ _ from ⟨rfl, ?_⟩); refine (show (∃ _, _) ∧ _ from ⟨⟨_, _, _, _, _, _, _, _, _, _, _, _, _, _, _, _, _, _, _, _, _, _, _, _, _, _, _, _, _, _, _, _, _, _, _, _, _, rfl⟩, ?_⟩); obtain ⟨S', q, x, hq, hx⟩ := hpost; refine ⟨S', done ++ q, x, ?_, by simpa [List.append_assoc] using hx⟩; rw [HL'.out, listsC_cons, List.append_assoc done q]; exact (List.prefix_append_right_inj _).2 (hq.trans (List.prefix_append _ _)))
            | (refine ⟨⟨_, _, _, _, _, _, _, _, _, _, _, _, _, _, _, _, _, _, _, _, _, _, ⟨j2, cs'', done ++ listsC t need (told ++ [(a : Int)]) (cs''.filter (t a)), rfl, Htail.out, fun b hb => hcs' b (List.mem_cons_of_mem _ hb), by rw [HL'.out, listsC_cons, List.append_assoc], ?_⟩, rfl⟩, ?_⟩; (rw [← List.append_assoc]; exact Hyes.out.next hA hS hR hB ((Below.refl _ wr).drew.alloc (Nat.le_refl _) _) HG.out e2 e3 hpost); (show ((j2 : Nat) : Int).toNat < ((jn' : Nat) : Int).toNat; omega))
end
end Go.Proofs.YtefkcfkicmfhlaaDoor
/-
  THE PROGRAM's ITERATOR OVER LISTS OF TIED PEOPLE ('allTied'): its contract, in the form that the law of the statement takes.
-/
namespace Go.Proofs.YtefkcfkicmfhlaaDoor
open Go.RowKit

/-- ties as the program has them: twelve sets -/
def tcells (T : Nat → Nat) : Array Value := #[.int .u16 (T 0), .int .u16 (T 1), .int .u16 (T 2), .int .u16 (T 3), .int .u16 (T 4), .int .u16 (T 5), .int .u16 (T 6), .int .u16 (T 7), .int .u16 (T 8), .int .u16 (T 9), .int .u16 (T 10), .int .u16 (T 11)]
theorem tcells_at (T : Nat → Nat) : ∀ a, a < 12 → (tcells T)[a]? = some (.int .u16 (T a)) := by
  intro a ha
  match a, ha with
  | 0, _ => rfl
  | 1, _ => rfl
  | 2, _ => rfl
  | 3, _ => rfl
  | 4, _ => rfl
  | 5, _ => rfl
  | 6, _ => rfl
  | 7, _ => rfl
  | 8, _ => rfl
  | 9, _ => rfl
  | 10, _ => rfl
  | 11, _ => rfl
/-- sets of people that tell who is tied to whom -/
structure TiesOf (T : Nat → Nat) (t : Nat → Nat → Bool) : Prop where
  bit : ∀ a b, a < 12 → b < 16 → (T a).testBit b = t a b
  lt : ∀ a, a < 12 → T a < 65536

set_option maxHeartbeats 1000000 in
theorem allTied_any (T : Nat → Nat) (among : Nat) (size : Int) (w : World) :
    Calls Tryd.prog 169 #[.agg (tcells T), .int .u16 among, .int .i64 size] w fun e w' =>
      e = .returned (.func (.func 189) #[] #[.pointer (some ⟨w.heap.size + 2, 0, none⟩), .pointer (some ⟨w.heap.size, 0, none⟩), .pointer (some ⟨w.heap.size + 1, 0, none⟩)]) ∧
      w' = ((w.alloc (.cells (tcells T) 168)).alloc (.cells #[.int .u16 among] 166)).alloc (.cells #[.int .i64 size] 3) := by
  unfold tcells
  go_enter Tryd.func169, Tryd.ntmps169
  go_wp2
  go_ret
  exact ⟨rfl, rfl⟩

/-- what a round is handed: a list told, in a block of the iterator's own -/
def RdL (S : Nat → Prop) (told : List Int) (args : Array Value) (W : World) : Prop := ∃ A c, args = #[.slice A told.length c] ∧ World.told W A c told ∧ (∀ k, (Value.slice A told.length c).ownBlock = some k → S k) ∧ told.length ≤ 100
theorem RdL.stays {S : Nat → Prop} {told : List Int} {args : Array Value} {A C : World} (h : RdL S told args A) (hs : Stays S A C) : RdL S told args C := by
  obtain ⟨B, c, e, ht, hk, h100⟩ := h
  exact ⟨B, c, e, told_kept ht fun k hb => hs.same k (own_lies ht k hb).2 (hk k hb), hk, h100⟩
theorem RdL.one {S : Nat → Prop} {told : List Int} {args : Array Value} {A : World} (h : RdL S told args A) : args.size = 1 := by
  obtain ⟨B, c, e, _⟩ := h
  rw [e]; rfl

set_option maxHeartbeats 1000000 in
set_option maxRecDepth 100000 in
theorem tied_seq {T : Nat → Nat} {t : Nat → Nat → Bool} (hT : TiesOf T t) {among : Nat} {cs : List Nat} (hset : IsSet among cs) (hcs : ∀ b ∈ cs, b < 12) {size : Int} (h100 : size ≤ 100) {bs bt ba : Nat} {w0 : World}
    (hs : w0.cell? ⟨bs, 0, none⟩ = some (.int .i64 size)) (ht : ∀ a, a < 12 → w0.cell? ⟨bt, a, none⟩ = some (.int .u16 (T a))) (ha : w0.cell? ⟨ba, 0, none⟩ = some (.int .u16 among)) (htab : TabW w0) :
    Seq Tryd.prog 189 #[.pointer (some ⟨bs, 0, none⟩), .pointer (some ⟨bt, 0, none⟩), .pointer (some ⟨ba, 0, none⟩)] (fun j => j = 4 ∨ j = bs ∨ j = bt ∨ j = ba) RdL (listsC t size.toNat [] cs) w0 := by
  intro l J Jx W hW hh hY h0
  have lbs : bs < w0.heap.size := World.block_lt_of_cell? w0 _ hs
  have lbt : bt < w0.heap.size := World.block_lt_of_cell? w0 _ (ht 0 (by omega))
  have lba : ba < w0.heap.size := World.block_lt_of_cell? w0 _ ha
  have l0 := htab.pos
  have hsz := hW.size
  show Calls Tryd.prog 189 #[.func (.yield l) #[] #[], .pointer (some ⟨bs, 0, none⟩), .pointer (some ⟨bt, 0, none⟩), .pointer (some ⟨ba, 0, none⟩)] W _
  have qs := carry hW hs lbs
  have qa := carry hW ha lba
  have qt : ∀ a, a < 12 → W.cell? ⟨bt, a, none⟩ = some (.int .u16 (T a)) := fun a h => carry hW (ht a h) lbt
  have qtab := htab.below hW l0
  have la : ba < W.heap.size := Nat.lt_of_lt_of_le lba hsz
  clear hs ht ha htab
  -- the world where the closure is called first
  obtain ⟨W2, hW2⟩ : ∃ W2, (W.alloc (Obj.cells #[.func (.yield l) #[] #[]] 210)).alloc (Obj.cells #[lookV bs W.heap.size (W.heap.size + 1) bt] 211) = W2 := ⟨_, rfl⟩
  have z2 : W2.heap.size = W.heap.size + 2 := by rw [← hW2]; simp
  have b2 : Below W.heap.size W W2 := by rw [← hW2]; go_grown
  have y2 : W2.cell? ⟨W.heap.size, 0, none⟩ = some (.func (.yield l) #[] #[]) := by rw [← hW2]; exact (World.cell?_alloc_lt _ _ _ (by simp)).trans (by simp)
  have k2 : W2.cell? ⟨W.heap.size + 1, 0, none⟩ = some (lookV bs W.heap.size (W.heap.size + 1) bt) := by
    rw [← hW2]
    have := heap_alloc_new (W.alloc (Obj.cells #[.func (.yield l) #[] #[]] 210)) (Obj.cells #[lookV bs W.heap.size (W.heap.size + 1) bt] 211)
    rw [World.size_alloc] at this
    rw [cell_of_row _ _ _ _ _ _ this]
    rfl
  have at2 : LookAt W2 l size T bs W.heap.size (W.heap.size + 1) bt := ⟨carry b2 qs (by omega), y2, k2, fun a h => carry b2 (qt a h) (by omega), qtab.below b2 (by omega)⟩
  have hJ2 : J (fun j => j = W.heap.size ∨ j = W.heap.size + 1) [] W2 := hh _ _ _ _ _ h0 (Apart.of_below b2) (fun j hj => .inr (by omega))
  have call := look_any (Good := fun q => q <+: listsC t size.toNat [] cs) (J := fun S pre X => J (fun j => S j ∨ j = W.heap.size ∨ j = W.heap.size + 1) pre X) (Jx := fun S pre X => Jx (fun j => S j ∨ j = W.heap.size ∨ j = W.heap.size + 1) pre X)
    (R := fun j => (j = 4 ∨ j = bs ∨ j = bt ∨ j = ba) ∨ j = W.heap.size ∨ j = W.heap.size + 1) (B := W.heap.size + 2) (l := l) (size := size) (T := T) (t := t) (bs := bs) (yb := W.heap.size) (bl := W.heap.size + 1) (bt := bt)
    (fun j hj => by omega)
    (fun S pre told A c W1 hj htold hk h100 hgd => by
      refine YieldAt.mono (hY _ pre told _ W1 hj ⟨A, c, rfl, htold, fun k hb => .inl (hk k hb), h100⟩ hgd) fun e W' h => ?_
      rcases h with ⟨he, hj', hst⟩ | h
      · exact .inl ⟨he, hj', hst.mono fun j hj => by rcases hj with h | h | h; exact .inl (.inl h); exact .inr h; exact .inl (.inr h)⟩
      · exact .inr h)
    (fun S S' pre A C hj hap hS => hh _ _ _ _ _ hj (hap.mono fun j h => .inl h) (fun j h => by
      rcases h with h | h
      · exact (hS j h).imp .inl id
      · exact .inl (.inr h)))
    (.inl (.inr (.inl rfl))) (.inr (.inl rfl)) (.inr (.inr rfl)) (.inl (.inr (.inr (.inl rfl)))) (.inl (.inl rfl)) hT.bit hT.lt size.toNat cs [] among none 0 (fun _ => False) [] W2
    (by simp only [List.length_nil]; omega) (by simp only [List.length_nil]; omega) (fun q hq => hq) hset hcs (by omega) at2 (hh _ _ _ _ _ hJ2 (Apart.refl _ _) (fun j hj => by rcases hj with h | h; exact h.elim; exact .inl h)) (World.ownsRow_nil _ _ _ _) (fun k hk => by simp [Value.ownBlock] at hk) (fun j h => h.elim)
  have Call := Lib.hid call
  have HW2 := Lib.hid hW2
  clear call hW2 at2 hJ2 y2 k2 qt qs hY hh
  go_enter Tryd.func189, Tryd.ntmps189
  go_wp2_with fail
  rw [HW2.out]
  refine Call.out.mono ?_
  rintro e W3 ⟨ok, rfl, hpost⟩
  go_wp2
  go_end0
  refine ⟨⟨_, rfl⟩, ?_⟩
  cases ok
  · obtain ⟨S', q, x, hq, hx⟩ := hpost
    exact .inr ⟨_, q, x, hq, hx⟩
  · obtain ⟨S', hj, _⟩ := hpost.ex
    exact .inl ⟨_, hj⟩
theorem Seq.more {α : Type} {P : Program} {g : Nat} {lb : Array Value} {R R' : Nat → Prop} {Rd : (Nat → Prop) → α → Array Value → World → Prop} {xs : List α} {w0 : World} (h : Seq P g lb R Rd xs w0) (hR : ∀ j, R j → R' j) : Seq P g lb R' Rd xs w0 :=
  fun l J Jx W hW hh hY h0 => h l J Jx W hW hh (fun T pre x args W1 hJ hrd hpx => YieldAt.mono (hY T pre x args W1 hJ hrd hpx) fun _ _ hp =>
    hp.elim (fun ⟨he, hj, hs⟩ => .inl ⟨he, hj, hs.mono fun j hj => hj.elim .inl fun hr => .inr (hR j hr)⟩) .inr) h0

/-- A range over an iterator of one value, its variable not used elsewhere. -/
theorem wp_rangeFunc_one {P : Program} {α : Type} {g : Operand} {p : Tmp} {body : Code} {Q : Exit → Act → World → Prop} {a : Act} {w : World} {gf : Nat} {lb : Array Value} (hg : a.eval g = .func (.func gf) #[] lb)
    (eg : ∀ args w, (callFunc gf args).run P w = .ok (.enter gf args) w) {R : Nat → Prop} {Rd : (Nat → Prop) → α → Array Value → World → Prop} {xs : List α} (hseq : Seq P gf lb R Rd xs w) (hR : ∀ j, R j → j < w.heap.size)
    (hRd : ∀ T x args A C, Rd T x args A → Stays T A C → Rd T x args C) (hps : ∀ T x args W, Rd T x args W → args.size = 1)
    (I : (Nat → Prop) → List α → World → Prop) (Ix : Code → List α → World → Prop) (hI : Held I) (hIx : ∀ c pre A C, Ix c pre A → Apart (fun j => j = w.heap.size + 1) A C → Ix c pre C) (h0 : I (fun _ => False) [] w)
    (hbody : ∀ (l : Nat) (T S : Nat → Prop) (pre : List α) (x : α) (v : Value) (W : World), I S pre W → Rd T x #[v] W → (∀ j, T j → S j) →
      body.wpIn (Fence.wide.inRound l) 3 P (iterPost w.heap.size S R I Ix (pre ++ [x]) W) { tmps := a.tmps.setIfInBounds p v, defers := [] } W)
    (hdone : ∀ (S : Nat → Prop) (W : World), I S xs W → W.heap[w.heap.size]? = some (.deferred (some [])) → Q .normal { a with defers := { target := .collected w.heap.size, args := #[] } :: a.defers } W)
    (hstop : ∀ (c : Code) (pre : List α) (x : α) (W : World), pre ++ [x] <+: xs → Ix c (pre ++ [x]) W → W.heap[w.heap.size]? = some (.deferred (some [])) → c.wp P Q { a with defers := { target := .collected w.heap.size, args := #[] } :: a.defers } W) :
    (Code.rangeFunc g #[p] Code.skip body).wp P Q a w := by
  refine (wpIn_wide (n := 3)).1 ?_
  have hone : ∀ args : Array Value, args.size = 1 → ∃ v, args = #[v] := fun args h => by
    obtain ⟨l⟩ := args
    match l, h with
    | [v], _ => exact ⟨v, rfl⟩
  refine wpIn_rangeFunc_iter hg eg hseq (Below.refl _ _) hR hRd (fun T x args W h => hps T x args W h) I Ix hI hIx h0 (fun args => { tmps := a.tmps.setIfInBounds p (args[0]?.getD undef), defers := [] }) ?_ ?_ hdone (fun c pre x W h1 h2 h3 => (wpIn_wide (n := 3)).2 (hstop c pre x W h1 h2 h3))
  · intro l T x args W K hrd hK
    obtain ⟨v, rfl⟩ := hone args (hps T x args W hrd)
    refine wpIn_skip ?_
    change K _ W
    simpa using hK
  · intro l T S pre x args W hi hrd hTS
    obtain ⟨v, rfl⟩ := hone args (hps T x args W hrd)
    exact hbody l T S pre x v W hi hrd hTS

/-- A call of the iterator's maker, with all that its loop wants. -/
theorem allTied_got {T : Nat → Nat} {t : Nat → Nat → Bool} (hT : TiesOf T t) {among : Nat} {cs : List Nat} (hset : IsSet among cs) (hcs : ∀ b ∈ cs, b < 12) {size : Int} (h100 : size ≤ 100) (w : World) (htab : TabW w) :
    Calls Tryd.prog 169 #[.agg (tcells T), .int .u16 among, .int .i64 size] w fun e w1 =>
      ∃ lb, e = .returned (.func (.func 189) #[] lb) ∧ Below w.heap.size w w1 ∧ Seq Tryd.prog 189 lb (fun j => j = 4 ∨ w.heap.size ≤ j ∧ j < w1.heap.size) RdL (listsC t size.toNat [] cs) w1 := by
  refine (allTied_any T among size w).mono ?_
  rintro e w1 ⟨rfl, rfl⟩
  have hb : Below w.heap.size w (((w.alloc (.cells (tcells T) 168)).alloc (.cells #[.int .u16 among] 166)).alloc (.cells #[.int .i64 size] 3)) := by go_grown
  have h1 := heap_alloc_new w (.cells (tcells T) 168)
  have h2 := heap_alloc_new (w.alloc (.cells (tcells T) 168)) (.cells #[.int .u16 among] 166)
  have h3 := heap_alloc_new ((w.alloc (.cells (tcells T) 168)).alloc (.cells #[.int .u16 among] 166)) (.cells #[.int .i64 size] 3)
  simp only [World.size_alloc] at h2 h3
  refine ⟨_, rfl, hb, (tied_seq hT hset hcs h100 (w0 := _) (bs := w.heap.size + 2) (bt := w.heap.size) (ba := w.heap.size + 1) ?_ ?_ ?_ (htab.below hb htab.pos)).more ?_⟩
  · rw [cell_of_row _ _ _ _ _ _ h3]; rfl
  · intro a ha
    refine (World.cell?_alloc_lt _ _ _ (by simp; omega)).trans ((World.cell?_alloc_lt _ _ _ (by simp)).trans ?_)
    rw [cell_of_row _ _ _ _ _ _ h1]
    exact tcells_at T a ha
  · refine (World.cell?_alloc_lt _ _ _ (by simp)).trans ?_
    rw [cell_of_row _ _ _ _ _ _ h2]; rfl
  · intro j hj
    simp only [World.size_alloc]
    omega
end Go.Proofs.YtefkcfkicmfhlaaDoor
/-
  HOW MANY LISTS OF TIED PEOPLE THERE ARE ('countTied'), and whether there is one ('hasTied'), by their contracts.
-/
namespace Go.Proofs.YtefkcfkicmfhlaaDoor
open Go.RowKit Go.Shelf
attribute [local go_sem] Oper.semAt_some

theorem listsC_length_le (t : Nat → Nat → Bool) : ∀ (k : Nat) (told : List Int) (cs : List Nat), (listsC t k told cs).length ≤ 2 ^ cs.length := by
  intro k told cs
  induction h : k + cs.length using Nat.strongRecOn generalizing k told cs with
  | _ n ih =>
    match k, cs with
    | 0, cs => rw [listsC_zero]; exact Nat.one_le_two_pow
    | k + 1, [] => rw [listsC_nil]; simp
    | k + 1, a :: cs =>
      rw [listsC_cons, List.length_append]
      simp only [List.length_cons] at h
      have h0 : (cs.filter (t a)).length ≤ cs.length := List.length_filter_le _ _
      have h1 := ih (k + (cs.filter (t a)).length) (by omega) k (told ++ [(a : Int)]) (cs.filter (t a)) rfl
      have h2 := ih (k + 1 + cs.length) (by omega) (k + 1) told cs rfl
      have h3 : 2 ^ (cs.filter (t a)).length ≤ 2 ^ cs.length := Nat.pow_le_pow_right (by omega) h0
      rw [List.length_cons, Nat.pow_succ]
      omega
theorem set_len {j : Nat} {cs : List Nat} (hs : IsSet j cs) (hcs : ∀ b ∈ cs, b < 12) : cs.length ≤ 12 := by
  have h := List.Nodup.length_le_of_subset (l₁ := cs) (l₂ := List.range 12) (hs.up.imp fun h => Nat.ne_of_lt h) (fun b hb => List.mem_range.2 (hcs b hb))
  simpa using h
theorem lists_few {t : Nat → Nat → Bool} {k : Nat} {told : List Int} {j : Nat} {cs : List Nat} (hs : IsSet j cs) (hcs : ∀ b ∈ cs, b < 12) : (listsC t k told cs).length ≤ 4096 := by
  have h1 := listsC_length_le t k told cs
  have h2 : 2 ^ cs.length ≤ 2 ^ 12 := Nat.pow_le_pow_right (by omega) (set_len hs hcs)
  omega
theorem wrap_next (n : Nat) : wrap64 (wrap64 (n : Int) + 1) = wrap64 ((n + 1 : Nat) : Int) := by unfold wrap64; omega

theorem below_putObj {B l : Nat} {A W : World} (h : Below B A W) (hB : B ≤ W.heap.size) (hl : B ≤ l) (o : Obj) : Below B A (W.putObj l o) := h.grown (grownBy_putObj' W l o) hB (fun k e => by cases e; exact hl)

theorem cell_putObj {W : World} {l b o : Nat} (ob : Obj) (hne : b ≠ l) : (W.putObj l ob).cell? ⟨b, o, none⟩ = W.cell? ⟨b, o, none⟩ := World.cell?_of_block (w := W) (w' := W.putObj l ob) (a := ⟨b, o, none⟩) (World.putObj_heap_other hne)

set_option maxHeartbeats 2000000 in
set_option maxRecDepth 100000 in
theorem countTied_any {T : Nat → Nat} {t : Nat → Nat → Bool} (hT : TiesOf T t) {among : Nat} {cs : List Nat} (hset : IsSet among cs) (hcs : ∀ b ∈ cs, b < 12) {size : Int} (h100 : size ≤ 100) (w : World) (htab : TabW w) :
    Calls Tryd.prog 146 #[.agg (tcells T), .int .u16 among, .int .i64 size] w fun e w' => e = .returned (.int .i64 ((listsC t size.toNat [] cs).length : Int)) ∧ Below w.heap.size w w' := by
  have hfew := lists_few (t := t) (k := size.toNat) (told := []) hset hcs
  refine (callsIn_wide (n := 5)).1 ?_
  refine callsIn_of_wp_marks Tryd.func146 rfl trivial ?_
  simp only [Tryd.ntmps146, List.size_toArray, List.length_cons, List.length_nil, Nat.reduceAdd, Nat.reduceSub, Array.replicate_succ, Array.replicate_zero, List.push_toArray, List.append_toArray, List.nil_append, List.cons_append]
  refine wpIn_wide.2 ?_
  have hTab := Lib.hid htab
  have HT := Lib.hid hT
  have hgot := fun (X : World) (hX : TabW X) => allTied_got hT hset hcs h100 X hX
  unfold tcells at hgot ⊢
  have Got := Lib.hid hgot
  clear htab hT hgot
  go_wp2_with fail
  generalize hW : (w.alloc (Obj.cells #[Value.int IntKind.u16 (T 0), Value.int IntKind.u16 (T 1), Value.int IntKind.u16 (T 2), Value.int IntKind.u16 (T 3), Value.int IntKind.u16 (T 4), Value.int IntKind.u16 (T 5), Value.int IntKind.u16 (T 6), Value.int IntKind.u16 (T 7), Value.int IntKind.u16 (T 8), Value.int IntKind.u16 (T 9), Value.int IntKind.u16 (T 10), Value.int IntKind.u16 (T 11)] 168)).alloc (Obj.cells #[.int .i64 0] 3) = W
  have kW : Below w.heap.size w W := by rw [← hW]; go_grown
  have zW : W.heap.size = w.heap.size + 2 := by rw [← hW]; simp
  have cW : W.cell? ⟨w.heap.size + 1, 0, none⟩ = some (.int .i64 0) := by rw [← hW]; simp
  have fW : W.frozen? ⟨w.heap.size + 1, 0, none⟩ = false := by rw [← hW]; simp
  clear hW
  have pos := hTab.out.pos
  refine (Got.out W (hTab.out.below kW pos)).mono ?_
  rintro e w1 ⟨lb, rfl, hb1, hseq⟩
  have s1 := hb1.size
  have c1 := carry hb1 cW (by omega)
  have f1 := (hb1.frozen (p := ⟨w.heap.size + 1, 0, none⟩) (by simp; omega)).trans fW
  have k1 := kW.trans (hb1.mono kW.size)
  have Seq1 := Lib.hid hseq
  clear hseq cW fW
  go_wp2_with fail
  refine wp_rangeFunc_one rfl (enters_of Tryd.func189 (by kernel_rfl) rfl) Seq1.out (fun j hj => by omega) (fun T x args A C h hs => h.stays hs) (fun T x args W h => h.one)
    (fun S pre X => (∀ j, S j → w1.heap.size ≤ j) ∧ w1.heap.size ≤ X.heap.size ∧ Below w.heap.size w X ∧ X.cell? ⟨w.heap.size + 1, 0, none⟩ = some (.int .i64 (wrap64 (pre.length : Int))) ∧ X.frozen? ⟨w.heap.size + 1, 0, none⟩ = false)
    (fun _ _ _ => False) ?held (fun _ _ _ _ h _ => h.elim) ⟨fun _ h => h.elim, Nat.le_refl _, k1, by simpa [wrap64] using c1, f1⟩ ?body ?done (fun _ _ _ _ _ h _ => h.elim)
  case held =>
    rintro T T' pre A C ⟨a1, a2, a3, a4, a5⟩ hap hT'
    have hn : ¬ T (w.heap.size + 1) := fun h => by have := a1 _ h; omega
    refine ⟨fun j hj => (hT' j hj).elim (a1 j) (by omega), Nat.le_trans a2 hap.below.size, a3.trans (hap.below_of (by omega) fun j hj => by have := a1 j hj; omega), hap.cell (p := ⟨w.heap.size + 1, 0, none⟩) a4 hn, (hap.frozen (p := ⟨w.heap.size + 1, 0, none⟩) a4 hn).trans a5⟩
  case body =>
    rintro l T S pre x v X ⟨a1, a2, a3, a4, a5⟩ _ _
    gi_wp2
    have hn : ¬ (S (w.heap.size + 1) ∨ (w.heap.size + 1 = 4 ∨ W.heap.size ≤ w.heap.size + 1 ∧ w.heap.size + 1 < w1.heap.size)) := fun h => by
      rcases h with h | h
      · have := a1 _ h; omega
      · omega
    refine ⟨Stays.setCell (p := ⟨w.heap.size + 1, 0, none⟩) hn X _, a1, by simpa using a2, a3.setCell (p := ⟨w.heap.size + 1, 0, none⟩) (by simp) _, ?_, ?_⟩
    · rw [World.cell?_setCell_same' _ _ _ (by rw [a4]; rfl), wrap_next, List.length_append]
      rfl
    · rw [World.frozen?_setCell]; exact a5
  case done =>
    rintro S X ⟨a1, a2, a3, a4, a5⟩ hD
    go_wp2
    refine ⟨by simp, .inl ⟨_, _, rfl, run_takeDeferred hD, ?_⟩⟩
    refine ⟨_, results_tmp rfl _ _ _, ?_, below_putObj a3 (by omega) (by omega) _⟩
    rw [show wrap64 ((listsC t size.toNat [] cs).length : Int) = ((listsC t size.toNat [] cs).length : Int) from by unfold wrap64; omega]
    rfl

end Go.Proofs.YtefkcfkicmfhlaaDoor
/-
  THE MODEL's TABLE OF A PARTY, AND THE PARTY OF A TABLE, by their contracts.
-/
namespace Go.Proofs.YtefkcfkicmfhlaaDoor
open Go.RowKit

theorem Tryd.infoRow : (Tryd.prog.info? 109).map (fun i => (i.zero, i.size, i.bytes)) = some (some (.slice none 0 0), 1, 24) := by kernel_rfl

set_option maxHeartbeats 2000000 in
set_option maxRecDepth 100000 in
theorem paTable_any (p : Int) (l : PL) (A : Option Addr) (c : Nat) (w : World) (hp : isP p l = true) (hA : CRead w w.heap.size A (pcells l)) :
    Calls Tryd.prog 95 #[.agg #[.int .i64 p, .slice A l.length c]] w (GotTab w p.toNat (adj l)) := by
  obtain ⟨i0, hi, hz0, hz1, hz2⟩ := info_parts Tryd.infoRow
  obtain ⟨i1, hj, hy0, hy1, hy2⟩ := info_parts Tryd.infoBool
  obtain ⟨n, rfl⟩ : ∃ n : Nat, p = n := ⟨p.toNat, by have := isP_range hp; omega⟩
  have hn := isP_range hp
  have hlen : l.length ≤ 66 := by have h1 := isP_length hp; have h2 := people_sq hn.1 hn.2; omega
  simp only [Int.toNat_natCast]
  have Hp := Lib.hid hp
  clear hp
  generalize hB : w.heap.size + 1 = B
  have hBw : w.heap.size < B := by omega
  have HB := Lib.hid hB
  have hB0 : w.heap.size + 1 ≤ B := by omega
  have hB1 : B ≤ w.heap.size + 1 := by omega
  clear hB
  go_enter Tryd.func95, Tryd.ntmps95
  go_wp2
  go_loopw [3, 4] (fun v i wr => ∃ k : Nat, ∃ G, k ≤ n ∧ i = .int .i64 k ∧ TabG wr B v k n G (fun _ _ => false) ∧ Below B (w.alloc (Obj.cells #[.int .i64 (n : Int), .slice A l.length c] 34)) wr) (fun _ i _ => n - (intOf i).toNat)
  case atStart => exact ⟨0, fun _ => 0, Nat.zero_le _, rfl, TabG.nil _ _ _ _ _, Below.refl _ _⟩
  case round =>
    obtain ⟨k, G, hk, rfl, htab, hb⟩ := hrel
    have hs := hb.size
    simp only [World.size_alloc] at hs
    have u0 : wr.cell? ⟨w.heap.size, 0, none⟩ = some (.int .i64 n) := carry hb (by simp) hBw
    have u1 : wr.cell? ⟨w.heap.size, 1, none⟩ = some (.slice A l.length c) := carry hb (by simp) hBw
    by_cases hlt : k < n
    · have hki : (k : Int) < n := by omega
      go_wp2_with (first
        | (at_make; refine wpList_make_row _ rfl _ _ 109 rfl 4 i1 (.bool false) Tryd.underlying109 hj hy0 hy1 rfl _ _ n rfl rfl (by rw [hy2]; omega) (by omega) ?_)
        | (at_builtin; refine wpList_append_own _ rfl _ _ 110 rfl B 109 i0 (.slice none 0 0) 1 24 Tryd.underlying110 hi hz0 hz1 hz2 rfl (by decide) _ _ _ rfl ((htab.own.alloc _).alloc _) ⟨wr.heap.size + 1, 0, none⟩ 1 1 [.slice (some ⟨wr.heap.size, 0, none⟩) n n] rfl rfl (one_cell (by simp)) (one_one rfl) (by unfold maxLen; omega) (by omega) (by simp; omega) ?_; intro v' w1 hown' hgrow _; have htab' := htab.push (by omega) hgrow hown'))
      have hb1 : Below B (w.alloc (Obj.cells #[.int .i64 (n : Int), .slice A l.length c] 34)) w1 := ((hb.alloc (by omega) _).alloc (by simp; omega) _).grown hgrow (by simp; omega) (fun b hb => (htab.own.lt b hb).1)
      clear hown' hgrow
      go_roundw
      case rel => exact ⟨k + 1, _, by omega, by go_num, htab', hb1⟩
      case measure => simp [intOf]; omega
    · have hkl : n = k := by omega
      subst hkl
      have hge : ¬ ((n : Int) < n) := by omega
      obtain ⟨A', c', rfl, _⟩ := own_shape htab.own
      go_wp2
      go_loopw [22] (fun i wx => ∃ m : Nat, m ≤ l.length ∧ i = .int .i64 m ∧ TabG wx B (.slice A' n c') n n G (adj (l.take m)) ∧ Below B (w.alloc (Obj.cells #[.int .i64 (n : Int), .slice A l.length c] 34)) wx) (fun i _ => l.length - (intOf i).toNat)
      case atStart => exact ⟨0, Nat.zero_le _, rfl, by simpa [adj_nil] using htab, hb⟩
      case round =>
        clear htab hb u0 u1 hs
        obtain ⟨m, hm, rfl, htab, hb⟩ := hrel
        have hs := hb.size
        simp only [World.size_alloc] at hs
        have hbw : Below w.heap.size w wr := Below.trans (b := _) (by go_grown) (hb.mono (by omega))
        by_cases hmt : m < l.length
        · obtain ⟨⟨x, y⟩, hx⟩ := getSome l m hmt
          obtain ⟨h0, h1, h2⟩ := goodAt_pair (isP_good Hp.out hmt) hx
          obtain ⟨a, rfl⟩ : ∃ a : Nat, x = a := ⟨x.toNat, by omega⟩
          obtain ⟨b, rfl⟩ : ∃ b : Nat, y = b := ⟨y.toNat, by omega⟩
          obtain ⟨bb, off, rfl, hbb, c0, c1⟩ := (hA.below hbw (Nat.le_refl _)).pair hx
          obtain ⟨g, rfl⟩ := own_form htab.own (by omega)
          have hmi : (m : Int) < (l.length : Int) := by omega
          have han : a < n := by omega
          have hbn : b < n := by omega
          have ha : (a : Int) < n := by omega
          have hb' : (b : Int) < n := h2
          have hGa := htab.blk han
          have hGb := htab.blk hbn
          have Hx := Lib.hid hx
          clear hx
          go_wp2
          generalize hW : wr.alloc (Obj.cells #[.int .i64 (a : Int), .int .i64 (b : Int)] 98) = W
          have tW : TabG W B (.slice (some ⟨g, 0, none⟩) n c') n n G (adj (l.take m)) := by rw [← hW]; exact htab.alloc _
          have bW : Below B (w.alloc (Obj.cells #[.int .i64 (n : Int), .slice (some ⟨bb, off, none⟩) l.length c] 34)) W := by rw [← hW]; exact hb.alloc (by omega) _
          have e0 : W.cell? ⟨wr.heap.size, 0, none⟩ = some (.int .i64 a) := by rw [← hW]; simp
          have e1 : W.cell? ⟨wr.heap.size, 1, none⟩ = some (.int .i64 b) := by rw [← hW]; simp
          clear hW
          have t1 := tW.set (b := b) han true
          have t2 := t1.set (b := a) hbn true
          rw [← adj_snoc] at t2
          have d0 := tW.outer han
          have d1 := tW.cell han hbn
          have d2 := tW.frozen han b
          have d3 := t1.outer hbn
          have d4 := t1.cell hbn han
          have d5 := t1.frozen hbn a
          have e2 : (W.setCell ⟨G a, b, none⟩ (.bool true)).cell? ⟨wr.heap.size, 0, none⟩ = some (.int .i64 a) := by rw [World.cell?_setCell_other _ _ _ _ (by simp)]; exact e0
          have e3 : (W.setCell ⟨G a, b, none⟩ (.bool true)).cell? ⟨wr.heap.size, 1, none⟩ = some (.int .i64 b) := by rw [World.cell?_setCell_other _ _ _ _ (by simp)]; exact e1
          have T2 := Lib.hid t2
          clear t1 t2 tW htab
          refine wp_region_still_tail 8 (by kernel_rfl) (by kernel_rfl) ?_
          simp only [List.take_succ_cons, List.take_zero, List.drop_succ_cons, List.drop_zero]
          repeat still_step
          refine wpStill_nil ?_
          change wpList _ _ _ _ _ (World.drew _)
          go_wp2
          generalize hW2 : (W.setCell ⟨G a, b, none⟩ (.bool true)).drew = W2
          have f0 : W2.cell? ⟨wr.heap.size, 0, none⟩ = some (.int .i64 a) := by rw [← hW2]; exact e2
          have f1 : W2.cell? ⟨wr.heap.size, 1, none⟩ = some (.int .i64 b) := by rw [← hW2]; exact e3
          have f3 : W2.cell? ⟨g, b, none⟩ = some (.slice (some ⟨G b, 0, none⟩) n n) := by rw [← hW2]; exact d3
          have f4 : W2.cell? ⟨G b, a, none⟩ = some (.bool (upd (adj (l.take m)) a b true b a)) := by rw [← hW2]; exact d4
          have f5 : W2.frozen? ⟨G b, a, none⟩ = false := by rw [← hW2]; exact d5
          have b2 : Below B (w.alloc (Obj.cells #[.int .i64 (n : Int), .slice (some ⟨bb, off, none⟩) l.length c] 34)) (W2.setCell ⟨G b, a, none⟩ (.bool true)).drew := by
            rw [← hW2]
            exact (((bW.setCell (p := ⟨G a, b, none⟩) hGa.1 _).drew).setCell (p := ⟨G b, a, none⟩) hGb.1 _).drew
          have t3 : TabG (W2.setCell ⟨G b, a, none⟩ (.bool true)).drew B (.slice (some ⟨g, 0, none⟩) n c') n n G (adj (l.take m ++ [((a : Int), (b : Int))])) := by
            rw [← hW2]
            exact T2.out.of_blocks ⟨rfl, rfl, rfl, Nat.le_refl _, fun _ _ _ => rfl⟩
          have B2 := Lib.hid b2
          have T3 := Lib.hid t3
          clear hW2 d0 d1 d2 d3 d4 d5 e0 e1 e2 e3 T2 bW b2 t3
          refine wp_region_still_tail 8 (by kernel_rfl) (by kernel_rfl) ?_
          simp only [List.take_succ_cons, List.take_zero, List.drop_succ_cons, List.drop_zero]
          repeat still_step
          refine wpStill_nil ?_
          change wpList _ _ _ _ _ (World.drew _)
          go_wp2
          go_roundw
          case rel =>
            refine ⟨m + 1, by omega, by go_num, ?_, B2.out⟩
            rw [List.take_add_one, Hx.out, Option.toList_some]
            exact T3.out
          case measure => simp [intOf]; omega
        · have hml : m = l.length := by omega
          subst hml
          have hgm : ¬ ((l.length : Int) < l.length) := by omega
          go_wp2
          go_ret
          rw [List.take_length] at htab
          exact ⟨A', c', G, rfl, htab.lower (by omega), hbw⟩
end Go.Proofs.YtefkcfkicmfhlaaDoor
/-
  TIES AS THE PROGRAM HAS THEM, twelve sets of people: made of a party's pairs ('friendsIn'); those missing ('strangersIn'); everybody. Written by wip/tools/gen_ties.py.
-/
namespace Go.Proofs.YtefkcfkicmfhlaaDoor
open Go.RowKit

def updN (T : Nat → Nat) (a v : Nat) : Nat → Nat := fun i => if i = a then v else T i
/-- one pair more is tied -/
def withT (T : Nat → Nat) (a b : Nat) : Nat → Nat := updN (updN T a (T a ||| 2 ^ b)) b (updN T a (T a ||| 2 ^ b) b ||| 2 ^ a)
theorem tcells_row (T : Nat → Nat) : ∀ m, m < 12 → (tcells T)[m]? = some (Value.int .u16 (T m)) := tcells_at T
theorem rowIs_u16 (w : World) (T : Nat → Nat) (ty : TypeId) : (w.alloc (.cells (tcells T) ty)).rowIs w.heap.size ty 12 (fun j => .int .u16 (T j)) :=
  ⟨tcells T, heap_alloc_new w _, rfl, fun i hi => tcells_at T i hi⟩
theorem shl_bit {a : Nat} (ha : a < 16) : IntKind.u16.wrap (2 ^ min a 16) = ((2 ^ a : Nat) : Int) := by
  have h2 : 2 ^ a < 2 ^ 16 := Nat.pow_lt_pow_right (by omega) ha
  rw [show (2 : Nat) ^ 16 = 65536 from rfl] at h2
  obtain ⟨m, hm⟩ : ∃ m, 2 ^ a = m := ⟨_, rfl⟩
  rw [Nat.min_eq_left (by omega), IntKind.wrap_u16, show (2 : Int) ^ a = ((2 ^ a : Nat) : Int) from by simp, hm]
  rw [hm] at h2
  omega
theorem two_lt {a : Nat} (ha : a < 16) : 2 ^ a < 65536 := by
  have h2 : 2 ^ a < 2 ^ 16 := Nat.pow_lt_pow_right (by omega) ha
  rwa [show (2 : Nat) ^ 16 = 65536 from rfl] at h2
theorem or_bit {x a : Nat} (hx : x < 65536) (ha : a < 16) : bits BinOp.or IntKind.u16 (x : Int) (IntKind.u16.wrap (2 ^ min a 16)) = ((x ||| 2 ^ a : Nat) : Int) := by
  rw [shl_bit ha, u16_or_nat x _ hx (two_lt ha)]
theorem or_bit2 {x a : Nat} (hx : x < 65536) (ha : a < 16) : bits BinOp.or IntKind.u16 (x : Int) (IntKind.u16.wrap (2 ^ a)) = ((x ||| 2 ^ a : Nat) : Int) := by
  have := or_bit hx ha
  rwa [Nat.min_eq_left (by omega)] at this
theorem or_lt {x a : Nat} (hx : x < 65536) (ha : a < 16) : x ||| 2 ^ a < 65536 := Nat.or_lt_two_pow (n := 16) hx (two_lt ha)

set_option maxHeartbeats 4000000 in
set_option maxRecDepth 100000 in
theorem tiesWith_any (T : Nat → Nat) (a b : Nat) (ha : a < 12) (hb : b < 12) (hT : ∀ i, i < 12 → T i < 65536) (w : World) :
    Calls Tryd.prog 170 #[.agg (tcells T), .agg #[.int .i64 a, .int .i64 b]] w fun e w' => e = .returned (.agg (tcells (withT T a b))) ∧ Below w.heap.size w w' := by
  have hai : (a : Int) < 12 := by omega
  have hbi : (b : Int) < 12 := by omega
  obtain ⟨W, hW⟩ : ∃ W, ((w.alloc (Obj.cells (tcells T) 168)).alloc (Obj.cells #[.int .i64 a, .int .i64 b] 98)).alloc (Obj.cells #[.int .u16 0, .int .u16 0, .int .u16 0, .int .u16 0, .int .u16 0, .int .u16 0, .int .u16 0, .int .u16 0, .int .u16 0, .int .u16 0, .int .u16 0, .int .u16 0] 168) = W := ⟨_, rfl⟩
  have kW : Below w.heap.size w W := by rw [← hW]; go_grown
  have zW : W.heap.size = w.heap.size + 3 := by rw [← hW]; simp
  have row0 : W.rowIs w.heap.size 168 12 (fun j => .int .u16 (T j)) := by rw [← hW]; exact ((rowIs_u16 w T _).alloc _).alloc _
  have p0 : W.cell? ⟨w.heap.size + 1, 0, none⟩ = some (.int .i64 a) := by rw [← hW]; exact (World.cell?_alloc_lt _ _ _ (by simp)).trans (by simp)
  have p1 : W.cell? ⟨w.heap.size + 1, 1, none⟩ = some (.int .i64 b) := by rw [← hW]; exact (World.cell?_alloc_lt _ _ _ (by simp)).trans (by simp)
  have rowR : W.rowIs (w.heap.size + 2) 168 12 (fun _ => .int .u16 0) := by
    rw [← hW]
    have := rowIs_u16 ((w.alloc (Obj.cells (tcells T) 168)).alloc (Obj.cells #[.int .i64 a, .int .i64 b] 98)) (fun _ => 0) 168
    simp only [World.size_alloc] at this
    exact this
  have s1 : w.heap.size ≠ w.heap.size + 1 := by omega
  -- the first store
  have q0 := row0.cell ha
  have f0 := row0.frozen a
  have o1 := or_bit2 (hT a ha) (show b < 16 by omega)
  have l1 := or_lt (hT a ha) (show b < 16 by omega)
  have row1 := row0.set a (.int .u16 ((T a ||| 2 ^ b : Nat) : Int))
  have row1' : (W.setCell ⟨w.heap.size, a, none⟩ (.int .u16 ((T a ||| 2 ^ b : Nat) : Int))).rowIs w.heap.size 168 12 (fun j => .int .u16 (updN T a (T a ||| 2 ^ b) j : Nat)) := row1.congr fun j _ => by unfold updN; by_cases h : j = a <;> simp [h]
  obtain ⟨T1, hT1⟩ : ∃ T1, updN T a (T a ||| 2 ^ b) = T1 := ⟨_, rfl⟩
  have hT1l : T1 b < 65536 := by rw [← hT1]; unfold updN; split; exact l1; exact hT b hb
  have hw : withT T a b = updN T1 b (T1 b ||| 2 ^ a) := by unfold withT; rw [hT1]
  rw [hT1] at row1'
  rw [hw]
  obtain ⟨r1, hr1⟩ : ∃ r1, T a ||| 2 ^ b = r1 := ⟨_, rfl⟩
  rw [hr1] at o1 row1'
  have P0 := (World.cell?_setCell_other W ⟨w.heap.size, a, none⟩ ⟨w.heap.size + 1, 0, none⟩ (.int .u16 (r1 : Int)) (by simp)).trans p0
  have P1 := (World.cell?_setCell_other W ⟨w.heap.size, a, none⟩ ⟨w.heap.size + 1, 1, none⟩ (.int .u16 (r1 : Int)) (by simp)).trans p1
  have rowR1 := rowR.setOther (a := ⟨w.heap.size, a, none⟩) (by simp) (.int .u16 (r1 : Int))
  have kX := kW.setCell (p := ⟨w.heap.size, a, none⟩) (Nat.le_refl _) (.int .u16 (r1 : Int))
  have HW := Lib.hid hW
  have ROW1 := Lib.hid row1'
  have ROWR1 := Lib.hid rowR1
  have KX := Lib.hid kX
  have PP0 := Lib.hid P0
  have PP1 := Lib.hid P1
  clear hT hT1 hw hr1 row0 row1 row1' rowR rowR1 hW kX P0 P1
  unfold tcells at HW ⊢
  go_enter Tryd.func170, Tryd.ntmps170
  go_wp2_with fail
  rw [HW.out]
  refine wp_region_still_tail 9 (by kernel_rfl) (by kernel_rfl) ?_
  simp only [List.take_succ_cons, List.take_zero, List.drop_succ_cons, List.drop_zero]
  repeat still_step
  refine wpStill_nil ?_
  change wpList _ _ _ _ _ (World.drew _)
  go_wp2_with fail
  try rw [o1]
  obtain ⟨X, hX⟩ : ∃ X, (W.setCell ⟨w.heap.size, a, none⟩ (.int .u16 (r1 : Int))).drew = X := ⟨_, rfl⟩
  rw [hX]
  have rowX : X.rowIs w.heap.size 168 12 (fun j => .int .u16 (T1 j)) := by rw [← hX]; exact ROW1.out
  have rowZ : X.rowIs (w.heap.size + 2) 168 12 (fun _ => .int .u16 0) := by rw [← hX]; exact ROWR1.out
  have kX : Below w.heap.size w X := by rw [← hX]; exact KX.out.drew
  have p0 : X.cell? ⟨w.heap.size + 1, 0, none⟩ = some (.int .i64 a) := by rw [← hX]; exact PP0.out
  have p1 : X.cell? ⟨w.heap.size + 1, 1, none⟩ = some (.int .i64 b) := by rw [← hX]; exact PP1.out
  have q0 := rowX.cell hb
  have f0 := rowX.frozen b
  have o2 := or_bit2 hT1l (show a < 16 by omega)
  have row2 := rowX.set b (.int .u16 ((T1 b ||| 2 ^ a : Nat) : Int))
  have row2' : (X.setCell ⟨w.heap.size, b, none⟩ (.int .u16 ((T1 b ||| 2 ^ a : Nat) : Int))).rowIs w.heap.size 168 12 (fun j => .int .u16 (updN T1 b (T1 b ||| 2 ^ a) j : Nat)) := row2.congr fun j _ => by unfold updN; by_cases h : j = b <;> simp [h]
  obtain ⟨T2, hT2⟩ : ∃ T2, updN T1 b (T1 b ||| 2 ^ a) = T2 := ⟨_, rfl⟩
  have HT2 := Lib.hid hT2
  obtain ⟨r2, hr2⟩ : ∃ r2, T1 b ||| 2 ^ a = r2 := ⟨_, rfl⟩
  rw [hT2] at row2'
  rw [hr2] at o2 row2'
  have rowZ2 := rowZ.setOther (a := ⟨w.heap.size, b, none⟩) (by simp) (.int .u16 (r2 : Int))
  have kY := kX.setCell (p := ⟨w.heap.size, b, none⟩) (Nat.le_refl _) (.int .u16 (r2 : Int))
  have ROW2 := Lib.hid row2'
  have ROWZ2 := Lib.hid rowZ2
  have KY := Lib.hid kY
  clear hX rowX rowZ row2 row2' rowZ2 hT2 hr2 kX kY
  refine wp_region_still_tail 9 (by kernel_rfl) (by kernel_rfl) ?_
  simp only [List.take_succ_cons, List.take_zero, List.drop_succ_cons, List.drop_zero]
  repeat still_step
  refine wpStill_nil ?_
  change wpList _ _ _ _ _ (World.drew _)
  go_upto_region 3 with fail
  try rw [o2]
  obtain ⟨Y, hY⟩ : ∃ Y, (X.setCell ⟨w.heap.size, b, none⟩ (.int .u16 (r2 : Int))).drew = Y := ⟨_, rfl⟩
  rw [hY]
  have rowY : Y.rowIs w.heap.size 168 12 (fun j => .int .u16 (T2 j)) := by rw [← hY]; exact ROW2.out
  have rowZ : Y.rowIs (w.heap.size + 2) 168 12 (fun _ => .int .u16 0) := by rw [← hY]; exact ROWZ2.out
  have kY : Below w.heap.size w Y := by rw [← hY]; exact KY.out.drew
  clear hY p0 p1 q0 f0 o1 o2 hai hbi
  have r0 := rowY.cell (i := 0) (by omega)
  have r1 := rowY.cell (i := 1) (by omega)
  have r2 := rowY.cell (i := 2) (by omega)
  have r3 := rowY.cell (i := 3) (by omega)
  have r4 := rowY.cell (i := 4) (by omega)
  have r5 := rowY.cell (i := 5) (by omega)
  have r6 := rowY.cell (i := 6) (by omega)
  have r7 := rowY.cell (i := 7) (by omega)
  have r8 := rowY.cell (i := 8) (by omega)
  have r9 := rowY.cell (i := 9) (by omega)
  have r10 := rowY.cell (i := 10) (by omega)
  have r11 := rowY.cell (i := 11) (by omega)
  have g0 := rowZ.cell (i := 0) (by omega)
  have g1 := rowZ.cell (i := 1) (by omega)
  have g2 := rowZ.cell (i := 2) (by omega)
  have g3 := rowZ.cell (i := 3) (by omega)
  have g4 := rowZ.cell (i := 4) (by omega)
  have g5 := rowZ.cell (i := 5) (by omega)
  have g6 := rowZ.cell (i := 6) (by omega)
  have g7 := rowZ.cell (i := 7) (by omega)
  have g8 := rowZ.cell (i := 8) (by omega)
  have g9 := rowZ.cell (i := 9) (by omega)
  have g10 := rowZ.cell (i := 10) (by omega)
  have g11 := rowZ.cell (i := 11) (by omega)
  have e0 := rowZ.frozen 0
  have e1 := rowZ.frozen 1
  have e2 := rowZ.frozen 2
  have e3 := rowZ.frozen 3
  have e4 := rowZ.frozen 4
  have e5 := rowZ.frozen 5
  have e6 := rowZ.frozen 6
  have e7 := rowZ.frozen 7
  have e8 := rowZ.frozen 8
  have e9 := rowZ.frozen 9
  have e10 := rowZ.frozen 10
  have e11 := rowZ.frozen 11
  have KY2 := Lib.hid kY
  clear rowY rowZ kY
  go_wp2
  refine bodyPost_ret (v := .agg #[.int .u16 (T2 0), .int .u16 (T2 1), .int .u16 (T2 2), .int .u16 (T2 3), .int .u16 (T2 4), .int .u16 (T2 5), .int .u16 (T2 6), .int .u16 (T2 7), .int .u16 (T2 8), .int .u16 (T2 9), .int .u16 (T2 10), .int .u16 (T2 11)]) (by simp [results, Tryd.results170, go_sem, g0, g1, g2, g3, g4, g5, g6, g7, g8, g9, g10, g11]) rfl ?_
  rw [← HT2.out] 
  exact ⟨rfl, ((((((((((((KY2.out.setCell (p := ⟨w.heap.size + 2, 0, none⟩) (by simp) _).setCell (p := ⟨w.heap.size + 2, 1, none⟩) (by simp) _).setCell (p := ⟨w.heap.size + 2, 2, none⟩) (by simp) _).setCell (p := ⟨w.heap.size + 2, 3, none⟩) (by simp) _).setCell (p := ⟨w.heap.size + 2, 4, none⟩) (by simp) _).setCell (p := ⟨w.heap.size + 2, 5, none⟩) (by simp) _).setCell (p := ⟨w.heap.size + 2, 6, none⟩) (by simp) _).setCell (p := ⟨w.heap.size + 2, 7, none⟩) (by simp) _).setCell (p := ⟨w.heap.size + 2, 8, none⟩) (by simp) _).setCell (p := ⟨w.heap.size + 2, 9, none⟩) (by simp) _).setCell (p := ⟨w.heap.size + 2, 10, none⟩) (by simp) _).setCell (p := ⟨w.heap.size + 2, 11, none⟩) (by simp) _)⟩
end Go.Proofs.YtefkcfkicmfhlaaDoor
/-
  TIES MADE OF A PARTY's PAIRS ('friendsIn'); everybody. Written by wip/tools/gen_ties2.py.
-/
namespace Go.Proofs.YtefkcfkicmfhlaaDoor
open Go.RowKit

theorem TiesOf.none : TiesOf (fun _ => 0) (adj []) := ⟨fun a b _ _ => by rw [Nat.zero_testBit]; rfl, fun a _ => by omega⟩
theorem TiesOf.congr {T : Nat → Nat} {t t' : Nat → Nat → Bool} (h : TiesOf T t) (e : ∀ a b, a < 12 → b < 16 → t a b = t' a b) : TiesOf T t' := ⟨fun a b ha hb => (h.bit a b ha hb).trans (e a b ha hb), h.lt⟩
theorem TiesOf.with {T : Nat → Nat} {t : Nat → Nat → Bool} (h : TiesOf T t) {a b : Nat} (ha : a < 12) (hb : b < 12) (hab : a ≠ b) : TiesOf (withT T a b) (upd (upd t a b true) b a true) := by
  have e1 : ∀ i, withT T a b i = if i = b then T b ||| 2 ^ a else if i = a then T a ||| 2 ^ b else T i := fun i => by
    unfold withT updN
    by_cases h1 : i = b
    · rw [if_pos h1, if_pos h1, if_neg (by omega)]
    · rw [if_neg h1, if_neg h1]
  refine ⟨fun i j hi hj => ?_, fun i hi => ?_⟩
  · rw [e1]
    unfold upd
    by_cases h1 : i = b
    · rw [if_pos h1, Nat.testBit_or, Nat.testBit_two_pow, h.bit b j hb hj]
      by_cases h2 : j = a
      · simp [h1, h2]
      · have h3 : ¬ (a = j) := fun e => h2 e.symm
        have h4 : ¬ (b = a) := fun e => hab e.symm
        simp [h1, h2, h3, h4]
    · rw [if_neg h1]
      by_cases h2 : i = a
      · rw [if_pos h2, Nat.testBit_or, Nat.testBit_two_pow, h.bit a j ha hj]
        by_cases h3 : j = b
        · simp [h2, h3, hab]
        · have h4 : ¬ (b = j) := fun e => h3 e.symm
          simp [h2, h3, h4, hab]
      · rw [if_neg h2, h.bit i j hi hj]
        simp [h1, h2]
  · rw [e1]
    split
    · exact or_lt (h.lt b hb) (by omega)
    · split
      · exact or_lt (h.lt a ha) (by omega)
      · exact h.lt i hi
theorem people_bits : ∀ n : Fin 13, ((2 : Int) ^ n.val % 65536 - 1) % 65536 = ((2 ^ n.val - 1 : Nat) : Int) := by decide

set_option maxHeartbeats 1000000 in
theorem everybody_any (n : Nat) (hn : n ≤ 12) (w : World) : Calls Tryd.prog 148 #[.int .i64 n] w fun e w' => e = .returned (.int .u16 ((2 ^ n - 1 : Nat) : Int)) ∧ w = w' := by
  have h0 : (0 : Int) ≤ n := by omega
  have e := people_bits ⟨n, by omega⟩
  have hn12 : (n : Int) ≤ 12 := by omega
  go_enter Tryd.func148, Tryd.ntmps148
  go_wp2
  go_ret
  refine ⟨?_, rfl⟩
  rw [← e, IntKind.wrap_u16, IntKind.wrap_u16]
  rfl

/-- the ties of a list of pairs -/
def friendsT (l : PL) : Nat → Nat := l.foldl (fun T q => withT T q.1.toNat q.2.toNat) fun _ => 0
theorem friendsT_snoc (l : PL) (a b : Nat) : friendsT (l ++ [((a : Int), (b : Int))]) = withT (friendsT l) a b := by simp [friendsT]

set_option maxHeartbeats 4000000 in
set_option maxRecDepth 100000 in
theorem friendsIn_any (p : Int) (l : PL) (A : Option Addr) (c : Nat) (w : World) (hp : isP p l = true) (hA : CRead w w.heap.size A (pcells l)) :
    Calls Tryd.prog 147 #[.agg #[.int .i64 p, .slice A l.length c]] w fun e w' => e = .returned (.agg (tcells (friendsT l))) ∧ TiesOf (friendsT l) (adj l) ∧ Below w.heap.size w w' := by
  have hn := isP_range hp
  have hlen : l.length ≤ 66 := by have h1 := isP_length hp; have h2 := people_sq hn.1 hn.2; omega
  obtain ⟨W, hW⟩ : ∃ W, ((w.alloc (Obj.cells #[.int .i64 p, .slice A l.length c] 34)).alloc (Obj.cells #[.int .u16 0, .int .u16 0, .int .u16 0, .int .u16 0, .int .u16 0, .int .u16 0, .int .u16 0, .int .u16 0, .int .u16 0, .int .u16 0, .int .u16 0, .int .u16 0] 168)).alloc (Obj.cells #[.int .u16 0, .int .u16 0, .int .u16 0, .int .u16 0, .int .u16 0, .int .u16 0, .int .u16 0, .int .u16 0, .int .u16 0, .int .u16 0, .int .u16 0, .int .u16 0] 168) = W := ⟨_, rfl⟩
  have kW : Below w.heap.size w W := by rw [← hW]; go_grown
  have zW : W.heap.size = w.heap.size + 3 := by rw [← hW]; simp
  have p1 : W.cell? ⟨w.heap.size, 1, none⟩ = some (.slice A l.length c) := by rw [← hW]; exact (World.cell?_alloc_lt _ _ _ (by simp; omega)).trans ((World.cell?_alloc_lt _ _ _ (by simp)).trans (by simp))
  have rowR : W.rowIs (w.heap.size + 1) 168 12 (fun _ => .int .u16 0) := by
    rw [← hW]
    have := rowIs_u16 (w.alloc (Obj.cells #[.int .i64 p, .slice A l.length c] 34)) (fun _ => 0) 168
    simp only [World.size_alloc] at this
    exact this.alloc _
  have rowF : W.rowIs (w.heap.size + 2) 168 12 (fun _ => .int .u16 0) := by
    rw [← hW]
    have := rowIs_u16 ((w.alloc (Obj.cells #[.int .i64 p, .slice A l.length c] 34)).alloc (Obj.cells #[.int .u16 0, .int .u16 0, .int .u16 0, .int .u16 0, .int .u16 0, .int .u16 0, .int .u16 0, .int .u16 0, .int .u16 0, .int .u16 0, .int .u16 0, .int .u16 0] 168)) (fun _ => 0) 168
    simp only [World.size_alloc] at this
    exact this
  have Hp := Lib.hid hp
  have RF := Lib.hid rowF
  have RR := Lib.hid rowR
  have P1 := Lib.hid p1
  have HW := Lib.hid hW
  have KW := Lib.hid kW
  clear hp rowF rowR hW kW
  go_enter Tryd.func147, Tryd.ntmps147
  go_upto_region 2 with fail
  rw [HW.out]
  go_wp2_with fail
  clear p1
  go_loopw [9] (fun i wr => ∃ (m : Nat) (T : Nat → Nat), m ≤ l.length ∧ i = .int .i64 m ∧ TiesOf T (adj (l.take m)) ∧ T = friendsT (l.take m) ∧ wr.rowIs (w.heap.size + 2) 168 12 (fun j => .int .u16 (T j)) ∧ Below (w.heap.size + 2) W wr) (fun i _ => l.length - (intOf i).toNat)
  case atStart => exact ⟨0, fun _ => 0, Nat.zero_le _, rfl, TiesOf.none, rfl, RF.out, Below.refl _ _⟩
  case round =>
    obtain ⟨m, T, hm, rfl, hT, hTf, rowF, hb⟩ := hrel
    have HTf := Lib.hid hTf
    clear hTf
    have s0 := hb.size
    by_cases hlt : m < l.length
    · obtain ⟨⟨x, y⟩, hx⟩ := getSome l m hlt
      obtain ⟨h0, h1, h2⟩ := goodAt_pair (isP_good Hp.out hlt) hx
      obtain ⟨a, rfl⟩ : ∃ a : Nat, x = a := ⟨x.toNat, by omega⟩
      obtain ⟨b, rfl⟩ : ∃ b : Nat, y = b := ⟨y.toNat, by omega⟩
      have kr : Below w.heap.size w wr := KW.out.trans (hb.mono (by omega))
      obtain ⟨bb, off, rfl, hbb, c0, c1⟩ := (hA.below kr (Nat.le_refl _)).pair hx
      have hmi : (m : Int) < (l.length : Int) := by omega
      have HT := Lib.hid hT
      have Hx := Lib.hid hx
      have HB := Lib.hid hb
      have HF := Lib.hid rowF
      clear hT hx hb
      go_upto_region 5 with fail
      obtain ⟨X, hX⟩ : ∃ X, wr.alloc (Obj.cells #[.int .i64 (a : Int), .int .i64 (b : Int)] 98) = X := ⟨_, rfl⟩
      rw [hX]
      have rowX : X.rowIs (w.heap.size + 2) 168 12 (fun j => .int .u16 (T j)) := by rw [← hX]; exact rowF.alloc _
      have zX : X.heap.size = wr.heap.size + 1 := by rw [← hX]; simp
      have x0 : X.cell? ⟨wr.heap.size, 0, none⟩ = some (.int .i64 a) := by rw [← hX]; simp
      have x1 : X.cell? ⟨wr.heap.size, 1, none⟩ = some (.int .i64 b) := by rw [← hX]; simp
      have kX : Below (w.heap.size + 2) W X := by rw [← hX]; exact HB.out.alloc (by omega) _
      clear hX c0 c1 rowF
      have r0 := rowX.cell (i := 0) (by omega)
      have r1 := rowX.cell (i := 1) (by omega)
      have r2 := rowX.cell (i := 2) (by omega)
      have r3 := rowX.cell (i := 3) (by omega)
      have r4 := rowX.cell (i := 4) (by omega)
      have r5 := rowX.cell (i := 5) (by omega)
      have r6 := rowX.cell (i := 6) (by omega)
      have r7 := rowX.cell (i := 7) (by omega)
      have r8 := rowX.cell (i := 8) (by omega)
      have r9 := rowX.cell (i := 9) (by omega)
      have r10 := rowX.cell (i := 10) (by omega)
      have r11 := rowX.cell (i := 11) (by omega)
      have call := tiesWith_any T a b (by omega) (by omega) HT.out.lt X
      unfold tcells at call
      have Call := Lib.hid call
      clear call
      go_wp2_with fail
      refine Call.out.mono ?_
      rintro e w2 ⟨rfl, hb2⟩
      have row2 := rowX.of_block (hb2.block _ rowX.lt)
      have s2 := hb2.size
      have hTw := HT.out.with (a := a) (b := b) (by omega) (by omega) (by omega)
      rw [← adj_snoc] at hTw
      have hTf2 : withT T a b = friendsT (l.take m ++ [((a : Int), (b : Int))]) := by rw [friendsT_snoc, HTf.out]
      generalize withT T a b = T' at *
      have HTf2 := Lib.hid hTf2
      clear hTf2
      have k2 : Below (w.heap.size + 2) W w2 := kX.trans (hb2.mono (by omega))
      clear r0 r1 r2 r3 r4 r5 r6 r7 r8 r9 r10 r11
      have r0 := row2.cell (i := 0) (by omega)
      have r1 := row2.cell (i := 1) (by omega)
      have r2 := row2.cell (i := 2) (by omega)
      have r3 := row2.cell (i := 3) (by omega)
      have r4 := row2.cell (i := 4) (by omega)
      have r5 := row2.cell (i := 5) (by omega)
      have r6 := row2.cell (i := 6) (by omega)
      have r7 := row2.cell (i := 7) (by omega)
      have r8 := row2.cell (i := 8) (by omega)
      have r9 := row2.cell (i := 9) (by omega)
      have r10 := row2.cell (i := 10) (by omega)
      have r11 := row2.cell (i := 11) (by omega)
      have e0 := row2.frozen 0
      have e1 := row2.frozen 1
      have e2 := row2.frozen 2
      have e3 := row2.frozen 3
      have e4 := row2.frozen 4
      have e5 := row2.frozen 5
      have e6 := row2.frozen 6
      have e7 := row2.frozen 7
      have e8 := row2.frozen 8
      have e9 := row2.frozen 9
      have e10 := row2.frozen 10
      have e11 := row2.frozen 11
      have row3 : ((((((((((((w2.setCell ⟨w.heap.size + 2, 0, none⟩ (.int .u16 (T' 0))).setCell ⟨w.heap.size + 2, 1, none⟩ (.int .u16 (T' 1))).setCell ⟨w.heap.size + 2, 2, none⟩ (.int .u16 (T' 2))).setCell ⟨w.heap.size + 2, 3, none⟩ (.int .u16 (T' 3))).setCell ⟨w.heap.size + 2, 4, none⟩ (.int .u16 (T' 4))).setCell ⟨w.heap.size + 2, 5, none⟩ (.int .u16 (T' 5))).setCell ⟨w.heap.size + 2, 6, none⟩ (.int .u16 (T' 6))).setCell ⟨w.heap.size + 2, 7, none⟩ (.int .u16 (T' 7))).setCell ⟨w.heap.size + 2, 8, none⟩ (.int .u16 (T' 8))).setCell ⟨w.heap.size + 2, 9, none⟩ (.int .u16 (T' 9))).setCell ⟨w.heap.size + 2, 10, none⟩ (.int .u16 (T' 10))).setCell ⟨w.heap.size + 2, 11, none⟩ (.int .u16 (T' 11))).rowIs (w.heap.size + 2) 168 12 (fun j => .int .u16 (T' j)) := ((((((((((((row2.set 0 (.int .u16 (T' 0))).set 1 (.int .u16 (T' 1))).set 2 (.int .u16 (T' 2))).set 3 (.int .u16 (T' 3))).set 4 (.int .u16 (T' 4))).set 5 (.int .u16 (T' 5))).set 6 (.int .u16 (T' 6))).set 7 (.int .u16 (T' 7))).set 8 (.int .u16 (T' 8))).set 9 (.int .u16 (T' 9))).set 10 (.int .u16 (T' 10))).set 11 (.int .u16 (T' 11))).congr fun j hj => by
        match j, hj with
        | 0, _ => rfl
        | 1, _ => rfl
        | 2, _ => rfl
        | 3, _ => rfl
        | 4, _ => rfl
        | 5, _ => rfl
        | 6, _ => rfl
        | 7, _ => rfl
        | 8, _ => rfl
        | 9, _ => rfl
        | 10, _ => rfl
        | 11, _ => rfl
      have k3 := ((((((((((((k2.setCell (p := ⟨w.heap.size + 2, 0, none⟩) (Nat.le_refl _) (.int .u16 (T' 0))).setCell (p := ⟨w.heap.size + 2, 1, none⟩) (Nat.le_refl _) (.int .u16 (T' 1))).setCell (p := ⟨w.heap.size + 2, 2, none⟩) (Nat.le_refl _) (.int .u16 (T' 2))).setCell (p := ⟨w.heap.size + 2, 3, none⟩) (Nat.le_refl _) (.int .u16 (T' 3))).setCell (p := ⟨w.heap.size + 2, 4, none⟩) (Nat.le_refl _) (.int .u16 (T' 4))).setCell (p := ⟨w.heap.size + 2, 5, none⟩) (Nat.le_refl _) (.int .u16 (T' 5))).setCell (p := ⟨w.heap.size + 2, 6, none⟩) (Nat.le_refl _) (.int .u16 (T' 6))).setCell (p := ⟨w.heap.size + 2, 7, none⟩) (Nat.le_refl _) (.int .u16 (T' 7))).setCell (p := ⟨w.heap.size + 2, 8, none⟩) (Nat.le_refl _) (.int .u16 (T' 8))).setCell (p := ⟨w.heap.size + 2, 9, none⟩) (Nat.le_refl _) (.int .u16 (T' 9))).setCell (p := ⟨w.heap.size + 2, 10, none⟩) (Nat.le_refl _) (.int .u16 (T' 10))).setCell (p := ⟨w.heap.size + 2, 11, none⟩) (Nat.le_refl _) (.int .u16 (T' 11)))
      have ROW3 := Lib.hid row3
      have K3 := Lib.hid k3
      have HTw := Lib.hid hTw
      clear row2 row3 k3 hTw rowX k2 kX
      go_wp2
      go_roundw
      case rel => exact ⟨m + 1, T', by omega, by go_num, by rw [List.take_add_one, Hx.out, Option.toList_some]; exact HTw.out, by rw [List.take_add_one, Hx.out, Option.toList_some]; exact HTf2.out, ROW3.out, K3.out⟩
      case measure => simp [intOf]; omega
    · have hml : m = l.length := by omega
      subst hml
      have hge : ¬ ((l.length : Int) < (l.length : Int)) := by omega
      rw [List.take_length] at hT
      have HT := Lib.hid hT
      have rowR := RR.out.of_block (hb.block _ (by omega))
      have kr : Below w.heap.size w wr := KW.out.trans (hb.mono (by omega))
      clear hT hb
      have r0 := rowF.cell (i := 0) (by omega)
      have r1 := rowF.cell (i := 1) (by omega)
      have r2 := rowF.cell (i := 2) (by omega)
      have r3 := rowF.cell (i := 3) (by omega)
      have r4 := rowF.cell (i := 4) (by omega)
      have r5 := rowF.cell (i := 5) (by omega)
      have r6 := rowF.cell (i := 6) (by omega)
      have r7 := rowF.cell (i := 7) (by omega)
      have r8 := rowF.cell (i := 8) (by omega)
      have r9 := rowF.cell (i := 9) (by omega)
      have r10 := rowF.cell (i := 10) (by omega)
      have r11 := rowF.cell (i := 11) (by omega)
      have g0 := rowR.cell (i := 0) (by omega)
      have g1 := rowR.cell (i := 1) (by omega)
      have g2 := rowR.cell (i := 2) (by omega)
      have g3 := rowR.cell (i := 3) (by omega)
      have g4 := rowR.cell (i := 4) (by omega)
      have g5 := rowR.cell (i := 5) (by omega)
      have g6 := rowR.cell (i := 6) (by omega)
      have g7 := rowR.cell (i := 7) (by omega)
      have g8 := rowR.cell (i := 8) (by omega)
      have g9 := rowR.cell (i := 9) (by omega)
      have g10 := rowR.cell (i := 10) (by omega)
      have g11 := rowR.cell (i := 11) (by omega)
      have e0 := rowR.frozen 0
      have e1 := rowR.frozen 1
      have e2 := rowR.frozen 2
      have e3 := rowR.frozen 3
      have e4 := rowR.frozen 4
      have e5 := rowR.frozen 5
      have e6 := rowR.frozen 6
      have e7 := rowR.frozen 7
      have e8 := rowR.frozen 8
      have e9 := rowR.frozen 9
      have e10 := rowR.frozen 10
      have e11 := rowR.frozen 11
      have KR := Lib.hid kr
      clear rowF rowR kr
      go_wp2
      refine bodyPost_ret (v := .agg #[.int .u16 (T 0), .int .u16 (T 1), .int .u16 (T 2), .int .u16 (T 3), .int .u16 (T 4), .int .u16 (T 5), .int .u16 (T 6), .int .u16 (T 7), .int .u16 (T 8), .int .u16 (T 9), .int .u16 (T 10), .int .u16 (T 11)]) (by simp [results, Tryd.results147, go_sem, g0, g1, g2, g3, g4, g5, g6, g7, g8, g9, g10, g11]) rfl ?_
      have hfin := HTf.out
      rw [List.take_length] at hfin
      rw [← hfin]
      exact ⟨rfl, HT.out, ((((((((((((KR.out.setCell (p := ⟨w.heap.size + 1, 0, none⟩) (by simp) _).setCell (p := ⟨w.heap.size + 1, 1, none⟩) (by simp) _).setCell (p := ⟨w.heap.size + 1, 2, none⟩) (by simp) _).setCell (p := ⟨w.heap.size + 1, 3, none⟩) (by simp) _).setCell (p := ⟨w.heap.size + 1, 4, none⟩) (by simp) _).setCell (p := ⟨w.heap.size + 1, 5, none⟩) (by simp) _).setCell (p := ⟨w.heap.size + 1, 6, none⟩) (by simp) _).setCell (p := ⟨w.heap.size + 1, 7, none⟩) (by simp) _).setCell (p := ⟨w.heap.size + 1, 8, none⟩) (by simp) _).setCell (p := ⟨w.heap.size + 1, 9, none⟩) (by simp) _).setCell (p := ⟨w.heap.size + 1, 10, none⟩) (by simp) _).setCell (p := ⟨w.heap.size + 1, 11, none⟩) (by simp) _)⟩
end Go.Proofs.YtefkcfkicmfhlaaDoor
/-
  WHETHER A NUMBER IS IN A LIST: the model's look; a list's front.
-/
namespace Go.Proofs.YtefkcfkicmfhlaaDoor
open Go.RowKit

theorem icells_getD {l : List Int} {j : Nat} (h : j < l.length) : (icells l)[j]? = some (.int .i64 (l.getD j 0)) := by
  simp [icells, List.getD_eq_getElem?_getD, List.getElem?_eq_getElem h]
theorem CRead.ints {w : World} {B : Nat} {A : Option Addr} {q : List Int} (h : CRead w B A (icells q)) (hq : 0 < q.length) : ∃ b off, A = some ⟨b, off, none⟩ ∧ b < B ∧ ∀ j, j < q.length → w.cell? ⟨b, off + j, none⟩ = some (.int .i64 (q.getD j 0)) := by
  obtain ⟨b, off, rfl, hb, _⟩ := h 0 _ (icells_getD hq)
  refine ⟨b, off, rfl, hb, fun j hj => ?_⟩
  obtain ⟨b', off', e, _, hc⟩ := h j _ (icells_getD hj)
  simp only [Option.some.injEq, Addr.mk.injEq, and_true] at e
  obtain ⟨rfl, rfl⟩ := e
  exact hc

theorem CRead.front {w : World} {B : Nat} {A : Option Addr} {q : List Int} (h : CRead w B A (icells q)) (k : Nat) : CRead w B A (icells (q.take k)) := fun j u hu => by
  refine h j u ?_
  unfold icells at hu ⊢
  rw [List.map_take, List.getElem?_take] at hu
  split at hu
  · exact hu
  · cases hu


/-- whether a number is in a list -/
def hasI (q : List Int) (x : Int) : Bool := q.contains x
theorem hasI_mem {q : List Int} {x : Int} : hasI q x = true ↔ x ∈ q := List.contains_iff_mem
end Go.Proofs.YtefkcfkicmfhlaaDoor
/-
  'spec.l1Own': a copy of a list of numbers, by its contract.
-/
namespace Go.Proofs.YtefkcfkicmfhlaaDoor
open Go.RowKit

set_option maxHeartbeats 1000000 in
set_option maxRecDepth 100000 in
theorem l1Own_any (q : List Int) (A : Option Addr) (c : Nat) (w : World) (hq : q.length ≤ 1048576) (h0 : 0 < q.length) (hA : CRead w w.heap.size A (icells q)) :
    Calls Tryd.prog 172 #[.slice A q.length c] w fun e w' => ∃ A' c', e = .returned (.slice A' q.length c') ∧ w'.ownsRow w.heap.size 3 1 (.slice A' q.length c') q.length (icells q) ∧ Below w.heap.size w w' := by
  obtain ⟨i0, hi, hz0, hz1, hz2⟩ := info_parts Tryd.infoInt
  obtain ⟨b, off, rfl, hb, hr⟩ := hA.ints h0
  go_enter Tryd.func172, Tryd.ntmps172
  have hc : ∀ j u, (icells q)[j]? = some u → (w.alloc (Obj.cells #[] 3)).cell? ((⟨b, off, none⟩ : Addr).add j) = some u := fun j u hu => by
    rw [Addr.add_lit]
    obtain ⟨b', off', e, _, hcell⟩ := hA j u hu
    simp only [Option.some.injEq, Addr.mk.injEq, and_true] at e
    obtain ⟨rfl, rfl⟩ := e
    exact (World.cell?_alloc_lt _ _ _ hb).trans hcell
  clear hr
  go_wp2_with (at_builtin; refine wpList_append_grows _ rfl _ _ 64 rfl 3 i0 _ 1 8 Tryd.underlying64 hi hz0 hz1 hz2 rfl (by decide) (some ⟨w.heap.size, 0, none⟩) 0 0 [] rfl (fun h => by cases h) rfl (fun b' hb' m u hu => by simp at hu) ⟨b, off, none⟩ q.length c (icells q) rfl (by simp [icells]) hc (icells_one q) (by omega) (by unfold maxLen; omega) (by omega) ?_; intro v1 w4 own4 gr4; simp only [Nat.zero_add, List.nil_append] at own4; obtain ⟨A4, d4, rfl, _⟩ := own_shape own4)
  go_ret
  exact ⟨A4, d4, rfl, own_lower own4 (by simp), below_of_gb (gb_trans (World.grownBy_alloc w _ none) gr4) (Nat.le_refl _)⟩
end Go.Proofs.YtefkcfkicmfhlaaDoor
/-
  LISTS OF NUMBERS UNDER ONE SLICE, each row in a block of the call's own; 'spec.l1Own' of any list; 'spec.trGroups' as a plain list.
-/
namespace Go.Proofs.YtefkcfkicmfhlaaDoor
open Go.RowKit

structure LRows (w : World) (B : Nat) (v : Value) (LL : List (List Int)) (hs : List Value) : Prop where
  own : w.ownsRow B 64 1 v LL.length hs
  row : ∀ (i : Nat) (l : List Int), LL[i]? = some l → ∃ A c, hs[i]? = some (Value.slice A l.length c) ∧ w.ownsRow B 3 1 (Value.slice A l.length c) l.length (icells l)
  nil : LL = [] → v = Value.slice none 0 0
section
variable {w w' : World} {B B' : Nat} {v v' v2 : Value} {LL L2 : List (List Int)} {hs hs2 : List Value}
theorem LRows.none (w : World) (B : Nat) : LRows w B (Value.slice Option.none 0 0) [] [] := ⟨World.ownsRow_nil _ _ _ _, fun i l h => by simp at h, fun _ => rfl⟩
theorem LRows.below (h : LRows w B v LL hs) (hb : Below w.heap.size w w') : LRows w' B v LL hs :=
  ⟨own_below h.own hb (Nat.le_refl _), fun i l hi => by obtain ⟨A, c, e, o⟩ := h.row i l hi; exact ⟨A, c, e, own_below o hb (Nat.le_refl _)⟩, h.nil⟩
theorem LRows.lower (h : LRows w B v LL hs) (hB : B' ≤ B) : LRows w B' v LL hs :=
  ⟨own_lower h.own hB, fun i l hi => by obtain ⟨A, c, e, o⟩ := h.row i l hi; exact ⟨A, c, e, own_lower o hB⟩, h.nil⟩
theorem LRows.length (h : LRows w B v LL hs) : hs.length = LL.length := by have := h.own.1; omega
theorem LRows.one (h : LRows w B v LL hs) : ∀ u ∈ hs, u.oneCell' = true := by
  intro u hu
  obtain ⟨i, hi, rfl⟩ := List.getElem_of_mem hu
  have hl := h.length
  obtain ⟨A, c, e, _⟩ := h.row i LL[i] (List.getElem?_eq_getElem (by omega))
  rw [List.getElem?_eq_getElem hi] at e
  simp only [Option.some.injEq] at e
  rw [e]
  rfl
theorem blocks_apart {e e' : TypeId} {size size' n m : Nat} {xs ys : List Value} (h : w.ownsRow B e size v n xs) (h' : w.ownsRow B' e' size' v' m ys) (hne : e ≠ e') : v'.ownBlock = .none ∨ v'.ownBlock ≠ v.ownBlock := by
  rcases h'.2 with ⟨rfl, _⟩ | ⟨g, cap, cur, rfl, _, hg, _⟩
  · exact .inl rfl
  · refine .inr fun e => ?_
    rcases h.2 with ⟨rfl, _⟩ | ⟨g2, cap2, cur2, rfl, _, hg2, _⟩
    · simp [Value.ownBlock] at e
    · have : g = g2 := by simpa [Value.ownBlock] using e
      subst this
      rw [hg] at hg2
      simp only [Option.some.injEq, Obj.cells.injEq] at hg2
      exact hne hg2.2.1.symm
/-- rows appended to rows -/
theorem LRows.append (h : LRows w B v LL hs) (h2 : LRows w B v2 L2 hs2) (hown : w'.ownsRow B 64 1 v' (LL.length + L2.length) (hs ++ hs2)) (hg : w.grownBy w' v.ownBlock) (hn : L2 ≠ []) : LRows w' B v' (LL ++ L2) (hs ++ hs2) := by
  have keep : ∀ A c l, w.ownsRow B 3 1 (.slice A l.length c) l.length (icells l) → w'.ownsRow B 3 1 (.slice A l.length c) l.length (icells l) := fun A c l o => o.kept hg (blocks_apart h.own o (show (64 : TypeId) ≠ 3 by decide))
  refine ⟨by rw [List.length_append]; exact hown, fun i l hi => ?_, fun e => ?_⟩
  · have hl := h.length
    by_cases hlt : i < LL.length
    · rw [List.getElem?_append_left hlt] at hi
      obtain ⟨A, c, e, o⟩ := h.row i l hi
      exact ⟨A, c, by rw [List.getElem?_append_left (by omega)]; exact e, keep A c l o⟩
    · rw [List.getElem?_append_right (by omega)] at hi
      obtain ⟨A, c, e, o⟩ := h2.row _ l hi
      exact ⟨A, c, by rw [List.getElem?_append_right (by omega), hl]; exact e, keep A c l o⟩
  · simp at e
    exact absurd e.2 hn
end
/-- A call came back with lists of numbers. -/
def GotLL (w : World) (LL : List (List Int)) (e : Ending) (w' : World) : Prop := ∃ A c hs, e = .returned (.slice A LL.length c) ∧ LRows w' w.heap.size (.slice A LL.length c) LL hs ∧ Below w.heap.size w w'

set_option maxHeartbeats 1000000 in
set_option maxRecDepth 100000 in
theorem l1Own_all (q : List Int) (A : Option Addr) (c : Nat) (w : World) (hq : q.length ≤ 1048576) (hA : CRead w w.heap.size A (icells q)) (h0 : q = [] → A = none ∧ c = 0) :
    Calls Tryd.prog 172 #[.slice A q.length c] w fun e w' => ∃ A' c', e = .returned (.slice A' q.length c') ∧ w'.ownsRow w.heap.size 3 1 (.slice A' q.length c') q.length (icells q) ∧ Below w.heap.size w w' := by
  by_cases hz : q = []
  · obtain ⟨rfl, rfl⟩ := h0 hz
    subst hz
    obtain ⟨i0, hi, hz0, hz1, hz2⟩ := info_parts Tryd.infoInt
    have h1 : (w.alloc (.cells #[] 3)).ownsRow w.heap.size 3 1 (.slice (some ⟨w.heap.size, 0, none⟩) 0 0) 0 [] := World.ownsRow_made w #[] 0 (Nat.le_refl _) (Nat.zero_le _) rfl
    go_enter Tryd.func172, Tryd.ntmps172
    go_wp2_with (at_builtin; refine wpList_append_own_none rfl _ _ 64 rfl w.heap.size 3 i0 1 Tryd.underlying64 hi (.slice (some ⟨w.heap.size, 0, none⟩) 0 0) 0 [] rfl h1 rfl ?_)
    go_ret
    exact ⟨_, _, rfl, h1, by go_grown⟩
  · have hpos : 0 < q.length := by cases q with | nil => exact absurd rfl hz | cons x q => simp
    exact l1Own_any q A c w hq hpos hA

/-! ## The model's candidates -/
def fromQ (q : List Int) : Nat := match q.getLast? with | none => 0 | some x => x.toNat + 1
def candR (t : Nat → Nat → Bool) (n : Nat) (q : List Int) (a : Nat) : List Nat := (List.range' a (n - a)).filter fun b => q.all fun y => t b y.toNat
theorem candR_end (t : Nat → Nat → Bool) (n : Nat) (q : List Int) {a : Nat} (h : n ≤ a) : candR t n q a = [] := by unfold candR; rw [Nat.sub_eq_zero_of_le h]; rfl
theorem candR_no {t : Nat → Nat → Bool} {n : Nat} {q : List Int} {a : Nat} (h : a < n) (hk : (q.all fun y => t a y.toNat) = false) : candR t n q a = candR t n q (a + 1) := by
  unfold candR
  rw [show n - a = (n - (a + 1)) + 1 from by omega, List.range'_succ, List.filter_cons_of_neg (by simp [hk])]
theorem candR_yes {t : Nat → Nat → Bool} {n : Nat} {q : List Int} {a : Nat} (h : a < n) (hk : (q.all fun y => t a y.toNat) = true) : candR t n q a = a :: candR t n q (a + 1) := by
  unfold candR
  rw [show n - a = (n - (a + 1)) + 1 from by omega, List.range'_succ, List.filter_cons_of_pos (by simpa using hk)]
theorem candR_tied {t : Nat → Nat → Bool} (hs : ∀ i j, t i j = t j i) (n : Nat) (q : List Int) (a : Nat) : (candR t n q (a + 1)).filter (t a) = candR t n (q ++ [(a : Int)]) (fromQ (q ++ [(a : Int)])) := by
  unfold candR fromQ
  simp only [List.getLast?_append, List.getLast?_singleton, Option.some_or, Int.toNat_natCast]
  rw [List.filter_filter]
  refine List.filter_congr fun b _ => ?_
  rw [List.all_append]
  simp [hs a b, Bool.and_comm]
end Go.Proofs.YtefkcfkicmfhlaaDoor
/-
  THE MODEL's PARTY OF A TABLE, by its contract.
-/
namespace Go.Proofs.YtefkcfkicmfhlaaDoor
open Go.RowKit

def tabP (n : Nat) (t : Nat → Nat → Bool) : PL := (allP n).filter fun q => t q.1.toNat q.2.toNat

/-- 'paOf' in the middle of its loops: the result's box is as it was made, the party's box holds the pairs so far. -/
structure OfRel (w wr : World) (n : Nat) (v : Value) (L : PL) : Prop where
  below : Below w.heap.size w wr
  res : wr.heap[w.heap.size]? = some (.cells #[.int .i64 0, .slice none 0 0] 34 (0, 0))
  box : wr.heap[w.heap.size + 1]? = some (.cells #[.int .i64 n, v] 34 (0, 0))
  own : wr.ownsRow (w.heap.size + 2) 98 2 v L.length (pcells L)
theorem lt_of_heap {w : World} {b : Nat} {o : Obj} (h : w.heap[b]? = some o) : b < w.heap.size := (Array.getElem?_eq_some_iff.1 h).1
theorem OfRel.start (w : World) (n : Nat) : OfRel w ((w.alloc (.cells #[.int .i64 0, .slice none 0 0] 34)).alloc (.cells #[.int .i64 n, .slice none 0 0] 34)) n (.slice none 0 0) [] := by
  refine ⟨by go_grown, ?_, ?_, World.ownsRow_nil _ _ _ _⟩
  · rw [Below.heap_alloc _ _ _ (by simp)]
    exact heap_alloc_new w _
  · have := heap_alloc_new (w.alloc (.cells #[.int .i64 0, .slice none 0 0] 34)) (.cells #[.int .i64 n, .slice none 0 0] 34)
    simpa using this
/-- one pair more -/
theorem OfRel.push {w wr w1 : World} {n : Nat} {v v' : Value} {L : PL} {x y : Int} {o : Obj} (h : OfRel w wr n v L) (hown : w1.ownsRow (w.heap.size + 2) 98 2 v' (L.length + 1) (pcells L ++ [.int .i64 x, .int .i64 y])) (hg : (wr.alloc o).grownBy w1 v.ownBlock) :
    OfRel w (w1.setCell ⟨w.heap.size + 1, 1, none⟩ v') n v' (L ++ [(x, y)]) := by
  have hs := lt_of_heap h.box
  have hb : ∀ k, k < w.heap.size + 2 → w1.heap[k]? = wr.heap[k]? := fun k hk => by
    rw [hg.block k (by simp; omega) (fun e => by have := (h.own.lt k e.symm).1; omega), Below.heap_alloc _ _ _ (by omega)]
  have e1 := (hb (w.heap.size + 1) (by omega)).trans h.box
  refine ⟨?_, ?_, ?_, ?_⟩
  · exact ((h.below.alloc (by omega) o).grown hg (by simp; omega) (fun k hk => by have := (h.own.lt k hk).1; omega)).setCell (p := ⟨w.heap.size + 1, 1, none⟩) (by simp) _
  · rw [heap_setCell_other _ _ _ _ (by simp)]
    exact (hb _ (by omega)).trans h.res
  · exact heap_setCell_same w1 (w.heap.size + 1) 1 _ _ v' e1
  · have e : (L ++ [(x, y)]).length = L.length + 1 := by simp
    rw [e, pcells_append]
    refine hown.kept (row := some (w.heap.size + 1)) ⟨rfl, rfl, rfl, by simp, fun k _ hk => heap_setCell_other _ _ _ _ (fun e => hk (by rw [e]))⟩ ?_
    right
    intro e
    have := (hown.lt _ e).1
    omega
/-- what the walk reads behind an append -/
theorem OfRel.kept {w wr w1 : World} {n : Nat} {v : Value} {L : PL} {o : Obj} (h : OfRel w wr n v L) (hg : (wr.alloc o).grownBy w1 v.ownBlock) :
    w1.cell? ⟨w.heap.size + 1, 1, none⟩ = some v ∧ w1.frozen? ⟨w.heap.size + 1, 1, none⟩ = false ∧ wr.heap.size < w1.heap.size ∧ w.heap.size + 1 < w1.heap.size ∧ w.heap.size < w1.heap.size := by
  have hs := lt_of_heap h.box
  have e1 : w1.heap[w.heap.size + 1]? = some (.cells #[.int .i64 n, v] 34 (0, 0)) := by
    rw [hg.block _ (by simp; omega) (fun e => by have := (h.own.lt _ e.symm).1; omega), Below.heap_alloc _ _ _ (by omega)]
    exact h.box
  have := hg.size
  simp only [World.size_alloc] at this
  exact ⟨by rw [cell_of_row _ _ _ _ _ _ e1]; rfl, frozen_of_row _ _ _ _ _ e1, by omega, by omega, by omega⟩
theorem two_cells {w : World} {g : Nat} {u v : Value} (h : w.cell? ⟨g, 0, none⟩ = some u) (h' : w.cell? ⟨g, 1, none⟩ = some v) : ∀ j x, [u, v][j]? = some x → w.cell? ((⟨g, 0, none⟩ : Addr).add j) = some x := by
  intro j x hx
  match j, hx with
  | 0, hx => simp at hx; subst hx; simpa [Addr.add] using h
  | 1, hx => simp at hx; subst hx; simpa [Addr.add] using h'
theorem two_one {u v : Value} (h : u.oneCell' = true) (h' : v.oneCell' = true) : ∀ x ∈ [u, v], x.oneCell' = true := by
  intro x hx
  simp at hx
  rcases hx with rfl | rfl
  · exact h
  · exact h'
theorem OfRel.cells {w wr : World} {n : Nat} {v : Value} {L : PL} (h : OfRel w wr n v L) : wr.cell? ⟨w.heap.size, 0, none⟩ = some (.int .i64 0) ∧ wr.cell? ⟨w.heap.size, 1, none⟩ = some (.slice none 0 0) ∧
    wr.cell? ⟨w.heap.size + 1, 0, none⟩ = some (.int .i64 n) ∧ wr.cell? ⟨w.heap.size + 1, 1, none⟩ = some v ∧ (∀ j, wr.frozen? ⟨w.heap.size, j, none⟩ = false) ∧ (∀ j, wr.frozen? ⟨w.heap.size + 1, j, none⟩ = false) :=
  ⟨by rw [cell_of_row _ _ _ _ _ _ h.res]; rfl, by rw [cell_of_row _ _ _ _ _ _ h.res]; rfl, by rw [cell_of_row _ _ _ _ _ _ h.box]; rfl, by rw [cell_of_row _ _ _ _ _ _ h.box]; rfl,
    fun j => frozen_of_row _ _ j _ _ h.res, fun j => frozen_of_row _ _ j _ _ h.box⟩

theorem filter_upTo_yes {n a b : Nat} {t : Nat → Nat → Bool} (h : a < b) (ht : t a b = true) : (upTo n a (b + 1)).filter (fun q => t q.1.toNat q.2.toNat) = (upTo n a b).filter (fun q => t q.1.toNat q.2.toNat) ++ [((a : Int), (b : Int))] := by
  rw [upTo_next h, List.filter_append]
  simp [ht]
theorem filter_upTo_no {n a b : Nat} {t : Nat → Nat → Bool} (h : a < b) (ht : t a b = false) : (upTo n a (b + 1)).filter (fun q => t q.1.toNat q.2.toNat) = (upTo n a b).filter (fun q => t q.1.toNat q.2.toNat) := by
  rw [upTo_next h, List.filter_append]
  simp [ht]
theorem upTo_length {n a b : Nat} (ha : a ≤ 12) (hb : b ≤ 13) (hn : n ≤ 12) : (upTo n a b).length ≤ 1000 := by
  unfold upTo rowP
  simp only [List.length_append, List.length_flatMap, List.length_map, List.length_range']
  have h : ∀ l : List Nat, (l.map fun a => n - (a + 1)).sum ≤ l.length * n := by
    intro l
    induction l with
    | nil => simp
    | cons x l ih => simp only [List.map_cons, List.sum_cons, List.length_cons, Nat.add_mul, Nat.one_mul]; omega
  have h1 := h (List.range a)
  rw [List.length_range] at h1
  have h2 : a * n ≤ 12 * 12 := Nat.mul_le_mul ha hn
  omega

end Go.Proofs.YtefkcfkicmfhlaaDoor
/-
  THE MODEL's PARTY WITH FRIENDS AND STRANGERS EXCHANGED, by its contract.
-/
namespace Go.Proofs.YtefkcfkicmfhlaaDoor
open Go.RowKit

def otherP (n : Nat) (l : PL) : PL := (allP n).filter fun q => !l.contains q
theorem tabP_congr {n : Nat} {t t' : Nat → Nat → Bool} (h : ∀ i j, i < j → j < n → t i j = t' i j) : tabP n t = tabP n t' := by
  unfold tabP
  refine List.filter_congr fun q hq => ?_
  have := mem_allP.1 hq
  exact h _ _ (by omega) (by omega)
theorem tabP_contains {n : Nat} {l : PL} (f : Bool → Bool) (h : isP n l = true) : tabP n (fun i j => f (adj l i j)) = (allP n).filter fun q => f (l.contains q) := by
  unfold tabP
  refine List.filter_congr fun q hq => ?_
  have hm := mem_allP.1 hq
  show f (adj l q.1.toNat q.2.toNat) = _
  rw [adj_pair h (i := q.1.toNat) (j := q.2.toNat) (by omega)]
  have e : (((q.1.toNat : Nat) : Int), ((q.2.toNat : Nat) : Int)) = q := by
    obtain ⟨x, y⟩ := q
    simp only [Prod.mk.injEq]
    simp at hm
    omega
  rw [e]
theorem tabP_other {n : Nat} {l : PL} (h : isP n l = true) : tabP n (fun i j => !adj l i j) = otherP n l := tabP_contains (fun b => !b) h
theorem tabP_same {n : Nat} {l : PL} (h : isP n l = true) : tabP n (adj l) = l := (tabP_contains (fun b => b) h).trans (isP_filter h)

/-- the table in the middle of being turned -/
def turnT (t : Nat → Nat → Bool) (a b : Nat) : Nat → Nat → Bool := fun i j => if i < a ∨ i = a ∧ j < b then !t i j else t i j
theorem turnT_start (t : Nat → Nat → Bool) : turnT t 0 0 = t := by funext i j; simp [turnT]
theorem turnT_next (t : Nat → Nat → Bool) (a b : Nat) : upd (turnT t a b) a b (!t a b) = turnT t a (b + 1) := by
  funext i j
  unfold upd turnT
  by_cases h : i = a ∧ j = b
  · obtain ⟨rfl, rfl⟩ := h
    simp
  · rw [if_neg h]
    have : (i < a ∨ i = a ∧ j < b) ↔ (i < a ∨ i = a ∧ j < b + 1) := by omega
    simp only [this]
theorem turnT_row {n : Nat} (t : Nat → Nat → Bool) (a : Nat) : ∀ i j, i < n → j < n → turnT t a n i j = turnT t (a + 1) 0 i j := by
  intro i j hi hj
  unfold turnT
  have : (i < a ∨ i = a ∧ j < n) ↔ (i < a + 1 ∨ i = a + 1 ∧ j < 0) := by omega
  simp only [this]
theorem turnT_all {n : Nat} (t : Nat → Nat → Bool) : ∀ i j, i < n → j < n → turnT t n 0 i j = !t i j := by
  intro i j hi hj
  unfold turnT
  rw [if_pos (.inl hi)]
theorem turnT_at (t : Nat → Nat → Bool) (a b : Nat) : turnT t a b a b = t a b := by unfold turnT; rw [if_neg (by omega)]

end Go.Proofs.YtefkcfkicmfhlaaDoor
