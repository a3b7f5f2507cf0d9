/-
  THE PROGRAM's RECURSIVE CLOSURE THAT GOES THROUGH THE LISTS OF PEOPLE WHO ARE TIED, walked.
-/
import Derived.Test.YtgccapdjhnejcaaDoorLook
import Derived.WalkMore
namespace Go.Proofs.YtgccapdjhnejcaaDoor
open Go.RowKit Go.Shelf
attribute [local go_sem] Oper.semAt_some

theorem clear_bit {j a : Nat} (hj : j < 65536) (ha : a < 16) : bits BinOp.andNot IntKind.u16 (j : Int) (IntKind.u16.wrap (2 ^ min a 16)) = ((j &&& (65535 - 2 ^ a) : Nat) : Int) := by
  have h2 : 2 ^ a < 2 ^ 16 := Nat.pow_lt_pow_right (by omega) ha
  rw [show (2 : Nat) ^ 16 = 65536 from rfl] at h2
  have e : IntKind.u16.wrap (2 ^ min a 16) = ((2 ^ a : Nat) : Int) := by
    obtain ⟨m, hm⟩ : ∃ m, 2 ^ a = m := ⟨_, rfl⟩
    rw [Nat.min_eq_left (by omega), IntKind.wrap_u16, show (2 : Int) ^ a = ((2 ^ a : Nat) : Int) from by simp, hm]
    rw [hm] at h2
    omega
  rw [e, u16_andNot_nat j _ hj h2]

section
variable {l : Nat} {size : Int} {T : Nat → Nat} {t : Nat → Nat → Bool} {bs yb bl bt B : Nat} {R : Nat → Prop} {J Jx : (Nat → Prop) → List (List Int) → World → Prop}
/-- Nobody more is wanted: the list is handed to the round. -/
theorem look_zero (hR : ∀ j, R j → j < B)
    (hY : ∀ S pre told A c W1, J S pre W1 → World.told W1 A c told → (∀ k, (Value.slice A told.length c).ownBlock = some k → S k) → YieldAt Fence.wide 0 Tryd.prog l #[.slice A told.length c] W1 fun e W' =>
      (e = .returned (.bool true) ∧ J S (pre ++ [told]) W' ∧ Stays (fun j => S j ∨ R j) W1 W') ∨ (e = .returned (.bool false) ∧ Jx S (pre ++ [told]) W'))
    (cs : List Nat) (told : List Int) (jn : Nat) (A : Option Addr) (c : Nat) (S : Nat → Prop) (pre : List (List Int)) (W : World) (hsz : size ≤ told.length) (hB : B ≤ W.heap.size) (hL : LookAt W l size T bs yb bl bt)
    (hJ : J S pre W) (ht : World.told W A c told) (hA : ∀ k, (Value.slice A told.length c).ownBlock = some k → S k) :
    Calls Tryd.prog 101 #[.slice A told.length c, .int .u16 jn, .pointer (some ⟨bs, 0, none⟩), .pointer (some ⟨yb, 0, none⟩), .pointer (some ⟨bl, 0, none⟩), .pointer (some ⟨bt, 0, none⟩)] W fun e W' =>
      ∃ ok, e = .returned (.bool ok) ∧ LookPost J Jx R S A c told pre (listsC t 0 told cs) W ok W' := by
  have hs := hL.s
  have hy0 := hL.y
  obtain ⟨fn, tmps, assign, body, hy, hRd⟩ := yield_any (m' := 2) (hY S pre told A c W hJ ht hA)
  rw [listsC_zero]
  refine (callsIn_wide (n := 3)).1 ?_
  refine callsIn_of_wp Tryd.func101 rfl trivial ?_ rfl
  simp only [Tryd.ntmps101, List.size_toArray, List.length_cons, List.length_nil, Nat.reduceAdd, Nat.reduceSub, Array.replicate_succ, Array.replicate_zero, List.push_toArray, List.append_toArray, List.nil_append, List.cons_append]
  gi_wp2
  refine wpIn_wide.2 (wp_scope_straight ((wpIn_wide (n := 3)).1 ?_))
  gi_wp2
  refine hRd.mono ?_
  rintro e W' (⟨rfl, hJ', hst⟩ | ⟨rfl, hJx⟩)
  · gi_wp2
    rw [Exit.noGoto_ret]
    go_ret
    refine ⟨true, rfl, ⟨S, hJ', fun _ h => h, fun _ h => .inl h⟩, hst.below, fun j hj => hst.same j (by have := hR j hj; omega) (.inr hj), fun j hj hlt _ => hst.same j hlt (.inl hj), ?_⟩
    exact told_kept ht fun k hk => hst.same k (own_lies ht k hk).2 (.inl (hA k hk))
  · gi_wp2
    rw [Exit.noGoto_ret]
    go_ret
    exact ⟨false, rfl, S, [], told, List.prefix_refl _, hJx⟩

set_option maxHeartbeats 4000000 in
set_option maxRecDepth 100000 in
theorem look_any (hR : ∀ j, R j → j < B)
    (hY : ∀ S pre told A c W1, J S pre W1 → World.told W1 A c told → (∀ k, (Value.slice A told.length c).ownBlock = some k → S k) → YieldAt Fence.wide 0 Tryd.prog l #[.slice A told.length c] W1 fun e W' =>
      (e = .returned (.bool true) ∧ J S (pre ++ [told]) W' ∧ Stays (fun j => S j ∨ R j) W1 W') ∨ (e = .returned (.bool false) ∧ Jx S (pre ++ [told]) W'))
    (hh : Held J) (h1 : R bs) (h2 : R yb) (h3 : R bl) (h4 : R bt) (h5 : R 0) (hT : ∀ a b, a < 12 → b < 16 → (T a).testBit b = t a b) (hT16 : ∀ a, a < 12 → T a < 65536) : ∀ (need : Nat)
    (cs : List Nat) (told : List Int) (jn : Nat) (A : Option Addr) (c : Nat) (S : Nat → Prop) (pre : List (List Int)) (W : World), (need = 0 ∧ size ≤ told.length ∨ 0 < need ∧ size = told.length + need) → told.length + need ≤ 100 → IsSet jn cs → (∀ b ∈ cs, b < 12) →
    B ≤ W.heap.size → LookAt W l size T bs yb bl bt → J S pre W → World.told W A c told → (∀ k, (Value.slice A told.length c).ownBlock = some k → S k) → (∀ j, S j → B ≤ j) →
    Calls Tryd.prog 101 #[.slice A told.length c, .int .u16 jn, .pointer (some ⟨bs, 0, none⟩), .pointer (some ⟨yb, 0, none⟩), .pointer (some ⟨bl, 0, none⟩), .pointer (some ⟨bt, 0, none⟩)] W fun e W' =>
      ∃ ok, e = .returned (.bool ok) ∧ LookPost J Jx R S A c told pre (listsC t need told cs) W ok W' := by
  intro need
  induction need with
  | zero =>
    intro cs told jn A c S pre W hsz _ _ _ hB hL hJ ht hA _
    exact look_zero hR hY cs told jn A c S pre W (by omega) hB hL hJ ht hA
  | succ need ih =>
    intro cs told jn A c S pre W hsz h100 hset hcs hB hL hJ ht hA hS
    have hlt : (told.length : Int) < size := by omega
    have hnle : ¬ size ≤ (told.length : Int) := by omega
    have hs := hL.s
    have hsz' : (need = 0 ∧ size ≤ ((told.length + 1 : Nat) : Int)) ∨ (0 < need ∧ size = ((told.length + 1 : Nat) : Int) + need) := by omega
    obtain ⟨L, hLL⟩ : ∃ L, listsC t (need + 1) told cs = L := ⟨_, rfl⟩
    rw [hLL]
    have HLL := Lib.hid hLL
    have HSZ := Lib.hid hsz'
    have HL0 := Lib.hid hL
    clear hLL hsz' hsz hL
    go_enter Tryd.func101, Tryd.ntmps101
    go_wp2
    refine wp_scope_jumps 0 (fun a W' => (∃ t0 t1 t2 t3 t4 t5 t6 t7 t8 t9 t10 t11 t12 t13 t14 t15 t16 t17 t18 t19 t20 t21 t22 t23 t24 t25 t26 t27 t28 t29 t30 t31 t32 t33 t34 t35 t36, a = ({ tmps := #[t0, t1, t2, t3, t4, t5, t6, t7, t8, t9, t10, t11, t12, t13, t14, t15, t16, t17, t18, t19, t20, t21, t22, t23, t24, t25, t26, t27, t28, t29, t30, t31, t32, t33, t34, t35, t36], defers := [] } : Act)) ∧ ∃ S' q x, q ++ [x] <+: L ∧ Jx S' (pre ++ (q ++ [x])) W') (fun _ _ => 0) rfl ?first ?pass
    case pass =>
      rintro a W' ⟨⟨t0, t1, t2, t3, t4, t5, t6, t7, t8, t9, t10, t11, t12, t13, t14, t15, t16, t17, t18, t19, t20, t21, t22, t23, t24, t25, t26, t27, t28, t29, t30, t31, t32, t33, t34, t35, t36, rfl⟩, hx⟩
      go_wp2
      rw [show ∀ (a : Act) (w : World) (Q : Exit → Act → World → Prop) (J : Act → World → Prop), Exit.jump 0 J Q .ret a w = Q .ret a w from fun _ _ _ _ => rfl]
      go_ret
      exact ⟨false, rfl, hx⟩
    case first =>
      go_wp2
      clear hs
      go_loopw [1] (fun i wr => ∃ (jn' : Nat) (cs' : List Nat) (done : List (List Int)), i = .int .u16 jn' ∧ IsSet jn' cs' ∧ (∀ b ∈ cs', b < 12) ∧ L = done ++ listsC t (need + 1) told cs' ∧ LookYes J R S A c told (pre ++ done) W wr) (fun i _ => (intOf i).toNat)
      case atStart => exact ⟨jn, cs, [], rfl, hset, hcs, by rw [HLL.out]; rfl, by rw [List.append_nil]; exact LookYes.start hJ ht⟩
      case round =>
        obtain ⟨jn', cs', done, rfl, hset', hcs', hL', hyes⟩ := hrel
        have hL2 := HL0.out.of hyes.ro h1 h2 h3 h4 h5
        have Hyes := Lib.hid hyes
        have HL' := Lib.hid hL'
        clear hyes hL'
        cases cs' with
        | nil =>
          have hz := hset'.zero
          subst hz
          go_wp2
          rw [show ∀ (a : Act) (w : World) (Q : Exit → Act → World → Prop) (J : Act → World → Prop), Exit.jump 0 J Q .ret a w = Q .ret a w from fun _ _ _ _ => rfl]
          go_ret
          refine ⟨true, rfl, ?_⟩
          have e := HL'.out
          rw [listsC_nil, List.append_nil] at e
          rw [e]
          exact Hyes.out
        | cons a cs'' =>
          have hpos := hset'.pos
          have hposI : ((jn' : Int) == 0) = false := by simp only [beq_eq_false_iff_ne, ne_eq]; omega
          go_wp2_with fail
          refine (tz16_any hset' wr hL2.tab).mono ?_
          rintro e w' ⟨rfl, rfl⟩
          go_wp2
          have ha12 := hcs' a List.mem_cons_self
          have hTa := hT16 a ha12
          rw [clear_bit hset'.small (by omega)]
          have htail := hset'.tail
          have hsm := hset'.smaller
          have hint := htail.inter (T := T a) (f := t a) (fun b hb => hT a b ha12 hb)
          obtain ⟨j2, hj2⟩ : ∃ j2, jn' &&& (65535 - 2 ^ a) = j2 := ⟨_, rfl⟩
          rw [hj2] at htail hsm hint ⊢
          have hand := u16_and_nat j2 (T a) htail.small hTa
          have hai : (a : Int) < 12 := by omega
          have hto := Hyes.out.told
          have f1 := hL2.k
          have f2 := hL2.t a ha12
          have hblw : bl < wr.heap.size := World.block_lt_of_cell? wr _ f1
          have hbtw : bt < wr.heap.size := World.block_lt_of_cell? wr _ f2
          have g1 : ∀ o, (wr.drew.alloc o).cell? ⟨bl, 0, none⟩ = some (lookV bs yb bl bt) := fun o => (World.cell?_alloc_lt wr.drew _ _ hblw).trans f1
          have g2 : ∀ o, (wr.drew.alloc o).cell? ⟨bt, a, none⟩ = some (.int .u16 (T a)) := fun o => (World.cell?_alloc_lt wr.drew _ _ hbtw).trans f2
          have hll : (told ++ [(a : Int)]).length = told.length + 1 := by simp
          have Htail := Lib.hid htail
          have Hint := Lib.hid hint
          have Hlen : (told ++ [(a : Int)]).length + need ≤ 100 := by rw [hll]; omega
          clear hj2 hset' hpos hposI hint htail hL2 hlt hnle
          go_region_law (first
            | (refine step_append_told (by rfl) _ _ (by rfl) A c told a (by rfl) ((World.ownsRow.drew hto).alloc _) ⟨wr.heap.size, 0, none⟩ (by rfl) (one_cell (by simp)) (by omega) ?_; intro A1 c1 w1 G1; obtain ⟨⟨S2, e1, e2, e3, e4⟩, e5, e6, e7⟩ := Hyes.out.step hh hA hS hR hB ((Below.refl _ wr).drew.alloc (Nat.le_refl _) _) G1; have hL3 := HL0.out.of (fun j hj => (e5 j hj).trans (Hyes.out.ro j hj)) h1 h2 h3 h4 h5; have m1 := hL3.k; have m2 := hL3.t a ha12; have ihc := ih (cs''.filter (t a)) (told ++ [(a : Int)]) (j2 &&& T a) A1 c1 S2 (pre ++ done) w1 (by rw [hll]; exact HSZ.out) Hlen Hint.out (fun b hb => hcs' b (List.mem_cons_of_mem _ (List.mem_filter.1 hb).1)) e6 hL3 e1 G1.new e4 (fun j hj => by rcases e3 j hj with h | h; exact hS j h; omega); rw [hll] at ihc; have IHC := Lib.hid ihc; have HG := Lib.hid G1; clear ihc hL3 G1)
            | (go_simp; refine IHC.out.mono ?_; rintro e w2 ⟨ok, rfl, hpost⟩)
            | fail)
          all_goals (cases ok)
          all_goals (go_wp2)
          all_goals first
            | (go_step3; refine (show 0 = 0 ∧ _ from ⟨rfl, ?_⟩); refine (show (∃ _, _) ∧ _ from ⟨⟨_, _, _, _, _, _, _, _, _, _, _, _, _, _, _, _, _, _, _, _, _, _, _, _, _, _, _, _, _, _, _, _, _, _, _, _, _, rfl⟩, ?_⟩); obtain ⟨S', q, x, hq, hx⟩ := hpost; refine ⟨S', done ++ q, x, ?_, by simpa [List.append_assoc] using hx⟩; rw [HL'.out, listsC_cons, List.append_assoc done q]; exact (List.prefix_append_right_inj _).2 (hq.trans (List.prefix_append _ _)))
            | (refine ⟨⟨_, _, _, _, _, _, _, _, _, _, _, _, _, _, _, _, _, _, _, _, _, _, ⟨j2, cs'', done ++ listsC t need (told ++ [(a : Int)]) (cs''.filter (t a)), rfl, Htail.out, fun b hb => hcs' b (List.mem_cons_of_mem _ hb), by rw [HL'.out, listsC_cons, List.append_assoc], ?_⟩, rfl⟩, ?_⟩; (rw [← List.append_assoc]; exact Hyes.out.next hA hS hR hB ((Below.refl _ wr).drew.alloc (Nat.le_refl _) _) HG.out e2 e3 hpost); (show ((j2 : Nat) : Int).toNat < ((jn' : Nat) : Int).toNat; omega))
end
end Go.Proofs.YtgccapdjhnejcaaDoor
