/-
  Texts put together for the claims of 'CountColourings' (pack 5): ColL, ColM, LookW, Tied, IterG, Marks, Clone, Boxed.
-/
import Derived.Test.YthddlpghjkiioaaCountColouringsP2
import Derived.Test.YthddlpghjkiioaaCountColouringsP4
import Derived.Laws.EntriesVeiled
import Derived.WalkMore
import Derived.Lib.SliceRun
import Derived.Deep.LoopGhost
import Derived.Deep.Slices
import Derived.WideShapes
import Derived.Laws.OwnMore
/-
  The recursion of the colourings' closure, walked.
-/
namespace Go.Proofs.Ythddlpghjkiioaa
open Go.RowKit Go.Shelf
attribute [local go_sem] Oper.semAt_some

theorem wrap_le {x : Int} (h0 : 0 ≤ x) (h1 : x ≤ 4611686018427387904) : IntKind.i64.wrap x = x := by rw [IntKind.wrap_i64]; omega
section
variable {l n : Nat} {pl : PL} {A0 : Option Addr} {c0 most B0 pb yb cb bl B : Nat} {R : Nat → Prop} {J Jx : (Nat → Prop) → List (List Int) → World → Prop} {Good : List (List Int) → Prop}
theorem flat_prefix {G : Nat → List (List Int)} {c M : Nat} (h : c < M) : (List.range c).flatMap G ++ G c <+: (List.range M).flatMap G := by
  obtain ⟨i, rfl⟩ : ∃ i, M = c + 1 + i := ⟨M - (c + 1), by omega⟩
  rw [List.range_add, List.flatMap_append, List.range_succ, List.flatMap_append, List.flatMap_cons, List.flatMap_nil, List.append_nil]
  exact List.prefix_append _ _

set_option maxHeartbeats 4000000 in
set_option maxRecDepth 100000 in
theorem col_look (hR : ∀ j, R j → j < B)
    (hY : ∀ S pre told A c W1, J S pre W1 → World.told W1 A c told → (∀ k, (Value.slice A told.length c).ownBlock = some k → S k) → told.length ≤ 100 → Good (pre ++ [told]) → YieldAt Fence.wide 0 Try.prog l #[.slice A told.length c, .int .i64 (usedC told)] W1 fun e W' =>
      (e = .returned (.bool true) ∧ J S (pre ++ [told]) W' ∧ Stays (fun j => S j ∨ R j) W1 W') ∨ (e = .returned (.bool false) ∧ Jx S (pre ++ [told]) W'))
    (hh : Held J) (h1 : R pb) (h2 : R yb) (h3 : R cb) (h4 : R bl) (h5 : ∀ j, j < B0 → R j) (hpl : pl.length ≤ 1048576) (hp : isP n pl = true) (hn12 : n ≤ 12) (hm12 : most ≤ 12) : ∀ (k : Nat)
    (q : List Int) (A : Option Addr) (c : Nat) (S : Nat → Prop) (pre : List (List Int)) (W : World), q.length + k = n → usedC q ≤ q.length → (∀ qq, qq <+: growC (adj pl) most k q → Good (pre ++ qq)) →
    B ≤ W.heap.size → ColAt W l n pl A0 c0 most B0 pb yb cb bl → J S pre W → World.told W A c q → (∀ k, (Value.slice A q.length c).ownBlock = some k → S k) → (∀ j, S j → B ≤ j) →
    Calls Try.prog 81 #[.slice A q.length c, .int .i64 (usedC q), .pointer (some ⟨pb, 0, none⟩), .pointer (some ⟨yb, 0, none⟩), .pointer (some ⟨cb, 0, none⟩), .pointer (some ⟨bl, 0, none⟩)] W fun e W' =>
      ∃ ok, e = .returned (.bool ok) ∧ LookPost J Jx R S A c q pre (growC (adj pl) most k q) W ok W' := by
  intro k
  induction k with
  | zero =>
    intro q A c S pre W hk _ hgd hB hL hJ ht hA _
    exact col_zero hR hY q A c S pre W (by omega) (by omega) (hgd _ (List.prefix_refl _)) hB hL hJ ht hA
  | succ k ih =>
    intro q A c S pre W hk huq hgd hB hL hJ ht hA hS
    obtain ⟨m, hm⟩ : ∃ m, q.length = m := ⟨_, rfl⟩
    obtain ⟨u, hu⟩ : ∃ u, usedC q = u := ⟨_, rfl⟩
    obtain ⟨G, hG⟩ : ∃ G : Nat → List (List Int), (fun c : Nat => if hasTo (adj pl) (ofTold q) q.length q.length (c : Int) then [] else growC (adj pl) most k (q ++ [(c : Int)])) = G := ⟨_, rfl⟩
    obtain ⟨M, hM⟩ : ∃ M, min (u + 1) most = M := ⟨_, rfl⟩
    have hL0 : growC (adj pl) most (k + 1) q = (List.range M).flatMap G := by rw [← hM, ← hu, ← hG]; rfl
    rw [hL0] at hgd ⊢
    rw [hm] at hk huq hA ⊢
    rw [hu] at huq ⊢
    have hp0 := hL.p
    have hc0 := hL.c
    have hne : ((m : Int) == (n : Int)) = false := by simp; omega
    have hnem : ¬ ((m : Int) = (n : Int)) := by omega
    have HM := Lib.hid hM
    have HG := Lib.hid hG
    have Hm := Lib.hid hm
    have Hu := Lib.hid hu
    have HGD := Lib.hid hgd
    have HL0 := Lib.hid hL
    clear hL0 hM hG hm hu hgd hL
    go_enter Try.func81, Try.ntmps81
    go_wp2
    · skip
      first
        | rw [show (most : Int) = (M : Int) from by have := HM.out; omega]
        | rw [show (u : Int) + 1 = (M : Int) from by have := HM.out; omega]
      clear hp0 hc0
      go_loopw [25] (fun i wr => ∃ x : Nat, x ≤ M ∧ i = .int .i64 x ∧ LookYes J R S A c q (pre ++ (List.range x).flatMap G) W wr) (fun i _ => M - (intOf i).toNat)
      case atStart => exact ⟨0, Nat.zero_le _, rfl, by rw [show (List.range 0).flatMap G = [] from rfl, List.append_nil]; exact LookYes.start hJ ht⟩
      case round =>
        obtain ⟨x, hx, rfl, hyes⟩ := hrel
        have hM12 : M ≤ 12 := by have := HM.out; omega
        have hL2 := HL0.out.of hyes.ro h1 h2 h3 h4 h5
        have hto := hyes.told
        have Hyes := Lib.hid hyes
        have HL2 := Lib.hid hL2
        clear hyes
        by_cases hlt : x < M
        · have hxi : (x : Int) < ((M : Nat) : Int) := by omega
          have q1 := hL2.q
          have f1 := hL2.k
          clear hL2
          have hB0 : B0 ≤ wr.heap.size := by
            have hs := Hyes.out.below.size
            rcases Nat.eq_zero_or_pos B0 with h | h
            · omega
            · have := hR _ (h5 (B0 - 1) (by omega)); omega
          have hfree : ∀ w1, Below wr.heap.size wr w1 → Calls Try.prog 82 #[.slice A0 pl.length c0, .slice A m c, .int .i64 x] w1 fun e w' => e = .returned (.bool (!hasTo (adj pl) (ofTold q) m m (x : Int))) ∧ Below w1.heap.size w1 w' := fun w1 hw1 => by
            have h := isFree_any n pl hp A0 c0 q A c (x : Int) w1 hpl (by have := Hm.out; omega) ((HL2.out.r.below hw1 hB0).more (Nat.le_trans hB0 hw1.size)) (CRead.of_own (own_below hto hw1 (Nat.le_refl _)))
            rw [Hm.out] at h
            exact h
          have hGx : G x = if hasTo (adj pl) (ofTold q) m m (x : Int) then [] else growC (adj pl) most k (q ++ [(x : Int)]) := by rw [← HG.out, Hm.out]
          have hflat : (List.range (x + 1)).flatMap G = (List.range x).flatMap G ++ G x := by rw [List.range_succ, List.flatMap_append, List.flatMap_cons, List.flatMap_nil, List.append_nil]
          have hpbl : pb < wr.heap.size := World.block_lt_of_cell? wr _ q1
          have hbll : bl < wr.heap.size := World.block_lt_of_cell? wr _ f1
          cases hh2 : hasTo (adj pl) (ofTold q) m m (x : Int) with
          | true =>
            rw [hh2] at hfree hGx
            rw [if_pos rfl] at hGx
            rw [hGx, List.append_nil] at hflat
            simp only [Bool.not_true] at hfree
            have qe : ∀ z : Ext wr.heap.size wr, z.val.cell? ⟨pb, 1, none⟩ = some (.slice A0 pl.length c0) := fun z => z.cell q1 hpbl
            have freeE : ∀ z : Ext wr.heap.size wr, Calls Try.prog 82 #[.slice A0 pl.length c0, .slice A m c, .int .i64 x] z.val fun e w' => e = .returned (.bool false) ∧ Below z.val.heap.size z.val w' := fun z => hfree z.val z.below
            have FreeE := Lib.hid freeE
            have Hflat := Lib.hid hflat
            clear hflat hfree hGx hh2 freeE
            go_wp2_with fail
            refine wp_region_ext wr.heap.size (by kernel_rfl) (by kernel_rfl) ?_
            repeat (go_big_quiet_step ((go_at_call 82; exact Calls.ext_of ((FreeE.out _).mono fun _ _ h => ⟨h.1, h.2.mono (Ext.size _)⟩))))
            refine wpQuiet_nil ?_
            rintro w1 ⟨⟨_, hb1⟩, rfl⟩
            clear qe
            have fin := Hyes.out.over hh hR hB hb1
            have Fin := Lib.hid fin
            clear fin
            go_wp2
            go_roundw
            case rel => exact ⟨x + 1, by omega, by go_num, by rw [Hflat.out]; exact Fin.out⟩
            case measure => simp [intOf]; omega
          | false =>
            rw [hh2] at hfree hGx
            rw [if_neg (by simp)] at hGx
            simp only [Bool.not_false] at hfree
            rw [hGx] at hflat
            have hu2 := usedC_snoc q (x : Int)
            rw [Hu.out, Int.toNat_natCast] at hu2
            have hll : (q ++ [(x : Int)]).length = m + 1 := by rw [List.length_append, Hm.out]; rfl
            have hgd2 : ∀ qq, qq <+: growC (adj pl) most k (q ++ [(x : Int)]) → Good (pre ++ (List.range x).flatMap G ++ qq) := fun qq hq => by
              rw [List.append_assoc]
              refine HGD.out _ ?_
              have h1 := flat_prefix (G := G) hlt
              rw [hGx] at h1
              exact ((List.prefix_append_right_inj _).2 hq).trans h1
            have hAq : ∀ k, (Value.slice A q.length c).ownBlock = some k → S k := by rw [Hm.out]; exact hA
            have hll0 : (q ++ [(x : Int)]).length = q.length + 1 := by simp
            have hMm : M ≤ m + 1 := by have := HM.out; omega
            have callC : ∀ vI : Int, ((usedC (q ++ [(x : Int)]) : Nat) : Int) = vI → ∀ (wf : World) (o : Obj), Below wr.heap.size wr wf → ∀ (A1 : Option Addr) (c1 : Nat) (w1 : World), Grew (wf.alloc o) w1 A A1 c c1 q (x : Int) →
                Calls Try.prog 81 #[.slice A1 (q.length + 1) c1, .int .i64 vI, .pointer (some ⟨pb, 0, none⟩), .pointer (some ⟨yb, 0, none⟩), .pointer (some ⟨cb, 0, none⟩), .pointer (some ⟨bl, 0, none⟩)] w1 fun e w2 =>
                  ∃ ok, e = .returned (.bool ok) ∧ LookPost J Jx R S A c q pre ((List.range (x + 1)).flatMap G) W ok w2 := by
              rintro vI rfl wf o hwf A1 c1 w1 G1
              have hX : Below wr.heap.size wr (wf.alloc o) := hwf.alloc hwf.size _
              obtain ⟨⟨S2, e1, e2, e3, e4⟩, e5, e6, e7⟩ := Hyes.out.step hh hAq hS hR hB hX G1
              have ihc := ih (q ++ [(x : Int)]) A1 c1 S2 (pre ++ (List.range x).flatMap G) w1 (by rw [hll]; omega) (by rw [hll, hu2]; omega) hgd2 e6 (HL0.out.of (fun j hj => (e5 j hj).trans (Hyes.out.ro j hj)) h1 h2 h3 h4 h5) e1 G1.new e4 (fun j hj => (e3 j hj).elim (hS j) (fun h => by omega))
              rw [hll0] at ihc
              refine ihc.mono ?_
              rintro e w2 ⟨ok, rfl, hpost⟩
              refine ⟨ok, rfl, ?_⟩
              rw [hflat]
              cases ok
              · obtain ⟨S', qq, y, hq, hx⟩ := hpost
                exact ⟨S', (List.range x).flatMap G ++ qq, y, by rw [List.append_assoc]; exact (List.prefix_append_right_inj _).2 hq, by simpa [List.append_assoc] using hx⟩
              · show LookYes J R S A c q (pre ++ _) W w2
                rw [← List.append_assoc]
                exact Hyes.out.next hAq hS hR hB hX G1 e2 e3 hpost
            have g1 : ∀ V V' : World, Below wr.heap.size wr V → Below V.heap.size V V' → V'.cell? ⟨bl, 0, none⟩ = some (colV pb yb cb bl) ∧ (∀ o, (V'.alloc o).cell? ⟨bl, 0, none⟩ = some (colV pb yb cb bl)) := fun V V' h h' => by
              have hk := h.trans (h'.mono h.size)
              exact ⟨carry hk f1 hbll, fun o => carry (hk.alloc hk.size o) f1 hbll⟩
            have g2 : ∀ (wf : World) (o : Obj), Below wr.heap.size wr wf → ∀ (A1 : Option Addr) (c1 : Nat) (w1 : World), Grew (wf.alloc o) w1 A A1 c c1 q (x : Int) → w1.cell? ⟨bl, 0, none⟩ = some (colV pb yb cb bl) := fun wf o hwf A1 c1 w1 G1 => by
              have hX : Below wr.heap.size wr (wf.alloc o) := hwf.alloc hwf.size _
              obtain ⟨_, e5, _, _⟩ := Hyes.out.step hh hAq hS hR hB hX G1
              exact (HL0.out.of (fun j hj => (e5 j hj).trans (Hyes.out.ro j hj)) h1 h2 h3 h4 h5).k
            have HG2 := Lib.hid g2
            clear g2
            have kD : Below wr.heap.size wr wr.drew := (Below.refl _ _).drew
            have hfin : ∀ S' qq y w2, qq ++ [y] <+: (List.range (x + 1)).flatMap G → Jx S' (pre ++ (qq ++ [y])) w2 → LookPost J Jx R S A c q pre ((List.range M).flatMap G) W false w2 := fun S' qq y w2 h1 h2 => by
              refine ⟨S', qq, y, h1.trans ?_, h2⟩
              rw [hflat, ← hGx]
              exact flat_prefix (G := G) hlt
            have hv : ((usedC (q ++ [(x : Int)]) : Nat) : Int) = (if (u : Int) < IntKind.i64.wrap ((x : Int) + 1) then IntKind.i64.wrap ((x : Int) + 1) else (u : Int)) := by
              rw [hu2, wrap_le (by omega) (by omega)]
              split <;> omega
            have callV := callC _ hv
            have HG1 := Lib.hid g1
            have Hto := Lib.hid hto
            have Hfree := Lib.hid hfree
            have KD := Lib.hid kD
            have Hfin := Lib.hid hfin
            have CallV := Lib.hid callV
            have hm12 : m ≤ 12 := by omega
            clear hflat hfree hGx hh2 hgd2 hll hu2 g1 hto kD hfin callC callV hll0 hAq hMm hv
            go_wp2_with fail
            refine wp_region_any (by kernel_rfl) ?_
            change wpAny _ _ _ _ _ _ _ wr.drew
            refine wpAny_take (i := 0) (v := ?v0a) rfl (by kernel_rfl) (by kernel_rfl) (by kernel_rfl) (fun _ _ _ h => h) (Or.inl ⟨by first | kernel_rfl | rfl, ?hy0a⟩) ?rest0a
            case hy0a => (intro w; go_simp; all_goals (with_reducible rfl))
            refine wpAny_take (i := 2) (v := ?v2a) rfl (by kernel_rfl) (by kernel_rfl) (by kernel_rfl) (fun _ _ _ h => h) (Or.inl ⟨by first | kernel_rfl | rfl, ?hy2a⟩) ?rest2a
            case hy2a => (intro w; go_simp; all_goals (with_reducible rfl))
            refine wpAny_take (i := 3) (v := ?v3a) rfl (by kernel_rfl) (by kernel_rfl) (by kernel_rfl) (fun _ _ _ h => h) (Or.inl ⟨by first | kernel_rfl | rfl, ?hy3a⟩) ?rest3a
            case hy3a => (intro w; go_simp; all_goals (with_reducible rfl))
            refine wpAny_ready (rs := [1]) (by kernel_rfl) (by simp) ?_
            refine AllReady.cons rfl (fun K hK => ?_) AllReady.nil
            rw [if_pos (by kernel_rfl)]
            go_simp
            refine hK _ _ ?_
            clear hK K
            refine wpAny_ready (rs := [4]) (by kernel_rfl) (by simp) ?_
            refine AllReady.cons rfl (fun K hK => ?_) AllReady.nil
            rw [if_pos (by kernel_rfl)]
            go_simp
            go_at_call 82
            refine (Hfree.out _ KD.out).mono ?_
            rintro e wf ⟨rfl, hbf⟩
            obtain ⟨cbl, cbo⟩ := HG1.out _ _ KD.out hbf
            have Kf := Lib.hid (KD.out.trans (hbf.mono (Nat.le_refl _)))
            clear hbf
            try go_simp
            refine hK _ _ ?_
            clear hK K
            refine wpAny_take (i := 5) (v := ?v5a) rfl (by kernel_rfl) (by kernel_rfl) (by kernel_rfl) (fun _ _ _ h => h) (Or.inl ⟨by first | kernel_rfl | rfl, ?hy5a⟩) ?rest5a
            case hy5a => (intro w; go_simp; all_goals (with_reducible rfl))
            refine wpAny_take (i := 7) (v := ?v7a) rfl (by kernel_rfl) (by kernel_rfl) (by kernel_rfl) (fun _ _ _ h => h) (Or.inl ⟨by first | kernel_rfl | rfl, ?hy7a⟩) ?rest7a
            case hy7a => (intro w; go_simp; all_goals (with_reducible rfl))
            refine wpAny_take (i := 8) (v := ?v8a) rfl (by kernel_rfl) (by kernel_rfl) (by kernel_rfl) (fun _ _ _ h => h) (Or.inl ⟨by first | kernel_rfl | rfl, ?hy8a⟩) ?rest8a
            case hy8a => (intro w; go_simp; all_goals (with_reducible rfl))
            refine wpAny_take (i := 11) (v := ?v11a) rfl (by kernel_rfl) (by kernel_rfl) (by kernel_rfl) (fun _ _ _ h => h) (Or.inl ⟨by first | kernel_rfl | rfl, ?hy11a⟩) ?rest11a
            case hy11a => (intro w; go_simp; all_goals (with_reducible rfl))
            refine wpAny_take (i := 12) (v := ?v12a) rfl (by kernel_rfl) (by kernel_rfl) (by kernel_rfl) (fun _ _ _ h => h) (Or.inl ⟨by first | kernel_rfl | rfl, ?hy12a⟩) ?rest12a
            case hy12a => (intro w; go_simp; all_goals (with_reducible rfl))
            refine wpAny_take (i := 13) (v := ?v13a) rfl (by kernel_rfl) (by kernel_rfl) (by kernel_rfl) (fun _ _ _ h => h) (Or.inl ⟨by first | kernel_rfl | rfl, ?hy13a⟩) ?rest13a
            case hy13a => (intro w; go_simp; all_goals (with_reducible rfl))
            refine wpAny_take (i := 14) (v := ?v14a) rfl (by kernel_rfl) (by kernel_rfl) (by kernel_rfl) (fun _ _ _ h => h) (Or.inl ⟨by first | kernel_rfl | rfl, ?hy14a⟩) ?rest14a
            case hy14a => (intro w; go_simp; all_goals (with_reducible rfl))
            refine wpAny_ready (rs := [6, 9]) (by kernel_rfl) (by simp) ?_
            refine AllReady.cons rfl (fun K hK => ?_) (AllReady.cons rfl (fun K hK => ?_) AllReady.nil)
            · skip
              rw [if_pos (by kernel_rfl)]
              go_simp
              refine hK _ _ ?_
              clear hK K
              refine wpAny_ready (rs := [9]) (by kernel_rfl) (by simp) ?_
              refine AllReady.cons rfl (fun K hK => ?_) AllReady.nil
              rw [if_pos (by kernel_rfl)]
              go_simp
              refine hK _ _ ?_
              clear hK K
              refine wpAny_ready (rs := [10]) (by kernel_rfl) (by simp) ?_
              refine AllReady.cons rfl (fun K hK => ?_) AllReady.nil
              refine step_append_told_g (by kernel_rfl) _ _ (by rfl) A c q (x : Int) (by rw [Hm.out]; rfl) (own_below Hto.out (Kf.out.alloc Kf.out.size _) (Nat.le_refl _)) ⟨wf.heap.size, 0, none⟩ (by rfl) (one_cell (by simp)) (by have := Hm.out; omega) ?_
              intro A1 c1 w1 G1
              have c1l := HG2.out wf _ Kf.out A1 c1 w1 G1
              have call1 := CallV.out wf _ Kf.out A1 c1 w1 G1
              have Call1 := Lib.hid call1
              clear call1
              refine hK _ _ ?_
              clear hK K
              refine wpAny_ready (rs := [15]) (by kernel_rfl) (by simp) ?_
              refine AllReady.cons rfl (fun K hK => ?_) AllReady.nil
              rw [if_pos (by kernel_rfl)]
              go_simp
              refine Call1.out.mono ?_
              rintro e w2 ⟨ok, rfl, hpost⟩
              try go_simp
              refine hK _ _ ?_
              clear hK K
              refine wpAny_ready (rs := [16]) (by kernel_rfl) (by simp) ?_
              refine AllReady.cons rfl (fun K hK => ?_) AllReady.nil
              rw [if_pos (by kernel_rfl)]
              go_simp
              refine hK _ _ ?_
              clear hK K
              refine wpAny_ready (rs := [17]) (by kernel_rfl) (by simp) ?_
              refine AllReady.cons rfl (fun K hK => ?_) AllReady.nil
              rw [if_pos (by kernel_rfl)]
              go_simp
              refine hK _ _ ?_
              clear hK K
              refine wpAny_done (by kernel_rfl) ?_ _
              generalize (if (u : Int) < IntKind.i64.wrap ((x : Int) + 1) then IntKind.i64.wrap ((x : Int) + 1) else (u : Int)) = vv
              cases ok
              · obtain ⟨S', qq, y, hq, hx⟩ := hpost
                have fin := Hfin.out S' qq y w2 hq hx
                have Fin := Lib.hid fin
                clear fin hq hx
                go_wp2
                go_ret
                first | exact ⟨false, rfl, Fin.out⟩ | exact .inl ⟨rfl, Fin.out⟩
              · have fin : LookYes J R S A c q (pre ++ (List.range (x + 1)).flatMap G) W w2 := hpost
                have Fin := Lib.hid fin
                clear fin hpost
                go_wp2
                go_roundw
                case rel => exact ⟨x + 1, by omega, by go_num, Fin.out⟩
                case measure => simp [intOf]; omega
            · skip
              rw [if_pos (by kernel_rfl)]
              go_simp
              refine hK _ _ ?_
              clear hK K
              refine wpAny_ready (rs := [6, 10]) (by kernel_rfl) (by simp) ?_
              refine AllReady.cons rfl (fun K hK => ?_) (AllReady.cons rfl (fun K hK => ?_) AllReady.nil)
              · skip
                rw [if_pos (by kernel_rfl)]
                go_simp
                refine hK _ _ ?_
                clear hK K
                refine wpAny_ready (rs := [10]) (by kernel_rfl) (by simp) ?_
                refine AllReady.cons rfl (fun K hK => ?_) AllReady.nil
                refine step_append_told_g (by kernel_rfl) _ _ (by rfl) A c q (x : Int) (by rw [Hm.out]; rfl) (own_below Hto.out (Kf.out.alloc Kf.out.size _) (Nat.le_refl _)) ⟨wf.heap.size, 0, none⟩ (by rfl) (one_cell (by simp)) (by have := Hm.out; omega) ?_
                intro A1 c1 w1 G1
                have c1l := HG2.out wf _ Kf.out A1 c1 w1 G1
                have call1 := CallV.out wf _ Kf.out A1 c1 w1 G1
                have Call1 := Lib.hid call1
                clear call1
                refine hK _ _ ?_
                clear hK K
                refine wpAny_ready (rs := [15]) (by kernel_rfl) (by simp) ?_
                refine AllReady.cons rfl (fun K hK => ?_) AllReady.nil
                rw [if_pos (by kernel_rfl)]
                go_simp
                refine Call1.out.mono ?_
                rintro e w2 ⟨ok, rfl, hpost⟩
                try go_simp
                refine hK _ _ ?_
                clear hK K
                refine wpAny_ready (rs := [16]) (by kernel_rfl) (by simp) ?_
                refine AllReady.cons rfl (fun K hK => ?_) AllReady.nil
                rw [if_pos (by kernel_rfl)]
                go_simp
                refine hK _ _ ?_
                clear hK K
                refine wpAny_ready (rs := [17]) (by kernel_rfl) (by simp) ?_
                refine AllReady.cons rfl (fun K hK => ?_) AllReady.nil
                rw [if_pos (by kernel_rfl)]
                go_simp
                refine hK _ _ ?_
                clear hK K
                refine wpAny_done (by kernel_rfl) ?_ _
                generalize (if (u : Int) < IntKind.i64.wrap ((x : Int) + 1) then IntKind.i64.wrap ((x : Int) + 1) else (u : Int)) = vv
                cases ok
                · obtain ⟨S', qq, y, hq, hx⟩ := hpost
                  have fin := Hfin.out S' qq y w2 hq hx
                  have Fin := Lib.hid fin
                  clear fin hq hx
                  go_wp2
                  go_ret
                  first | exact ⟨false, rfl, Fin.out⟩ | exact .inl ⟨rfl, Fin.out⟩
                · have fin : LookYes J R S A c q (pre ++ (List.range (x + 1)).flatMap G) W w2 := hpost
                  have Fin := Lib.hid fin
                  clear fin hpost
                  go_wp2
                  go_roundw
                  case rel => exact ⟨x + 1, by omega, by go_num, Fin.out⟩
                  case measure => simp [intOf]; omega
              · skip
                refine step_append_told_g (by kernel_rfl) _ _ (by rfl) A c q (x : Int) (by rw [Hm.out]; rfl) (own_below Hto.out (Kf.out.alloc Kf.out.size _) (Nat.le_refl _)) ⟨wf.heap.size, 0, none⟩ (by rfl) (one_cell (by simp)) (by have := Hm.out; omega) ?_
                intro A1 c1 w1 G1
                have c1l := HG2.out wf _ Kf.out A1 c1 w1 G1
                have call1 := CallV.out wf _ Kf.out A1 c1 w1 G1
                have Call1 := Lib.hid call1
                clear call1
                refine hK _ _ ?_
                clear hK K
                refine wpAny_ready (rs := [6]) (by kernel_rfl) (by simp) ?_
                refine AllReady.cons rfl (fun K hK => ?_) AllReady.nil
                rw [if_pos (by kernel_rfl)]
                go_simp
                refine hK _ _ ?_
                clear hK K
                refine wpAny_ready (rs := [15]) (by kernel_rfl) (by simp) ?_
                refine AllReady.cons rfl (fun K hK => ?_) AllReady.nil
                rw [if_pos (by kernel_rfl)]
                go_simp
                refine Call1.out.mono ?_
                rintro e w2 ⟨ok, rfl, hpost⟩
                try go_simp
                refine hK _ _ ?_
                clear hK K
                refine wpAny_ready (rs := [16]) (by kernel_rfl) (by simp) ?_
                refine AllReady.cons rfl (fun K hK => ?_) AllReady.nil
                rw [if_pos (by kernel_rfl)]
                go_simp
                refine hK _ _ ?_
                clear hK K
                refine wpAny_ready (rs := [17]) (by kernel_rfl) (by simp) ?_
                refine AllReady.cons rfl (fun K hK => ?_) AllReady.nil
                rw [if_pos (by kernel_rfl)]
                go_simp
                refine hK _ _ ?_
                clear hK K
                refine wpAny_done (by kernel_rfl) ?_ _
                generalize (if (u : Int) < IntKind.i64.wrap ((x : Int) + 1) then IntKind.i64.wrap ((x : Int) + 1) else (u : Int)) = vv
                cases ok
                · obtain ⟨S', qq, y, hq, hx⟩ := hpost
                  have fin := Hfin.out S' qq y w2 hq hx
                  have Fin := Lib.hid fin
                  clear fin hq hx
                  go_wp2
                  go_ret
                  first | exact ⟨false, rfl, Fin.out⟩ | exact .inl ⟨rfl, Fin.out⟩
                · have fin : LookYes J R S A c q (pre ++ (List.range (x + 1)).flatMap G) W w2 := hpost
                  have Fin := Lib.hid fin
                  clear fin hpost
                  go_wp2
                  go_roundw
                  case rel => exact ⟨x + 1, by omega, by go_num, Fin.out⟩
                  case measure => simp [intOf]; omega
        · have hge : ¬ (x : Int) < ((M : Nat) : Int) := by omega
          have hxe : x = M := by omega
          subst hxe
          have fin := Hyes.out
          clear Hyes hL2
          go_wp2
          go_ret
          first | exact ⟨true, rfl, fin⟩ | exact .inr ⟨rfl, fin⟩
    · skip
      first
        | rw [show (most : Int) = (M : Int) from by have := HM.out; omega]
        | rw [show (u : Int) + 1 = (M : Int) from by have := HM.out; omega]
      clear hp0 hc0
      go_loopw [25] (fun i wr => ∃ x : Nat, x ≤ M ∧ i = .int .i64 x ∧ LookYes J R S A c q (pre ++ (List.range x).flatMap G) W wr) (fun i _ => M - (intOf i).toNat)
      case atStart => exact ⟨0, Nat.zero_le _, rfl, by rw [show (List.range 0).flatMap G = [] from rfl, List.append_nil]; exact LookYes.start hJ ht⟩
      case round =>
        obtain ⟨x, hx, rfl, hyes⟩ := hrel
        have hM12 : M ≤ 12 := by have := HM.out; omega
        have hL2 := HL0.out.of hyes.ro h1 h2 h3 h4 h5
        have hto := hyes.told
        have Hyes := Lib.hid hyes
        have HL2 := Lib.hid hL2
        clear hyes
        by_cases hlt : x < M
        · have hxi : (x : Int) < ((M : Nat) : Int) := by omega
          have q1 := hL2.q
          have f1 := hL2.k
          clear hL2
          have hB0 : B0 ≤ wr.heap.size := by
            have hs := Hyes.out.below.size
            rcases Nat.eq_zero_or_pos B0 with h | h
            · omega
            · have := hR _ (h5 (B0 - 1) (by omega)); omega
          have hfree : ∀ w1, Below wr.heap.size wr w1 → Calls Try.prog 82 #[.slice A0 pl.length c0, .slice A m c, .int .i64 x] w1 fun e w' => e = .returned (.bool (!hasTo (adj pl) (ofTold q) m m (x : Int))) ∧ Below w1.heap.size w1 w' := fun w1 hw1 => by
            have h := isFree_any n pl hp A0 c0 q A c (x : Int) w1 hpl (by have := Hm.out; omega) ((HL2.out.r.below hw1 hB0).more (Nat.le_trans hB0 hw1.size)) (CRead.of_own (own_below hto hw1 (Nat.le_refl _)))
            rw [Hm.out] at h
            exact h
          have hGx : G x = if hasTo (adj pl) (ofTold q) m m (x : Int) then [] else growC (adj pl) most k (q ++ [(x : Int)]) := by rw [← HG.out, Hm.out]
          have hflat : (List.range (x + 1)).flatMap G = (List.range x).flatMap G ++ G x := by rw [List.range_succ, List.flatMap_append, List.flatMap_cons, List.flatMap_nil, List.append_nil]
          have hpbl : pb < wr.heap.size := World.block_lt_of_cell? wr _ q1
          have hbll : bl < wr.heap.size := World.block_lt_of_cell? wr _ f1
          cases hh2 : hasTo (adj pl) (ofTold q) m m (x : Int) with
          | true =>
            rw [hh2] at hfree hGx
            rw [if_pos rfl] at hGx
            rw [hGx, List.append_nil] at hflat
            simp only [Bool.not_true] at hfree
            have qe : ∀ z : Ext wr.heap.size wr, z.val.cell? ⟨pb, 1, none⟩ = some (.slice A0 pl.length c0) := fun z => z.cell q1 hpbl
            have freeE : ∀ z : Ext wr.heap.size wr, Calls Try.prog 82 #[.slice A0 pl.length c0, .slice A m c, .int .i64 x] z.val fun e w' => e = .returned (.bool false) ∧ Below z.val.heap.size z.val w' := fun z => hfree z.val z.below
            have FreeE := Lib.hid freeE
            have Hflat := Lib.hid hflat
            clear hflat hfree hGx hh2 freeE
            go_wp2_with fail
            refine wp_region_ext wr.heap.size (by kernel_rfl) (by kernel_rfl) ?_
            repeat (go_big_quiet_step ((go_at_call 82; exact Calls.ext_of ((FreeE.out _).mono fun _ _ h => ⟨h.1, h.2.mono (Ext.size _)⟩))))
            refine wpQuiet_nil ?_
            rintro w1 ⟨⟨_, hb1⟩, rfl⟩
            clear qe
            have fin := Hyes.out.over hh hR hB hb1
            have Fin := Lib.hid fin
            clear fin
            go_wp2
            go_roundw
            case rel => exact ⟨x + 1, by omega, by go_num, by rw [Hflat.out]; exact Fin.out⟩
            case measure => simp [intOf]; omega
          | false =>
            rw [hh2] at hfree hGx
            rw [if_neg (by simp)] at hGx
            simp only [Bool.not_false] at hfree
            rw [hGx] at hflat
            have hu2 := usedC_snoc q (x : Int)
            rw [Hu.out, Int.toNat_natCast] at hu2
            have hll : (q ++ [(x : Int)]).length = m + 1 := by rw [List.length_append, Hm.out]; rfl
            have hgd2 : ∀ qq, qq <+: growC (adj pl) most k (q ++ [(x : Int)]) → Good (pre ++ (List.range x).flatMap G ++ qq) := fun qq hq => by
              rw [List.append_assoc]
              refine HGD.out _ ?_
              have h1 := flat_prefix (G := G) hlt
              rw [hGx] at h1
              exact ((List.prefix_append_right_inj _).2 hq).trans h1
            have hAq : ∀ k, (Value.slice A q.length c).ownBlock = some k → S k := by rw [Hm.out]; exact hA
            have hll0 : (q ++ [(x : Int)]).length = q.length + 1 := by simp
            have hMm : M ≤ m + 1 := by have := HM.out; omega
            have callC : ∀ vI : Int, ((usedC (q ++ [(x : Int)]) : Nat) : Int) = vI → ∀ (wf : World) (o : Obj), Below wr.heap.size wr wf → ∀ (A1 : Option Addr) (c1 : Nat) (w1 : World), Grew (wf.alloc o) w1 A A1 c c1 q (x : Int) →
                Calls Try.prog 81 #[.slice A1 (q.length + 1) c1, .int .i64 vI, .pointer (some ⟨pb, 0, none⟩), .pointer (some ⟨yb, 0, none⟩), .pointer (some ⟨cb, 0, none⟩), .pointer (some ⟨bl, 0, none⟩)] w1 fun e w2 =>
                  ∃ ok, e = .returned (.bool ok) ∧ LookPost J Jx R S A c q pre ((List.range (x + 1)).flatMap G) W ok w2 := by
              rintro vI rfl wf o hwf A1 c1 w1 G1
              have hX : Below wr.heap.size wr (wf.alloc o) := hwf.alloc hwf.size _
              obtain ⟨⟨S2, e1, e2, e3, e4⟩, e5, e6, e7⟩ := Hyes.out.step hh hAq hS hR hB hX G1
              have ihc := ih (q ++ [(x : Int)]) A1 c1 S2 (pre ++ (List.range x).flatMap G) w1 (by rw [hll]; omega) (by rw [hll, hu2]; omega) hgd2 e6 (HL0.out.of (fun j hj => (e5 j hj).trans (Hyes.out.ro j hj)) h1 h2 h3 h4 h5) e1 G1.new e4 (fun j hj => (e3 j hj).elim (hS j) (fun h => by omega))
              rw [hll0] at ihc
              refine ihc.mono ?_
              rintro e w2 ⟨ok, rfl, hpost⟩
              refine ⟨ok, rfl, ?_⟩
              rw [hflat]
              cases ok
              · obtain ⟨S', qq, y, hq, hx⟩ := hpost
                exact ⟨S', (List.range x).flatMap G ++ qq, y, by rw [List.append_assoc]; exact (List.prefix_append_right_inj _).2 hq, by simpa [List.append_assoc] using hx⟩
              · show LookYes J R S A c q (pre ++ _) W w2
                rw [← List.append_assoc]
                exact Hyes.out.next hAq hS hR hB hX G1 e2 e3 hpost
            have g1 : ∀ V V' : World, Below wr.heap.size wr V → Below V.heap.size V V' → V'.cell? ⟨bl, 0, none⟩ = some (colV pb yb cb bl) ∧ (∀ o, (V'.alloc o).cell? ⟨bl, 0, none⟩ = some (colV pb yb cb bl)) := fun V V' h h' => by
              have hk := h.trans (h'.mono h.size)
              exact ⟨carry hk f1 hbll, fun o => carry (hk.alloc hk.size o) f1 hbll⟩
            have g2 : ∀ (wf : World) (o : Obj), Below wr.heap.size wr wf → ∀ (A1 : Option Addr) (c1 : Nat) (w1 : World), Grew (wf.alloc o) w1 A A1 c c1 q (x : Int) → w1.cell? ⟨bl, 0, none⟩ = some (colV pb yb cb bl) := fun wf o hwf A1 c1 w1 G1 => by
              have hX : Below wr.heap.size wr (wf.alloc o) := hwf.alloc hwf.size _
              obtain ⟨_, e5, _, _⟩ := Hyes.out.step hh hAq hS hR hB hX G1
              exact (HL0.out.of (fun j hj => (e5 j hj).trans (Hyes.out.ro j hj)) h1 h2 h3 h4 h5).k
            have HG2 := Lib.hid g2
            clear g2
            have kD : Below wr.heap.size wr wr.drew := (Below.refl _ _).drew
            have hfin : ∀ S' qq y w2, qq ++ [y] <+: (List.range (x + 1)).flatMap G → Jx S' (pre ++ (qq ++ [y])) w2 → LookPost J Jx R S A c q pre ((List.range M).flatMap G) W false w2 := fun S' qq y w2 h1 h2 => by
              refine ⟨S', qq, y, h1.trans ?_, h2⟩
              rw [hflat, ← hGx]
              exact flat_prefix (G := G) hlt
            have hv : ((usedC (q ++ [(x : Int)]) : Nat) : Int) = (if (u : Int) < IntKind.i64.wrap ((x : Int) + 1) then IntKind.i64.wrap ((x : Int) + 1) else (u : Int)) := by
              rw [hu2, wrap_le (by omega) (by omega)]
              split <;> omega
            have callV := callC _ hv
            have HG1 := Lib.hid g1
            have Hto := Lib.hid hto
            have Hfree := Lib.hid hfree
            have KD := Lib.hid kD
            have Hfin := Lib.hid hfin
            have CallV := Lib.hid callV
            have hm12 : m ≤ 12 := by omega
            clear hflat hfree hGx hh2 hgd2 hll hu2 g1 hto kD hfin callC callV hll0 hAq hMm hv
            go_wp2_with fail
            refine wp_region_any (by kernel_rfl) ?_
            change wpAny _ _ _ _ _ _ _ wr.drew
            refine wpAny_take (i := 0) (v := ?v0b) rfl (by kernel_rfl) (by kernel_rfl) (by kernel_rfl) (fun _ _ _ h => h) (Or.inl ⟨by first | kernel_rfl | rfl, ?hy0b⟩) ?rest0b
            case hy0b => (intro w; go_simp; all_goals (with_reducible rfl))
            refine wpAny_take (i := 2) (v := ?v2b) rfl (by kernel_rfl) (by kernel_rfl) (by kernel_rfl) (fun _ _ _ h => h) (Or.inl ⟨by first | kernel_rfl | rfl, ?hy2b⟩) ?rest2b
            case hy2b => (intro w; go_simp; all_goals (with_reducible rfl))
            refine wpAny_take (i := 3) (v := ?v3b) rfl (by kernel_rfl) (by kernel_rfl) (by kernel_rfl) (fun _ _ _ h => h) (Or.inl ⟨by first | kernel_rfl | rfl, ?hy3b⟩) ?rest3b
            case hy3b => (intro w; go_simp; all_goals (with_reducible rfl))
            refine wpAny_ready (rs := [1]) (by kernel_rfl) (by simp) ?_
            refine AllReady.cons rfl (fun K hK => ?_) AllReady.nil
            rw [if_pos (by kernel_rfl)]
            go_simp
            refine hK _ _ ?_
            clear hK K
            refine wpAny_ready (rs := [4]) (by kernel_rfl) (by simp) ?_
            refine AllReady.cons rfl (fun K hK => ?_) AllReady.nil
            rw [if_pos (by kernel_rfl)]
            go_simp
            go_at_call 82
            refine (Hfree.out _ KD.out).mono ?_
            rintro e wf ⟨rfl, hbf⟩
            obtain ⟨cbl, cbo⟩ := HG1.out _ _ KD.out hbf
            have Kf := Lib.hid (KD.out.trans (hbf.mono (Nat.le_refl _)))
            clear hbf
            try go_simp
            refine hK _ _ ?_
            clear hK K
            refine wpAny_take (i := 5) (v := ?v5b) rfl (by kernel_rfl) (by kernel_rfl) (by kernel_rfl) (fun _ _ _ h => h) (Or.inl ⟨by first | kernel_rfl | rfl, ?hy5b⟩) ?rest5b
            case hy5b => (intro w; go_simp; all_goals (with_reducible rfl))
            refine wpAny_take (i := 7) (v := ?v7b) rfl (by kernel_rfl) (by kernel_rfl) (by kernel_rfl) (fun _ _ _ h => h) (Or.inl ⟨by first | kernel_rfl | rfl, ?hy7b⟩) ?rest7b
            case hy7b => (intro w; go_simp; all_goals (with_reducible rfl))
            refine wpAny_take (i := 8) (v := ?v8b) rfl (by kernel_rfl) (by kernel_rfl) (by kernel_rfl) (fun _ _ _ h => h) (Or.inl ⟨by first | kernel_rfl | rfl, ?hy8b⟩) ?rest8b
            case hy8b => (intro w; go_simp; all_goals (with_reducible rfl))
            refine wpAny_take (i := 11) (v := ?v11b) rfl (by kernel_rfl) (by kernel_rfl) (by kernel_rfl) (fun _ _ _ h => h) (Or.inl ⟨by first | kernel_rfl | rfl, ?hy11b⟩) ?rest11b
            case hy11b => (intro w; go_simp; all_goals (with_reducible rfl))
            refine wpAny_take (i := 12) (v := ?v12b) rfl (by kernel_rfl) (by kernel_rfl) (by kernel_rfl) (fun _ _ _ h => h) (Or.inl ⟨by first | kernel_rfl | rfl, ?hy12b⟩) ?rest12b
            case hy12b => (intro w; go_simp; all_goals (with_reducible rfl))
            refine wpAny_take (i := 13) (v := ?v13b) rfl (by kernel_rfl) (by kernel_rfl) (by kernel_rfl) (fun _ _ _ h => h) (Or.inl ⟨by first | kernel_rfl | rfl, ?hy13b⟩) ?rest13b
            case hy13b => (intro w; go_simp; all_goals (with_reducible rfl))
            refine wpAny_take (i := 14) (v := ?v14b) rfl (by kernel_rfl) (by kernel_rfl) (by kernel_rfl) (fun _ _ _ h => h) (Or.inl ⟨by first | kernel_rfl | rfl, ?hy14b⟩) ?rest14b
            case hy14b => (intro w; go_simp; all_goals (with_reducible rfl))
            refine wpAny_ready (rs := [6, 9]) (by kernel_rfl) (by simp) ?_
            refine AllReady.cons rfl (fun K hK => ?_) (AllReady.cons rfl (fun K hK => ?_) AllReady.nil)
            · skip
              rw [if_pos (by kernel_rfl)]
              go_simp
              refine hK _ _ ?_
              clear hK K
              refine wpAny_ready (rs := [9]) (by kernel_rfl) (by simp) ?_
              refine AllReady.cons rfl (fun K hK => ?_) AllReady.nil
              rw [if_pos (by kernel_rfl)]
              go_simp
              refine hK _ _ ?_
              clear hK K
              refine wpAny_ready (rs := [10]) (by kernel_rfl) (by simp) ?_
              refine AllReady.cons rfl (fun K hK => ?_) AllReady.nil
              refine step_append_told_g (by kernel_rfl) _ _ (by rfl) A c q (x : Int) (by rw [Hm.out]; rfl) (own_below Hto.out (Kf.out.alloc Kf.out.size _) (Nat.le_refl _)) ⟨wf.heap.size, 0, none⟩ (by rfl) (one_cell (by simp)) (by have := Hm.out; omega) ?_
              intro A1 c1 w1 G1
              have c1l := HG2.out wf _ Kf.out A1 c1 w1 G1
              have call1 := CallV.out wf _ Kf.out A1 c1 w1 G1
              have Call1 := Lib.hid call1
              clear call1
              refine hK _ _ ?_
              clear hK K
              refine wpAny_ready (rs := [15]) (by kernel_rfl) (by simp) ?_
              refine AllReady.cons rfl (fun K hK => ?_) AllReady.nil
              rw [if_pos (by kernel_rfl)]
              go_simp
              refine Call1.out.mono ?_
              rintro e w2 ⟨ok, rfl, hpost⟩
              try go_simp
              refine hK _ _ ?_
              clear hK K
              refine wpAny_ready (rs := [16]) (by kernel_rfl) (by simp) ?_
              refine AllReady.cons rfl (fun K hK => ?_) AllReady.nil
              rw [if_pos (by kernel_rfl)]
              go_simp
              refine hK _ _ ?_
              clear hK K
              refine wpAny_ready (rs := [17]) (by kernel_rfl) (by simp) ?_
              refine AllReady.cons rfl (fun K hK => ?_) AllReady.nil
              rw [if_pos (by kernel_rfl)]
              go_simp
              refine hK _ _ ?_
              clear hK K
              refine wpAny_done (by kernel_rfl) ?_ _
              generalize (if (u : Int) < IntKind.i64.wrap ((x : Int) + 1) then IntKind.i64.wrap ((x : Int) + 1) else (u : Int)) = vv
              cases ok
              · obtain ⟨S', qq, y, hq, hx⟩ := hpost
                have fin := Hfin.out S' qq y w2 hq hx
                have Fin := Lib.hid fin
                clear fin hq hx
                go_wp2
                go_ret
                first | exact ⟨false, rfl, Fin.out⟩ | exact .inl ⟨rfl, Fin.out⟩
              · have fin : LookYes J R S A c q (pre ++ (List.range (x + 1)).flatMap G) W w2 := hpost
                have Fin := Lib.hid fin
                clear fin hpost
                go_wp2
                go_roundw
                case rel => exact ⟨x + 1, by omega, by go_num, Fin.out⟩
                case measure => simp [intOf]; omega
            · skip
              rw [if_pos (by kernel_rfl)]
              go_simp
              refine hK _ _ ?_
              clear hK K
              refine wpAny_ready (rs := [6, 10]) (by kernel_rfl) (by simp) ?_
              refine AllReady.cons rfl (fun K hK => ?_) (AllReady.cons rfl (fun K hK => ?_) AllReady.nil)
              · skip
                rw [if_pos (by kernel_rfl)]
                go_simp
                refine hK _ _ ?_
                clear hK K
                refine wpAny_ready (rs := [10]) (by kernel_rfl) (by simp) ?_
                refine AllReady.cons rfl (fun K hK => ?_) AllReady.nil
                refine step_append_told_g (by kernel_rfl) _ _ (by rfl) A c q (x : Int) (by rw [Hm.out]; rfl) (own_below Hto.out (Kf.out.alloc Kf.out.size _) (Nat.le_refl _)) ⟨wf.heap.size, 0, none⟩ (by rfl) (one_cell (by simp)) (by have := Hm.out; omega) ?_
                intro A1 c1 w1 G1
                have c1l := HG2.out wf _ Kf.out A1 c1 w1 G1
                have call1 := CallV.out wf _ Kf.out A1 c1 w1 G1
                have Call1 := Lib.hid call1
                clear call1
                refine hK _ _ ?_
                clear hK K
                refine wpAny_ready (rs := [15]) (by kernel_rfl) (by simp) ?_
                refine AllReady.cons rfl (fun K hK => ?_) AllReady.nil
                rw [if_pos (by kernel_rfl)]
                go_simp
                refine Call1.out.mono ?_
                rintro e w2 ⟨ok, rfl, hpost⟩
                try go_simp
                refine hK _ _ ?_
                clear hK K
                refine wpAny_ready (rs := [16]) (by kernel_rfl) (by simp) ?_
                refine AllReady.cons rfl (fun K hK => ?_) AllReady.nil
                rw [if_pos (by kernel_rfl)]
                go_simp
                refine hK _ _ ?_
                clear hK K
                refine wpAny_ready (rs := [17]) (by kernel_rfl) (by simp) ?_
                refine AllReady.cons rfl (fun K hK => ?_) AllReady.nil
                rw [if_pos (by kernel_rfl)]
                go_simp
                refine hK _ _ ?_
                clear hK K
                refine wpAny_done (by kernel_rfl) ?_ _
                generalize (if (u : Int) < IntKind.i64.wrap ((x : Int) + 1) then IntKind.i64.wrap ((x : Int) + 1) else (u : Int)) = vv
                cases ok
                · obtain ⟨S', qq, y, hq, hx⟩ := hpost
                  have fin := Hfin.out S' qq y w2 hq hx
                  have Fin := Lib.hid fin
                  clear fin hq hx
                  go_wp2
                  go_ret
                  first | exact ⟨false, rfl, Fin.out⟩ | exact .inl ⟨rfl, Fin.out⟩
                · have fin : LookYes J R S A c q (pre ++ (List.range (x + 1)).flatMap G) W w2 := hpost
                  have Fin := Lib.hid fin
                  clear fin hpost
                  go_wp2
                  go_roundw
                  case rel => exact ⟨x + 1, by omega, by go_num, Fin.out⟩
                  case measure => simp [intOf]; omega
              · skip
                refine step_append_told_g (by kernel_rfl) _ _ (by rfl) A c q (x : Int) (by rw [Hm.out]; rfl) (own_below Hto.out (Kf.out.alloc Kf.out.size _) (Nat.le_refl _)) ⟨wf.heap.size, 0, none⟩ (by rfl) (one_cell (by simp)) (by have := Hm.out; omega) ?_
                intro A1 c1 w1 G1
                have c1l := HG2.out wf _ Kf.out A1 c1 w1 G1
                have call1 := CallV.out wf _ Kf.out A1 c1 w1 G1
                have Call1 := Lib.hid call1
                clear call1
                refine hK _ _ ?_
                clear hK K
                refine wpAny_ready (rs := [6]) (by kernel_rfl) (by simp) ?_
                refine AllReady.cons rfl (fun K hK => ?_) AllReady.nil
                rw [if_pos (by kernel_rfl)]
                go_simp
                refine hK _ _ ?_
                clear hK K
                refine wpAny_ready (rs := [15]) (by kernel_rfl) (by simp) ?_
                refine AllReady.cons rfl (fun K hK => ?_) AllReady.nil
                rw [if_pos (by kernel_rfl)]
                go_simp
                refine Call1.out.mono ?_
                rintro e w2 ⟨ok, rfl, hpost⟩
                try go_simp
                refine hK _ _ ?_
                clear hK K
                refine wpAny_ready (rs := [16]) (by kernel_rfl) (by simp) ?_
                refine AllReady.cons rfl (fun K hK => ?_) AllReady.nil
                rw [if_pos (by kernel_rfl)]
                go_simp
                refine hK _ _ ?_
                clear hK K
                refine wpAny_ready (rs := [17]) (by kernel_rfl) (by simp) ?_
                refine AllReady.cons rfl (fun K hK => ?_) AllReady.nil
                rw [if_pos (by kernel_rfl)]
                go_simp
                refine hK _ _ ?_
                clear hK K
                refine wpAny_done (by kernel_rfl) ?_ _
                generalize (if (u : Int) < IntKind.i64.wrap ((x : Int) + 1) then IntKind.i64.wrap ((x : Int) + 1) else (u : Int)) = vv
                cases ok
                · obtain ⟨S', qq, y, hq, hx⟩ := hpost
                  have fin := Hfin.out S' qq y w2 hq hx
                  have Fin := Lib.hid fin
                  clear fin hq hx
                  go_wp2
                  go_ret
                  first | exact ⟨false, rfl, Fin.out⟩ | exact .inl ⟨rfl, Fin.out⟩
                · have fin : LookYes J R S A c q (pre ++ (List.range (x + 1)).flatMap G) W w2 := hpost
                  have Fin := Lib.hid fin
                  clear fin hpost
                  go_wp2
                  go_roundw
                  case rel => exact ⟨x + 1, by omega, by go_num, Fin.out⟩
                  case measure => simp [intOf]; omega
        · have hge : ¬ (x : Int) < ((M : Nat) : Int) := by omega
          have hxe : x = M := by omega
          subst hxe
          have fin := Hyes.out
          clear Hyes hL2
          go_wp2
          go_ret
          first | exact ⟨true, rfl, fin⟩ | exact .inr ⟨rfl, fin⟩
end
end Go.Proofs.Ythddlpghjkiioaa
/-
  THE PROGRAM's ITERATOR OVER COLOURINGS ('allColourings'): its contract, in the form that the law of the statement takes.
-/
namespace Go.Proofs.Ythddlpghjkiioaa
open Go.RowKit Go.Shelf

theorem Seq.moreC {α : Type} {P : Program} {g : Nat} {lb : Array Value} {R R' : Nat → Prop} {Rd : (Nat → Prop) → α → Array Value → World → Prop} {xs : List α} {w0 : World} (h : Seq P g lb R Rd xs w0) (hR : ∀ j, R j → R' j) : Seq P g lb R' Rd xs w0 :=
  fun l J Jx W hW hh hY h0 => h l J Jx W hW hh (fun T pre x args W1 hJ hrd hpx => YieldAt.mono (hY T pre x args W1 hJ hrd hpx) fun _ _ hp =>
    hp.elim (fun ⟨he, hj, hs⟩ => .inl ⟨he, hj, hs.mono fun j hj => hj.elim .inl fun hr => .inr (hR j hr)⟩) .inr) h0
/-- what a round is handed: a list told, in a block of the iterator's own, and how many colours it has -/
def RdC (S : Nat → Prop) (told : List Int) (args : Array Value) (W : World) : Prop := ∃ A c, args = #[.slice A told.length c, .int .i64 (usedC told)] ∧ World.told W A c told ∧ (∀ k, (Value.slice A told.length c).ownBlock = some k → S k) ∧ told.length ≤ 100
theorem RdC.stays {S : Nat → Prop} {told : List Int} {args : Array Value} {A C : World} (h : RdC S told args A) (hs : Stays S A C) : RdC S told args C := by
  obtain ⟨B, c, e, ht, hk, h100⟩ := h
  exact ⟨B, c, e, told_kept ht fun k hb => hs.same k (own_lies ht k hb).2 (hk k hb), hk, h100⟩
theorem RdC.two {S : Nat → Prop} {told : List Int} {args : Array Value} {A : World} (h : RdC S told args A) : args.size = 2 := by
  obtain ⟨B, c, e, _⟩ := h
  rw [e]; rfl

set_option maxHeartbeats 1000000 in
set_option maxRecDepth 100000 in
theorem col_seq {n most : Nat} {pl : PL} {A0 : Option Addr} {c0 : Nat} (hpl : pl.length ≤ 1048576) (hp : isP n pl = true) (hn12 : n ≤ 12) (hm12 : most ≤ 12) {bp bc B0 : Nat} {w0 : World} (hB0 : B0 ≤ w0.heap.size)
    (hp0 : w0.cell? ⟨bp, 0, none⟩ = some (.int .i64 n)) (hp1 : w0.cell? ⟨bp, 1, none⟩ = some (.slice A0 pl.length c0)) (hc : w0.cell? ⟨bc, 0, none⟩ = some (.int .i64 most)) (hr : CRead w0 B0 A0 (pcells pl)) :
    Seq Try.prog 80 #[.pointer (some ⟨bp, 0, none⟩), .pointer (some ⟨bc, 0, none⟩)] (fun j => j < B0 ∨ j = bp ∨ j = bc) RdC (growC (adj pl) most n []) w0 := by
  intro l J Jx W hW hh hY h0
  have lbp : bp < w0.heap.size := World.block_lt_of_cell? w0 _ hp0
  have lbc : bc < w0.heap.size := World.block_lt_of_cell? w0 _ hc
  have hsz := hW.size
  show Calls Try.prog 80 #[.func (.yield l) #[] #[], .pointer (some ⟨bp, 0, none⟩), .pointer (some ⟨bc, 0, none⟩)] W _
  have q0 := carry hW hp0 lbp
  have q1 := carry hW hp1 lbp
  have qc := carry hW hc lbc
  have qr := hr.below hW hB0
  clear hp0 hp1 hc
  obtain ⟨W2, hW2⟩ : ∃ W2, (W.alloc (Obj.cells #[.func (.yield l) #[] #[]] 82)).alloc (Obj.cells #[colV bp W.heap.size bc (W.heap.size + 1)] 82) = W2 := ⟨_, rfl⟩
  have z2 : W2.heap.size = W.heap.size + 2 := by rw [← hW2]; simp
  have b2 : Below W.heap.size W W2 := by rw [← hW2]; go_grown
  have y2 : W2.cell? ⟨W.heap.size, 0, none⟩ = some (.func (.yield l) #[] #[]) := by rw [← hW2]; exact (World.cell?_alloc_lt _ _ _ (by simp)).trans (by simp)
  have k2 : W2.cell? ⟨W.heap.size + 1, 0, none⟩ = some (colV bp W.heap.size bc (W.heap.size + 1)) := by
    rw [← hW2]
    have := heap_alloc_new (W.alloc (Obj.cells #[.func (.yield l) #[] #[]] 82)) (Obj.cells #[colV bp W.heap.size bc (W.heap.size + 1)] 82)
    rw [World.size_alloc] at this
    rw [cell_of_row _ _ _ _ _ _ this]
    rfl
  have at2 : ColAt W2 l n pl A0 c0 most B0 bp W.heap.size bc (W.heap.size + 1) := ⟨carry b2 q0 (by omega), carry b2 q1 (by omega), y2, carry b2 qc (by omega), k2, qr.below b2 (by omega)⟩
  have hJ2 : J (fun j => j = W.heap.size ∨ j = W.heap.size + 1) [] W2 := hh _ _ _ _ _ h0 (Apart.of_below b2) (fun j hj => .inr (by omega))
  have call := col_look (Good := fun q => q <+: growC (adj pl) most n []) (J := fun S pre X => J (fun j => S j ∨ j = W.heap.size ∨ j = W.heap.size + 1) pre X) (Jx := fun S pre X => Jx (fun j => S j ∨ j = W.heap.size ∨ j = W.heap.size + 1) pre X)
    (R := fun j => (j < B0 ∨ j = bp ∨ j = bc) ∨ j = W.heap.size ∨ j = W.heap.size + 1) (B := W.heap.size + 2) (l := l) (n := n) (pl := pl) (A0 := A0) (c0 := c0) (most := most) (B0 := B0) (pb := bp) (yb := W.heap.size) (cb := bc) (bl := W.heap.size + 1)
    (fun j hj => by omega)
    (fun S pre told A c W1 hj htold hk h100 hgd => by
      refine YieldAt.mono (hY _ pre told _ W1 hj ⟨A, c, rfl, htold, fun k hb => .inl (hk k hb), h100⟩ hgd) fun e W' h => ?_
      rcases h with ⟨he, hj', hst⟩ | h
      · exact .inl ⟨he, hj', hst.mono fun j hj => by rcases hj with h | h | h; exact .inl (.inl h); exact .inr h; exact .inl (.inr h)⟩
      · exact .inr h)
    (fun S S' pre A C hj hap hS => hh _ _ _ _ _ hj (hap.mono fun j h => .inl h) (fun j h => by
      rcases h with h | h
      · exact (hS j h).imp .inl id
      · exact .inl (.inr h)))
    (.inl (.inr (.inl rfl))) (.inr (.inl rfl)) (.inl (.inr (.inr rfl))) (.inr (.inr rfl)) (fun j hj => .inl (.inl hj)) hpl hp hn12 hm12 n [] none 0 (fun _ => False) [] W2
    (by simp) (by simp [usedC_nil]) (fun q hq => hq) (by omega) at2 (hh _ _ _ _ _ hJ2 (Apart.refl _ _) (fun j hj => by rcases hj with h | h; exact h.elim; exact .inl h)) (World.ownsRow_nil _ _ _ _) (fun k hk => by simp [Value.ownBlock] at hk) (fun j h => h.elim)
  rw [usedC_nil] at call
  have Call := Lib.hid call
  have HW2 := Lib.hid hW2
  clear call hW2 at2 hJ2 y2 k2 q0 q1 qc qr hY hh hr
  go_enter Try.func80, Try.ntmps80
  go_wp2_with fail
  rw [HW2.out]
  refine Call.out.mono ?_
  rintro e W3 ⟨ok, rfl, hpost⟩
  go_wp2
  go_end0
  refine ⟨⟨_, rfl⟩, ?_⟩
  cases ok
  · obtain ⟨S', q, x, hq, hx⟩ := hpost
    exact .inr ⟨_, q, x, hq, hx⟩
  · obtain ⟨S', hj, _⟩ := hpost.ex
    exact .inl ⟨_, hj⟩
set_option maxHeartbeats 1000000 in
/-- A call of the iterator's maker, with all that its loop wants. -/
theorem allColourings_got {n most : Nat} {pl : PL} {A0 : Option Addr} {c0 : Nat} (hpl : pl.length ≤ 1048576) (hp : isP n pl = true) (hn12 : n ≤ 12) (hm12 : most ≤ 12) {B0 : Nat} (w : World) (hB0 : B0 ≤ w.heap.size) (hr : CRead w B0 A0 (pcells pl)) :
    Calls Try.prog 60 #[.agg #[.int .i64 n, .slice A0 pl.length c0], .int .i64 most] w fun e w1 =>
      ∃ lb, e = .returned (.func (.func 80) #[] lb) ∧ Below w.heap.size w w1 ∧ w1.heap.size = w.heap.size + 2 ∧ Seq Try.prog 80 lb (fun j => j < B0 ∨ w.heap.size ≤ j ∧ j < w1.heap.size) RdC (growC (adj pl) most n []) w1 := by
  obtain ⟨X, hX⟩ : ∃ X, (w.alloc (.cells #[.int .i64 n, .slice A0 pl.length c0] 25)).alloc (.cells #[.int .i64 most] 3) = X := ⟨_, rfl⟩
  have kX : Below w.heap.size w X := by rw [← hX]; go_grown
  have sX : X.heap.size = w.heap.size + 2 := by rw [← hX]; simp
  have h1 : X.heap[w.heap.size]? = some (.cells #[.int .i64 n, .slice A0 pl.length c0] 25) := by
    rw [← hX]
    exact (Below.heap_alloc _ _ _ (by simp)).trans (heap_alloc_new w _)
  have h2 : X.heap[w.heap.size + 1]? = some (.cells #[.int .i64 most] 3) := by
    rw [← hX]
    have h := heap_alloc_new (w.alloc (.cells #[.int .i64 n, .slice A0 pl.length c0] 25)) (.cells #[.int .i64 most] 3)
    rwa [World.size_alloc] at h
  have seq := (col_seq hpl hp hn12 hm12 (bp := w.heap.size) (bc := w.heap.size + 1) (B0 := B0) (w0 := X) (by omega) (by rw [cell_of_row _ _ _ _ _ _ h1]; rfl) (by rw [cell_of_row _ _ _ _ _ _ h1]; rfl) (by rw [cell_of_row _ _ _ _ _ _ h2]; rfl) (hr.below kX hB0)).moreC (R' := fun j => j < B0 ∨ w.heap.size ≤ j ∧ j < X.heap.size) (fun j hj => by omega)
  have HX := Lib.hid hX
  have Seq1 := Lib.hid seq
  have KX := Lib.hid kX
  clear hX seq kX h1 h2
  go_enter Try.func60, Try.ntmps60
  go_wp2
  go_ret
  exact ⟨_, rfl, by first | (rw [HX.out]; exact ⟨KX.out, sX, Seq1.out⟩) | exact ⟨KX.out, sX, Seq1.out⟩⟩
end Go.Proofs.Ythddlpghjkiioaa
/-
  THE PROGRAM's RECURSIVE CLOSURE THAT GOES THROUGH THE LISTS OF PEOPLE WHO ARE TIED, walked.
-/
namespace Go.Proofs.Ythddlpghjkiioaa
open Go.RowKit Go.Shelf
attribute [local go_sem] Oper.semAt_some

theorem clear_bit {j a : Nat} (hj : j < 65536) (ha : a < 16) : bits BinOp.andNot IntKind.u16 (j : Int) (IntKind.u16.wrap (2 ^ min a 16)) = ((j &&& (65535 - 2 ^ a) : Nat) : Int) := by
  have h2 : 2 ^ a < 2 ^ 16 := Nat.pow_lt_pow_right (by omega) ha
  rw [show (2 : Nat) ^ 16 = 65536 from rfl] at h2
  have e : IntKind.u16.wrap (2 ^ min a 16) = ((2 ^ a : Nat) : Int) := by
    obtain ⟨m, hm⟩ : ∃ m, 2 ^ a = m := ⟨_, rfl⟩
    rw [Nat.min_eq_left (by omega), IntKind.wrap_u16, show (2 : Int) ^ a = ((2 ^ a : Nat) : Int) from by simp, hm]
    rw [hm] at h2
    omega
  rw [e, u16_andNot_nat j _ hj h2]

end Go.Proofs.Ythddlpghjkiioaa
/-
  THE PROGRAM's ITERATOR OVER LISTS OF TIED PEOPLE ('allTied'): its contract, in the form that the law of the statement takes.
-/
namespace Go.Proofs.Ythddlpghjkiioaa
open Go.RowKit

/-- ties as the program has them: twelve sets -/
def tcells (T : Nat → Nat) : Array Value := #[.int .u16 (T 0), .int .u16 (T 1), .int .u16 (T 2), .int .u16 (T 3), .int .u16 (T 4), .int .u16 (T 5), .int .u16 (T 6), .int .u16 (T 7), .int .u16 (T 8), .int .u16 (T 9), .int .u16 (T 10), .int .u16 (T 11)]
theorem tcells_at (T : Nat → Nat) : ∀ a, a < 12 → (tcells T)[a]? = some (.int .u16 (T a)) := by
  intro a ha
  match a, ha with
  | 0, _ => rfl
  | 1, _ => rfl
  | 2, _ => rfl
  | 3, _ => rfl
  | 4, _ => rfl
  | 5, _ => rfl
  | 6, _ => rfl
  | 7, _ => rfl
  | 8, _ => rfl
  | 9, _ => rfl
  | 10, _ => rfl
  | 11, _ => rfl
/-- sets of people that tell who is tied to whom -/
structure TiesOf (T : Nat → Nat) (t : Nat → Nat → Bool) : Prop where
  bit : ∀ a b, a < 12 → b < 16 → (T a).testBit b = t a b
  lt : ∀ a, a < 12 → T a < 65536

end Go.Proofs.Ythddlpghjkiioaa
/-
  A RANGE OVER AN ITERATOR, its body told besides that the loop's own two blocks lie below what it makes; the loop's variable assigned. Nothing here speaks of the program.
-/
namespace Go.Proofs.Ythddlpghjkiioaa
open Go.RowKit

variable {P : Program}
theorem wpIn_rangeFunc_iterG {α : Type} {n : Nat} {g : Operand} {ps : Array Tmp} {assign body : Code} {Q : Exit → Act → World → Prop} {a : Act} {w : World}
    {gf : Nat} {lb : Array Value} (hg : a.eval g = .func (.func gf) #[] lb) (eg : ∀ args w, (callFunc gf args).run P w = .ok (.enter gf args) w)
    {R : Nat → Prop} {Rd : (Nat → Prop) → α → Array Value → World → Prop} {xs : List α} {w0 : World} (hseq : Seq P gf lb R Rd xs w0) (hb0 : Below w0.heap.size w0 w) (hR : ∀ j, R j → j < w.heap.size)
    (hRd : ∀ T x args A C, Rd T x args A → Stays T A C → Rd T x args C) (hps : ∀ T x args W, Rd T x args W → args.size = ps.size)
    (I : (Nat → Prop) → List α → World → Prop) (Ix : Code → List α → World → Prop) (hI : Held I) (hIx : ∀ c pre A C, Ix c pre A → Apart (fun j => j = w.heap.size + 1) A C → Ix c pre C)
    (h0 : I (fun _ => False) [] w) (a₁ : Array Value → Act)
    (hassign : ∀ (l : Nat) (T : Nat → Prop) (x : α) (args : Array Value) (W : World) (K : Act → World → Prop), Rd T x args W → K (a₁ args) W →
      assign.wpIn (Fence.wide.inRound l) n P (Exit.then K (fun _ _ _ => False)) { tmps := (ps.zip args).foldl (fun t (p, v) => t.setIfInBounds p v) a.tmps, defers := [] } W)
    (hbody : ∀ (l : Nat) (T S : Nat → Prop) (pre : List α) (x : α) (args : Array Value) (W : World), I S pre W → Rd T x args W → (∀ j, T j → S j) → w.heap.size + 2 ≤ W.heap.size → (∀ j, T j → j < w.heap.size ∨ w.heap.size + 2 ≤ j) → pre ++ [x] <+: xs →
      body.wpIn (Fence.wide.inRound l) n P (iterPost w.heap.size S R I Ix (pre ++ [x]) W) (a₁ args) W)
    (hdone : ∀ (S : Nat → Prop) (W : World), I S xs W → W.heap[w.heap.size]? = some (.deferred (some [])) → Q .normal { a with defers := { target := .collected w.heap.size, args := #[] } :: a.defers } W)
    (hstop : ∀ (c : Code) (pre : List α) (x : α) (W : World), pre ++ [x] <+: xs → Ix c (pre ++ [x]) W → W.heap[w.heap.size]? = some (.deferred (some [])) → c.wpIn Fence.wide n P Q { a with defers := { target := .collected w.heap.size, args := #[] } :: a.defers } W) :
    (Code.rangeFunc g ps assign body).wpIn Fence.wide n P Q a w := by
  refine wpIn_rangeFunc ?_
  intro fn hfn
  rw [show Fence.wide.round = none from rfl]
  obtain ⟨rec, hrec⟩ : ∃ rec : LoopState → Option Code → Loop, rec = fun st pe => { state := st, pending := pe, fn, tmps := a.tmps, params := ps, assign, body, defers := w.heap.size } := ⟨_, rfl⟩
  obtain ⟨W1, hW1⟩ : ∃ W1, (w.alloc (.deferred (some []))).alloc (.loop (rec .ready none)) = W1 := ⟨_, rfl⟩
  have hL1 : W1.heap[w.heap.size + 1]? = some (.loop (rec .ready none)) := by
    rw [← hW1]; have := World.alloc_heap_new (w.alloc (.deferred (some []))) (.loop (rec .ready none)); rwa [World.size_alloc] at this
  have hK1 : W1.heap[w.heap.size]? = some (.deferred (some [])) := by
    rw [← hW1]; exact (Below.heap_alloc _ _ _ (by simp)).trans (World.alloc_heap_new w _)
  have hw1 : Below w.heap.size w W1 := by rw [← hW1]; exact (((Below.refl _ w).alloc (Nat.le_refl _) _).alloc (by simp) _)
  have hb1 : Below w0.heap.size w0 W1 := hb0.trans (hw1.mono hb0.size)
  have hz1 : W1.heap.size = w.heap.size + 2 := by rw [← hW1]; simp
  have hI1 : I (fun j => j = w.heap.size ∨ j = w.heap.size + 1) [] W1 := hI _ _ _ _ _ h0 (Apart.of_below hw1) (fun j hj => .inr (by omega))
  refine ⟨w.heap.size + 1, [{ target := .collected w.heap.size, args := #[] }], W1, { target := .fn (.func gf) lb, args := #[.func (.yield (w.heap.size + 1)) #[] #[]] }, W1, gf,
    #[.func (.yield (w.heap.size + 1)) #[] #[]] ++ lb, W1, ?_, ?_, ?_, ?_, fun h => (by cases h), ?_⟩
  · rw [← hW1, hrec]; exact run_enterLoop_outer _ _ _ _ _
  · simp only [resolve, hg]
    simp [go_sem]
  · intro f' hf'; trivial
  · simp [invoke, go_sem, eg]
  · refine callsIn_wide.2 ?_
    refine (hseq (w.heap.size + 1)
      (fun T pre W => I (fun j => T j ∨ j = w.heap.size ∨ j = w.heap.size + 1) pre W ∧ (∀ j, T j → w.heap.size + 2 ≤ j) ∧ W.heap[w.heap.size + 1]? = some (.loop (rec .ready none)) ∧ W.heap[w.heap.size]? = some (.deferred (some [])))
      (fun T pre W => ∃ c, Ix c pre W ∧ W.heap[w.heap.size + 1]? = some (.loop (rec .done (some c))) ∧ W.heap[w.heap.size]? = some (.deferred (some [])))
      W1 hb1 ?held ?round ⟨hI _ _ _ _ _ hI1 (Apart.refl _ _) (fun j hj => by rcases hj with h | h; exact h.elim; exact .inl h), fun j h => h.elim, hL1, hK1⟩).mono ?_
    case held =>
      rintro T T' pre A C ⟨hi, hT, hl, hk⟩ hA hT'
      have hlt : w.heap.size + 1 < A.heap.size := (Array.getElem?_eq_some_iff.1 hl).1
      refine ⟨hI _ _ _ _ _ hi (hA.mono fun j hj => .inl hj) (fun j hj => ?_), fun j hj => ?_, (hA.same _ hlt (fun h => by have := hT _ h; omega)).trans hl, (hA.same _ (by omega) (fun h => by have := hT _ h; omega)).trans hk⟩
      · rcases hj with hj | hj
        · rcases hT' j hj with h | h
          · exact .inl (.inl h)
          · exact .inr h
        · exact .inl (.inr hj)
      · rcases hT' j hj with h | h
        · exact hT j h
        · omega
    case round =>
      rintro T pre x args W ⟨hi, hT, hl, hk⟩ hrd hpx
      have hlt : w.heap.size + 1 < W.heap.size := (Array.getElem?_eq_some_iff.1 hl).1
      have hnT : ¬ T (w.heap.size + 1) := fun h => by have := hT _ h; omega
      have hnR : ¬ (T (w.heap.size + 1) ∨ R (w.heap.size + 1)) := fun h => by rcases h with h | h; exact hnT h; have := hR _ h; omega
      have hy := run_yield (P := P) (args := args) hl (by rw [hrec]; exact hps T x args W hrd)
      rw [hrec] at hy
      refine yield_any (m := n + 1) ⟨fn, _, assign, body, hy, roundIn_any (m := n) (roundIn_of_wpIn hfn (hassign _ T x args W _ hrd ⟨_, run_beginRound hl (by rw [hrec]), ?_⟩))⟩
      have hl2 : (W.putObj (w.heap.size + 1) (.loop { rec .ready none with state := .busy })).heap[w.heap.size + 1]? = some (.loop { rec .ready none with state := .busy }) := World.putObj_heap_same hlt
      have hk2 : (W.putObj (w.heap.size + 1) (.loop { rec .ready none with state := .busy })).heap[w.heap.size]? = some (.deferred (some [])) := (World.putObj_heap_other (by omega)).trans hk
      have hi2 := hI _ _ _ _ _ hi ((Apart.putObj W (w.heap.size + 1) (.loop { rec .ready none with state := .busy })).mono fun j hj => .inr (.inr hj)) (fun j hj => .inl hj)
      have hst := Stays.putObj (S := fun j => T j ∨ R j) hnR W (.loop { rec .ready none with state := .busy })
      have hlz := (Array.getElem?_eq_some_iff.1 hl2).1
      have hkz := (Array.getElem?_eq_some_iff.1 hk2).1
      refine wpIn_mono (hbody _ T _ pre x args _ hi2 (hRd _ _ _ _ _ hrd (hst.mono fun j hj => .inl hj)) (fun j hj => .inl hj) hlz (fun j hj => .inr (hT j hj)) hpx) ?_
      have fin : ∀ (jump : Option Code) (W3 : World), W3.heap[w.heap.size + 1]? = some (.loop { rec .ready none with state := .busy }) → W3.heap[w.heap.size]? = some (.deferred (some [])) →
          (Instr.endRound (w.heap.size + 1) jump).run P W3 = .ok (.bool jump.isNone) (W3.putObj (w.heap.size + 1) (.loop (rec (if jump.isNone then .ready else .done) jump))) ∧
          (W3.putObj (w.heap.size + 1) (.loop (rec (if jump.isNone then .ready else .done) jump))).heap[w.heap.size + 1]? = some (.loop (rec (if jump.isNone then .ready else .done) jump)) ∧
          (W3.putObj (w.heap.size + 1) (.loop (rec (if jump.isNone then .ready else .done) jump))).heap[w.heap.size]? = some (.deferred (some [])) := fun jump W3 hl3 hk3 => by
        have := run_endRound (P := P) jump hl3
        rw [hrec] at this ⊢
        exact ⟨this, World.putObj_heap_same (Array.getElem?_eq_some_iff.1 hl3).1, (World.putObj_heap_other (by omega)).trans hk3⟩
      rintro e a3 W3 hp
      cases e with
      | normal =>
        obtain ⟨hs3, hi3⟩ := hp
        have hl3 := (hs3.same (w.heap.size + 1) hlz (.inl (.inr (.inr rfl)))).trans hl2
        have hk3 := (hs3.same w.heap.size hkz (.inl (.inr (.inl rfl)))).trans hk2
        obtain ⟨hr, hl4, hk4⟩ := fin none W3 hl3 hk3
        refine ⟨_, _, hr, .inl ⟨rfl, ⟨hI _ _ _ _ _ hi3 ((Apart.putObj W3 _ _).mono fun j hj => .inr (.inr hj)) (fun j hj => .inl hj), hT, hl4, hk4⟩, ?_⟩⟩
        exact (hst.trans (hs3.mono fun j hj => hj.elim (fun h => .inl (.inl h)) .inr)).trans (Stays.putObj (S := fun j => T j ∨ R j) hnR W3 _)
      | ret =>
        obtain ⟨hs3, hi3⟩ := hp
        obtain ⟨hr, hl4, hk4⟩ := fin (some .ret) W3 ((hs3.same (w.heap.size + 1) hlz (by omega)).trans hl2) ((hs3.same w.heap.size hkz (by omega)).trans hk2)
        exact ⟨_, _, hr, .inr ⟨rfl, .ret, hIx _ _ _ _ hi3 (Apart.putObj W3 _ _), hl4, hk4⟩⟩
      | exit id =>
        obtain ⟨hs3, hi3⟩ := hp
        obtain ⟨hr, hl4, hk4⟩ := fin (some (.exit id)) W3 ((hs3.same (w.heap.size + 1) hlz (by omega)).trans hl2) ((hs3.same w.heap.size hkz (by omega)).trans hk2)
        exact ⟨_, _, hr, .inr ⟨rfl, .exit id, hIx _ _ _ _ hi3 (Apart.putObj W3 _ _), hl4, hk4⟩⟩
      | goto t =>
        obtain ⟨hs3, hi3⟩ := hp
        obtain ⟨hr, hl4, hk4⟩ := fin (some (.goto t)) W3 ((hs3.same (w.heap.size + 1) hlz (by omega)).trans hl2) ((hs3.same w.heap.size hkz (by omega)).trans hk2)
        exact ⟨_, _, hr, .inr ⟨rfl, .goto t, hIx _ _ _ _ hi3 (Apart.putObj W3 _ _), hl4, hk4⟩⟩
      | panic ch => exact hp.elim
      | outgrown => exact hp.elim
    · rintro e W2 ⟨⟨v, rfl⟩, (⟨T, hi, hT, hl, hk⟩ | ⟨T, pre, x, hpre, c, hi, hl, hk⟩)⟩
      · exact ⟨none, _, by have := run_endLoop (P := P) hl (by rw [hrec]; simp); rw [hrec] at this; exact this, hdone _ _ (hI _ _ _ _ _ hi ((Apart.putObj W2 _ _).mono fun j hj => .inr (.inr hj)) (fun j hj => .inl hj)) ((World.putObj_heap_other (by omega)).trans hk)⟩
      · exact ⟨some c, _, by have := run_endLoop (P := P) hl (by rw [hrec]; simp); rw [hrec] at this; exact this, hstop c pre x _ hpre (hIx _ _ _ _ hi (Apart.putObj W2 _ _)) ((World.putObj_heap_other (by omega)).trans hk)⟩

/-- A range over an iterator of one value; its variable is assigned ahead of the body. -/
theorem wp_rangeFunc_asg {P : Program} {α : Type} {g : Operand} {p : Tmp} {assign body : Code} {Q : Exit → Act → World → Prop} {a : Act} {w : World} {gf : Nat} {lb : Array Value} (hg : a.eval g = .func (.func gf) #[] lb)
    (eg : ∀ args w, (callFunc gf args).run P w = .ok (.enter gf args) w) {R : Nat → Prop} {Rd : (Nat → Prop) → α → Array Value → World → Prop} {xs : List α} (hseq : Seq P gf lb R Rd xs w) (hR : ∀ j, R j → j < w.heap.size)
    (hRd : ∀ T x args A C, Rd T x args A → Stays T A C → Rd T x args C) (hps : ∀ T x args W, Rd T x args W → args.size = 1)
    (I : (Nat → Prop) → List α → World → Prop) (Ix : Code → List α → World → Prop) (hI : Held I) (hIx : ∀ c pre A C, Ix c pre A → Apart (fun j => j = w.heap.size + 1) A C → Ix c pre C) (h0 : I (fun _ => False) [] w)
    (a₁ : Value → Act)
    (hassign : ∀ (l : Nat) (v : Value) (W : World) (K : Act → World → Prop), K (a₁ v) W → assign.wpIn (Fence.wide.inRound l) 3 P (Exit.then K (fun _ _ _ => False)) { tmps := a.tmps.setIfInBounds p v, defers := [] } W)
    (hbody : ∀ (l : Nat) (T S : Nat → Prop) (pre : List α) (x : α) (v : Value) (W : World), I S pre W → Rd T x #[v] W → (∀ j, T j → S j) → w.heap.size + 2 ≤ W.heap.size → (∀ j, T j → j < w.heap.size ∨ w.heap.size + 2 ≤ j) → pre ++ [x] <+: xs →
      body.wpIn (Fence.wide.inRound l) 3 P (iterPost w.heap.size S R I Ix (pre ++ [x]) W) (a₁ v) W)
    (hdone : ∀ (S : Nat → Prop) (W : World), I S xs W → W.heap[w.heap.size]? = some (.deferred (some [])) → Q .normal { a with defers := { target := .collected w.heap.size, args := #[] } :: a.defers } W)
    (hstop : ∀ (c : Code) (pre : List α) (x : α) (W : World), pre ++ [x] <+: xs → Ix c (pre ++ [x]) W → W.heap[w.heap.size]? = some (.deferred (some [])) → c.wp P Q { a with defers := { target := .collected w.heap.size, args := #[] } :: a.defers } W) :
    (Code.rangeFunc g #[p] assign body).wp P Q a w := by
  refine (wpIn_wide (n := 3)).1 ?_
  have hone : ∀ args : Array Value, args.size = 1 → ∃ v, args = #[v] := fun args h => by
    obtain ⟨l⟩ := args
    match l, h with
    | [v], _ => exact ⟨v, rfl⟩
  refine wpIn_rangeFunc_iterG hg eg hseq (Below.refl _ _) hR hRd (fun T x args W h => hps T x args W h) I Ix hI hIx h0 (fun args => a₁ (args[0]?.getD undef)) ?_ ?_ hdone (fun c pre x W h1 h2 h3 => (wpIn_wide (n := 3)).2 (hstop c pre x W h1 h2 h3))
  · intro l T x args W K hrd hK
    obtain ⟨v, rfl⟩ := hone args (hps T x args W hrd)
    have e : (#[p].zip #[v]).foldl (fun (t : Array Value) (x : Tmp × Value) => t.setIfInBounds x.1 x.2) a.tmps = a.tmps.setIfInBounds p v := by simp
    have h := hassign l v W K hK
    rw [← e] at h
    exact h
  · intro l T S pre x args W hi hrd hTS hz hT hpx
    obtain ⟨v, rfl⟩ := hone args (hps T x args W hrd)
    exact hbody l T S pre x v W hi hrd hTS hz hT hpx
end Go.Proofs.Ythddlpghjkiioaa
/-
  MARKS AMONG THE DEFERRED CALLS: a range over a function that is left early leaves a mark; the function's end passes over all.
-/
namespace Go.Proofs.Ythddlpghjkiioaa
open Go.RowKit Go.Shelf
attribute [local go_sem] Oper.semAt_some

/-! ## Marks among the deferred calls -/
def isMark (D : List Deferred) (j : Nat) : Prop := ∃ d ∈ D, d.target = .collected j
structure Marks (D : List Deferred) (W : World) : Prop where
  at_ : ∀ d ∈ D, ∃ b, d = { target := .collected b, args := #[] } ∧ W.heap[b]? = some (.deferred (some []))
  ne : D.Pairwise fun d e => d.target ≠ e.target
theorem Marks.nil (W : World) : Marks [] W := ⟨fun _ h => (by cases h), List.Pairwise.nil⟩
theorem Marks.block {D : List Deferred} {W : World} (h : Marks D W) {j : Nat} (hj : isMark D j) : W.heap[j]? = some (.deferred (some [])) := by
  obtain ⟨d, hd, ht⟩ := hj
  obtain ⟨b, rfl, hb⟩ := h.at_ d hd
  simp only [Target.collected.injEq] at ht
  subst ht
  exact hb
theorem Marks.below {D : List Deferred} {W W' : World} (h : Marks D W) (hb : Below W.heap.size W W') : Marks D W' := by
  refine ⟨fun d hd => ?_, h.ne⟩
  obtain ⟨b, e, hh⟩ := h.at_ d hd
  exact ⟨b, e, (hb.block b (Array.getElem?_eq_some_iff.1 hh).1).trans hh⟩
theorem Marks.same {D : List Deferred} {W W' : World} (h : Marks D W) (hs : ∀ j, isMark D j → W'.heap[j]? = W.heap[j]?) : Marks D W' := by
  refine ⟨fun d hd => ?_, h.ne⟩
  obtain ⟨b, e, hh⟩ := h.at_ d hd
  exact ⟨b, e, (hs b ⟨d, hd, by rw [e]⟩).trans hh⟩
theorem Marks.cons {D : List Deferred} {W : World} {b : Nat} (h : Marks D W) (hb : W.heap[b]? = some (.deferred (some []))) (hn : ∀ j, isMark D j → j ≠ b) : Marks ({ target := .collected b, args := #[] } :: D) W := by
  refine ⟨fun d hd => ?_, List.pairwise_cons.2 ⟨fun d hd e => ?_, h.ne⟩⟩
  · rcases List.mem_cons.1 hd with rfl | hd
    · exact ⟨b, rfl, hb⟩
    · exact h.at_ d hd
  · obtain ⟨b', rfl, _⟩ := h.at_ d hd
    simp only [Target.collected.injEq] at e
    exact hn b' ⟨_, hd, rfl⟩ e.symm
theorem leaves_marks {P : Program} {n : Nat} {fn : Func} {tmps : Array Value} {R : Ending → World → Prop} : ∀ (D : List Deferred) (W : World), Marks D W →
    (∀ W', Apart (isMark D) W W' → ∃ v, (results fn tmps).run P W' = .ok v W' ∧ R (.returned v) W') → LeavesInM Fence.wide n P fn tmps R D .returning W := by
  intro D
  induction D with
  | nil => exact fun W _ h => h W (Apart.refl _ _)
  | cons d ds ih =>
    intro W hm h
    obtain ⟨b, rfl, hb⟩ := hm.at_ d List.mem_cons_self
    have hne := (List.pairwise_cons.1 hm.ne).1
    refine ⟨by simp, .inl ⟨b, _, rfl, run_takeDeferred hb, ih _ ⟨fun e he => ?_, (List.pairwise_cons.1 hm.ne).2⟩ fun W' ha => h W' ?_⟩⟩
    · obtain ⟨b', rfl, hb'⟩ := hm.at_ e (List.mem_cons_of_mem _ he)
      have := hne _ he
      simp only [ne_eq, Target.collected.injEq] at this
      exact ⟨b', rfl, (World.putObj_heap_other fun e => this e.symm).trans hb'⟩
    · refine ((Apart.putObj W b _).mono fun j hj => ?_).trans ha fun j hj => .inl ?_
      · exact ⟨_, List.mem_cons_self, by rw [hj]⟩
      · obtain ⟨d, hd, ht⟩ := hj
        exact ⟨d, List.mem_cons_of_mem _ hd, ht⟩
theorem own_at {w w' : World} {B : Nat} {e : TypeId} {s n : Nat} {v : Value} {xs : List Value} (h : w.ownsRow B e s v n xs) (hs : ∀ (k : Nat) (c : Array Value) (t : TypeId) (f : Nat × Nat), w.heap[k]? = some (.cells c t f) → w'.heap[k]? = w.heap[k]?) : w'.ownsRow B e s v n xs := by
  obtain ⟨h1, h2⟩ := h
  rcases h2 with ⟨hv, h0⟩ | ⟨g, cap, cur, hv, hb, hg, hrest⟩
  · exact ⟨h1, .inl ⟨hv, h0⟩⟩
  · exact ⟨h1, .inr ⟨g, cap, cur, hv, hb, (hs g _ _ _ hg).trans hg, hrest⟩⟩
theorem Marks.rows {D : List Deferred} {W W' : World} (h : Marks D W) (ha : Apart (isMark D) W W') (k : Nat) (c : Array Value) (t : TypeId) (f : Nat × Nat) (hk : W.heap[k]? = some (.cells c t f)) : W'.heap[k]? = W.heap[k]? := by
  refine ha.same k (Array.getElem?_eq_some_iff.1 hk).1 fun hm => ?_
  rw [h.block hm] at hk
  cases hk

end Go.Proofs.Ythddlpghjkiioaa
/-
  slices.Clone of pairs and of numbers, by its contracts, at every address.
-/
namespace Go.Proofs.Ythddlpghjkiioaa
open Go.RowKit

theorem read_add_P {w : World} {B : Nat} {a : Addr} {l : PL} (h : CRead w B (some a) (pcells l)) : ∀ j u, (pcells l)[j]? = some u → w.cell? (a.add j) = some u := by
  intro j u hj
  obtain ⟨b, off, e, _, hc⟩ := h j u hj
  simp only [Option.some.injEq] at e
  subst e
  rw [Go.WideShapes.add_plain]
  exact hc
set_option maxHeartbeats 1000000 in
set_option maxRecDepth 100000 in
theorem cloneP_any (l : PL) (A : Option Addr) (c : Nat) (w : World) (hl : l.length ≤ 1048576) (hA : CRead w w.heap.size A (pcells l)) :
    Calls Try.prog 47 #[.slice A l.length c] w fun e w' => ∃ A' c', e = .returned (.slice A' l.length c') ∧ w'.ownsRow w.heap.size 64 2 (.slice A' l.length c') l.length (pcells l) ∧ Below w.heap.size w w' := by
  obtain ⟨i0, hi, hz0, hz1, hz2⟩ := info_parts Try.infoPair
  have q22 : ∀ (w : World) (a : Option Addr) (n c n' c' : Nat), (binOp .eql 23 (.slice a n c) (.slice none n' c')).run Try.prog w = .ok (.bool a.isNone) w := fun w a n c n' c' => Lib.run_eql_slice_nil w _ _ a n c n' c' Try.underlying23
  have u22 : ∀ w, Sem.run Try.prog (underlying 23) w = .ok (TypeDesc.slice 64) w := run_underlying Try.underlying23
  cases A with
  | none =>
    have hq : l = [] := by
      cases l with
      | nil => rfl
      | cons x l =>
        obtain ⟨b, off, e, _⟩ := hA 0 _ (by simp [pcells]; rfl)
        cases e
    subst hq
    go_enter Try.func47, Try.ntmps47
    go_wp2
    go_ret
    exact ⟨none, 0, rfl, World.ownsRow_nil _ _ _ _, Below.refl _ _⟩
  | some a =>
    have hc := read_add_P hA
    have H : Aside (∀ j u, (pcells l)[j]? = some u → w.cell? (a.add j) = some u) := hc
    clear hc hA
    go_enter Try.func47, Try.ntmps47
    go_wp2_with (at_builtin; refine wpList_append_own _ rfl _ _ 23 rfl w.heap.size 64 i0 (.agg #[.int .i64 0, .int .i64 0]) 2 16 Try.underlying23 hi hz0 hz1 hz2 rfl (by decide) _ _ _ rfl (World.ownsRow_made w #[] 0 (Nat.le_refl _) (Nat.zero_le _) rfl) a l.length c (pcells l) rfl ?qc1 ?qc2 ?qc3 ?qc4 ?qc5 ?qc6 ?_)
    case qc1 => exact pcells_length l
    case qc2 =>
      intro j u hj
      exact Lib.cell?_alloc_some _ (H.out j u hj)
    case qc3 => exact pcells_one l
    case qc4 => unfold maxLen; omega
    case qc5 => omega
    case qc6 => simp
    intro v' w1 hown hgrow _

    obtain ⟨A1, c1, rfl, _⟩ := own_shape hown
    go_wp2
    go_ret
    exact ⟨A1, c1, rfl, hown, ((Below.refl _ w).alloc (Nat.le_refl _) _).grown hgrow (by simp) (by intro k hk; simp [Value.ownBlock] at hk; omega)⟩

theorem read_add_I {w : World} {B : Nat} {a : Addr} {l : List Int} (h : CRead w B (some a) (icells l)) : ∀ j u, (icells l)[j]? = some u → w.cell? (a.add j) = some u := by
  intro j u hj
  obtain ⟨b, off, e, _, hc⟩ := h j u hj
  simp only [Option.some.injEq] at e
  subst e
  rw [Go.WideShapes.add_plain]
  exact hc
set_option maxHeartbeats 1000000 in
set_option maxRecDepth 100000 in
theorem cloneI_any (l : List Int) (A : Option Addr) (c : Nat) (w : World) (hl : l.length ≤ 1048576) (hA : CRead w w.heap.size A (icells l)) :
    Calls Try.prog 79 #[.slice A l.length c] w fun e w' => ∃ A' c', e = .returned (.slice A' l.length c') ∧ w'.ownsRow w.heap.size 3 1 (.slice A' l.length c') l.length (icells l) ∧ Below w.heap.size w w' := by
  obtain ⟨i0, hi, hz0, hz1, hz2⟩ := info_parts Try.infoInt
  have q22 : ∀ (w : World) (a : Option Addr) (n c n' c' : Nat), (binOp .eql 22 (.slice a n c) (.slice none n' c')).run Try.prog w = .ok (.bool a.isNone) w := fun w a n c n' c' => Lib.run_eql_slice_nil w _ _ a n c n' c' Try.underlying22
  have u22 : ∀ w, Sem.run Try.prog (underlying 22) w = .ok (TypeDesc.slice 3) w := run_underlying Try.underlying22
  cases A with
  | none =>
    have hq : l = [] := by
      cases l with
      | nil => rfl
      | cons x l =>
        obtain ⟨b, off, e, _⟩ := hA 0 _ (by simp [icells]; rfl)
        cases e
    subst hq
    go_enter Try.func79, Try.ntmps79
    go_wp2
    go_ret
    exact ⟨none, 0, rfl, World.ownsRow_nil _ _ _ _, Below.refl _ _⟩
  | some a =>
    have hc := read_add_I hA
    have H : Aside (∀ j u, (icells l)[j]? = some u → w.cell? (a.add j) = some u) := hc
    clear hc hA
    go_enter Try.func79, Try.ntmps79
    go_wp2_with (at_builtin; refine wpList_append_own _ rfl _ _ 22 rfl w.heap.size 3 i0 (.int .i64 0) 1 8 Try.underlying22 hi hz0 hz1 hz2 rfl (by decide) _ _ _ rfl (World.ownsRow_made w #[] 0 (Nat.le_refl _) (Nat.zero_le _) rfl) a l.length c (icells l) rfl ?qc1 ?qc2 ?qc3 ?qc4 ?qc5 ?qc6 ?_)
    case qc1 => rw [icells_length, Nat.mul_one]
    case qc2 =>
      intro j u hj
      exact Lib.cell?_alloc_some _ (H.out j u hj)
    case qc3 => exact icells_one l
    case qc4 => unfold maxLen; omega
    case qc5 => omega
    case qc6 => simp
    intro v' w1 hown hgrow _

    obtain ⟨A1, c1, rfl, _⟩ := own_shape hown
    go_wp2
    go_ret
    exact ⟨A1, c1, rfl, hown, ((Below.refl _ w).alloc (Nat.le_refl _) _).grown hgrow (by simp) (by intro k hk; simp [Value.ownBlock] at hk; omega)⟩
end Go.Proofs.Ythddlpghjkiioaa
/-
  BOXES that a recursion is handed: their cells, and rows apart from them.
-/
namespace Go.Proofs.Ythddlpghjkiioaa
open Go.RowKit

theorem own_none2 {w : World} {B : Nat} {e : TypeId} {size m c : Nat} {A : Option Addr} {xs : List Value} (h : w.ownsRow B e size (.slice A m c) m xs) : (A = none ∧ m = 0 ∧ c = 0) ∨ ∃ g, A = some ⟨g, 0, none⟩ := by
  rcases h.2 with ⟨h1, h2⟩ | ⟨g, cap, cur, hv, _⟩
  · simp only [Value.slice.injEq] at h1
    exact .inl ⟨h1.1, h2, h1.2.2⟩
  · simp only [Value.slice.injEq] at hv
    exact .inr ⟨g, hv.1⟩
theorem own_ap {S : Nat → Prop} {w w' : World} {B : Nat} {e : TypeId} {size n : Nat} {v : Value} {xs : List Value} (h : w.ownsRow B e size v n xs) (ha : Apart S w w') (hS : ∀ j, S j → j < B) : w'.ownsRow B e size v n xs := by
  refine ⟨h.1, ?_⟩
  rcases h.2 with h1 | ⟨g, cap, cur, hv, hb, hg, rest⟩
  · exact .inl h1
  · exact .inr ⟨g, cap, cur, hv, hb, (ha.same g (Array.getElem?_eq_some_iff.1 hg).1 (fun hs => by have := hS g hs; omega)).trans hg, rest⟩
theorem Apart.setCell {S : Nat → Prop} {A : World} {p : Addr} (hp : S p.block) (v : Value) : Apart S A (A.setCell p v) :=
  ⟨(Below.refl 0 A).setCell (Nat.zero_le _) v, fun j _ hn => Below.heap_setCell A p v j fun e => hn (e ▸ hp)⟩
theorem box_set {w : World} {b : Nat} {v u : Value} {t : TypeId} (h : w.heap[b]? = some (Obj.cells #[v] t)) : (w.setCell ⟨b, 0, none⟩ u).heap[b]? = some (Obj.cells #[u] t) := by
  simp [World.setCell, Array.getElem?_modify, h]
theorem cell_in {w : World} {b : Nat} {v : Value} {t : TypeId} (h : w.heap[b]? = some (Obj.cells #[v] t)) : w.cell? ⟨b, 0, none⟩ = some v := by rw [cell_of_row _ _ _ _ _ _ h]; rfl
theorem two_cellsB {w : World} {g : Nat} {u v : Value} (h : w.cell? ⟨g, 0, none⟩ = some u) (h' : w.cell? ⟨g, 1, none⟩ = some v) : ∀ j x, [u, v][j]? = some x → w.cell? ((⟨g, 0, none⟩ : Addr).add j) = some x := by
  intro j x hx
  match j, hx with
  | 0, hx => simp at hx; subst hx; simpa [Addr.add] using h
  | 1, hx => simp at hx; subst hx; simpa [Addr.add] using h'
theorem two_oneB {u v : Value} (h : u.oneCell' = true) (h' : v.oneCell' = true) : ∀ x ∈ [u, v], x.oneCell' = true := by
  intro x hx
  simp at hx
  rcases hx with rfl | rfl
  · exact h
  · exact h'
theorem own_cell {w : World} {B g n c : Nat} {l : List Int} {j : Nat} {x : Int} (h : w.ownsRow B 3 1 (.slice (some ⟨g, 0, none⟩) n c) n (icells l)) (hj : l[j]? = some x) : w.cell? ⟨g, j, none⟩ = some (.int .i64 x) := by
  obtain ⟨b, off, e, _, hc⟩ := (CRead.of_own h).int hj
  simp only [Option.some.injEq, Addr.mk.injEq, and_true] at e
  obtain ⟨rfl, rfl⟩ := e
  rwa [Nat.zero_add] at hc
theorem own_set {w : World} {B g n c : Nat} {l : List Int} (h : w.ownsRow B 3 1 (.slice (some ⟨g, 0, none⟩) n c) n (icells l)) (j : Nat) (x : Int) : (w.setCell ⟨g, j, none⟩ (.int .i64 x)).ownsRow B 3 1 (.slice (some ⟨g, 0, none⟩) n c) n (icells (l.set j x)) := by
  have h1 := (h.stored j (.int .i64 x)).1
  rwa [show (icells l).set j (.int .i64 x) = icells (l.set j x) by simp [icells, List.map_set]] at h1
end Go.Proofs.Ythddlpghjkiioaa
