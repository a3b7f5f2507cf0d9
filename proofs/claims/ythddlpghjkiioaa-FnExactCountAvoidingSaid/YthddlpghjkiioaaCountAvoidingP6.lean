/-
  Texts put together for the claims of 'CountAvoiding' (pack 6): AvJ.
-/
import Derived.Test.YthddlpghjkiioaaCountAvoidingP5
/-
  PAINTINGS WITHOUT A TRIPLE OF ONE COLOUR: the program's recursive closure, walked.
-/
namespace Go.Proofs.Ythddlpghjkiioaa
open Go.RowKit Go.Shelf
attribute [local go_sem] Oper.semAt_some

theorem flat_prefixA {G : Nat → List (List Int)} {c M : Nat} (h : c < M) : (List.range c).flatMap G ++ G c <+: (List.range M).flatMap G := by
  obtain ⟨i, rfl⟩ : ∃ i, M = c + 1 + i := ⟨M - (c + 1), by omega⟩
  rw [List.range_add, List.flatMap_append, List.range_succ, List.flatMap_append, List.flatMap_cons, List.flatMap_nil, List.append_nil]
  exact List.prefix_append _ _
section
variable {l n k lo : Nat} {PA : Option Addr} {pc pb yb cb bl B : Nat} {R : Nat → Prop} {J Jx : (Nat → Prop) → List (List Int) → World → Prop} {Good : List (List Int) → Prop}
set_option maxHeartbeats 8000000 in
set_option maxRecDepth 100000 in
theorem av_look (hR : ∀ j, R j → j < B) (hRlo : ∀ j, lo ≤ j → j < B → R j)
    (hY : ∀ S pre told W1, J S pre W1 → told.length = (allP n).length → Good (pre ++ [told]) → YieldAt Fence.wide 0 Try.prog l #[.agg (shC (shK n told told.length))] W1 fun e W' =>
      (e = .returned (.bool true) ∧ J S (pre ++ [told]) W' ∧ Stays (fun j => S j ∨ R j) W1 W') ∨ (e = .returned (.bool false) ∧ Jx S (pre ++ [told]) W'))
    (hh : Held J) (h1 : R pb) (h2 : R yb) (h3 : R cb) (h4 : R bl) (hn : n ≤ 8) (hk : k ≤ 3) (hPB : ∀ j, (Value.slice PA (allP n).length pc).ownBlock = some j → j < B) : ∀ (m : Nat) (t : List Int) (S : Nat → Prop) (pre : List (List Int)) (W : World), t.length + m = (allP n).length → (∀ qq, qq <+: avoidX n k m t → Good (pre ++ qq)) → B ≤ W.heap.size → AvBox W l n k lo PA pc pb yb cb bl → J S pre W →
    Calls Try.prog 90 #[.int .i64 t.length, .agg (shC (shK n t t.length)), .pointer (some ⟨pb, 0, none⟩), .pointer (some ⟨yb, 0, none⟩), .pointer (some ⟨cb, 0, none⟩), .pointer (some ⟨bl, 0, none⟩)] W fun e W' =>
      ∃ ok, e = .returned (.bool ok) ∧ LookPost J Jx R S none 0 [] pre (avoidX n k m t) W ok W' := by
  intro m
  induction m with
  | zero =>
    intro t S pre W hlen hgd hB hL hJ
    exact av_zero hR hY hh t S pre W (by omega) (hgd _ (List.prefix_refl _)) hB hL hJ
  | succ m ih =>
    intro t S pre W hlen hgd hB hL hJ
    obtain ⟨q, hq⟩ : ∃ q, t.length = q := ⟨_, rfl⟩
    have hcount : (allP n).length ≤ 28 := by
      have h := (count_of (p := (n : Int)) (by omega)).2.1
      rwa [Int.toNat_natCast] at h
    obtain ⟨a, b, hab, hbn, hqat, hget, hpair⟩ := pairAt_of hn (q := q) (by omega)
    obtain ⟨G, hG⟩ : ∃ G : Nat → List (List Int), (fun x : Nat => if closesX n (t ++ [(x : Int)]) a b then [] else avoidX n k m (t ++ [(x : Int)])) = G := ⟨_, rfl⟩
    have hLL : avoidX n k (m + 1) t = (List.range k).flatMap G := by
      rw [← hG]
      show (List.range k).flatMap (fun x : Nat => if closesX n (t ++ [(x : Int)]) (pairAt n t.length).1 (pairAt n t.length).2 then [] else avoidX n k m (t ++ [(x : Int)])) = _
      rw [hq, hpair]
    rw [hLL] at hgd ⊢
    have hGx : ∀ x : Nat, G x = if closesX n (t ++ [(x : Int)]) a b then [] else avoidX n k m (t ++ [(x : Int)]) := fun x => by rw [← hG]
    have hwith := fun (x : Nat) (X : World) => with_any (shK n t t.length) a b (x : Int) (by omega) (by omega) X
    have hmore := fun (x : Nat) => shK_more hn (t := t) (x : Int) (by omega) (by rw [hq, hpair])
    have hcomp := fun (x : Nat) (X : World) => completes_any (shK n (t ++ [(x : Int)]) (t.length + 1)) a b (by omega) (by omega) X
    have hclose := fun (x : Nat) => closes_same (l := t ++ [(x : Int)]) hn hab hbn (by omega)
    rw [← hqat] at hclose
    simp only [hq] at hwith hmore hcomp
    simp only [← hmore] at hwith
    have hcomp2 := fun (x : Nat) (X : World) => by have h := hcomp x X; rw [hclose x] at h; exact h
    rw [hq]
    obtain ⟨F, hF⟩ : ∃ F, shC (shK n t q) = F := ⟨_, rfl⟩
    have hFs : F.size = 64 := by rw [← hF]; exact shC_size _
    have hiF : (Try.prog.info? 90).map (·.size) = some F.size := by rw [hFs]; exact sh_info
    simp only [hF] at hwith ⊢
    obtain ⟨N, hN⟩ : ∃ N, (allP n).length = N := ⟨_, rfl⟩
    have hLb := Lib.hid hL
    have qp := hL.p
    have qc := hL.c
    rw [hN] at qp
    have lpb := World.block_lt_of_cell? W _ qp
    have lcb := World.block_lt_of_cell? W _ qc
    have hne : ((q : Int) == (N : Int)) = false := by simp; omega
    have hp0 : ∀ o, (W.alloc o).cell? ⟨pb, 0, none⟩ = some (.slice PA N pc) := fun o => (World.cell?_alloc_lt _ _ _ lpb).trans qp
    have hc0 : ∀ o, (W.alloc o).cell? ⟨cb, 0, none⟩ = some (.int .i64 k) := fun o => (World.cell?_alloc_lt _ _ _ lcb).trans qc
    have HGx := Lib.hid hGx
    have Hwith := Lib.hid hwith
    have Hcomp := Lib.hid hcomp2
    have HGD := Lib.hid hgd
    have Hq := Lib.hid hq
    have HN := Lib.hid hN
    have Hget := Lib.hid hget
    have Hcount := Lib.hid hcount
    have hNq : q < N := by omega
    have hN28 : N ≤ 28 := by omega
    clear hG hLL hGx hwith hmore hcomp hcomp2 hclose hgd hq hN hL qp qc hget hpair hqat hF hFs hcount
    go_enter Try.func90, Try.ntmps90
    go_wp2
    clear hp0 hc0
    obtain ⟨W1, hW1⟩ : ∃ W1, W.alloc (Obj.cells F 90) = W1 := ⟨_, rfl⟩
    have kW1 : Below W.heap.size W W1 := by rw [← hW1]; go_grown
    have sW1 : W1.heap.size = W.heap.size + 1 := by rw [← hW1]; simp
    have bF1 : W1.heap[W.heap.size]? = some (Obj.cells F 90) := by rw [← hW1]; exact World.alloc_heap_new W _
    rw [hW1]
    have KW1 := Lib.hid kW1
    have BF1 := Lib.hid bF1
    clear hW1 kW1 bF1
    obtain ⟨S0, hS0⟩ : ∃ S0 : Nat → Prop, (fun j => S j ∨ j = W.heap.size) = S0 := ⟨_, rfl⟩
    have hS1 : ∀ j, S j → S0 j := fun j h => by rw [← hS0]; exact .inl h
    have hS2 : ∀ j, S0 j → S j ∨ W.heap.size ≤ j := fun j h => by rw [← hS0] at h; exact h.imp id (fun e => by omega)
    have hS3 : S0 W.heap.size := by rw [← hS0]; exact .inr rfl
    have hJ0 : J S0 pre W1 := hh _ _ _ _ _ hJ (Apart.of_below KW1.out) (fun j hj => by rw [← hS0] at hj; exact hj.imp id (fun e => by omega))
    have hst0 : LookYes J R S none 0 [] pre W W1 := (LookYes.start hJ (World.ownsRow_nil _ _ _ _)).overA hh hR hB KW1.out
    have hB1 : B ≤ W1.heap.size := by omega
    have Hst0 := Lib.hid hst0
    have HS2 := Lib.hid hS2
    clear hst0 hS0 hS2
    go_loopw [19] (fun i wr => ∃ x : Nat, x ≤ k ∧ i = .int .i64 x ∧ LookYes J R S0 none 0 [] (pre ++ (List.range x).flatMap G) W1 wr) (fun i _ => k - (intOf i).toNat)
    case atStart => exact ⟨0, Nat.zero_le _, rfl, by rw [show (List.range 0).flatMap G = [] from rfl, List.append_nil]; exact LookYes.start hJ0 (World.ownsRow_nil _ _ _ _)⟩
    case round =>
      obtain ⟨x, hx, rfl, hyes⟩ := hrel
      have hsw : W.heap.size < wr.heap.size := by have := hyes.below.size; omega
      have hbF := (hyes.other W.heap.size hS3 (by omega) (by simp [Value.ownBlock])).trans BF1.out
      have Hyes := Lib.hid hyes
      clear hyes
      by_cases hlt : x < k
      · have hxi : (x : Int) < (k : Int) := by omega
        have hxk : x ≤ 3 := by omega
        have ro2 : ∀ j, R j → wr.heap[j]? = W.heap[j]? := fun j hj => (Hyes.out.ro j hj).trans (KW1.out.block j (by have := hR j hj; omega))
        have box := hLb.out.of ro2 h1 h2 h3 h4 hRlo hPB
        have qp := box.p
        have qk := box.k
        rw [HN.out] at qp
        have hpr := (CRead.of_own box.o).pair Hget.out
        obtain ⟨pb', po', rfl, hpbl, c0, c1⟩ := hpr
        have Box := Lib.hid box
        have Bg := Lib.hid hbF
        have hqI : (q : Int) < (N : Int) := by omega
        have lpb2 := World.block_lt_of_cell? wr _ qp
        obtain ⟨F2, hF2⟩ : ∃ F2, shC (shK n (t ++ [(x : Int)]) (q + 1)) = F2 := ⟨_, rfl⟩
        have hF2s : F2.size = 64 := by rw [← hF2]; exact shC_size _
        have hF21 : F2.all (·.oneCell') = true := by rw [← hF2]; exact shC_one _
        have hiF2 : (Try.prog.info? 90).map (·.size) = some F2.size := by rw [hF2s]; exact sh_info
        have callw := fun X => Hwith.out x X
        have callc := fun X => Hcomp.out x X
        simp only [hF2] at callw callc
        have CallW := Lib.hid callw
        have CallC := Lib.hid callc
        have HF2 := Lib.hid hF2
        clear box hbF callw callc hF2
        go_upto_region 6 with fail
        go_cut [10] (fun s10 wx => ∃ g : Nat, s10 = .pointer (some ⟨g, 0, none⟩) ∧ wr.heap.size ≤ g ∧ Below wr.heap.size wr wx ∧ wx.heap[g]? = some (Obj.cells F2 90))
        case first =>
          refine wp_region_any (by kernel_rfl) ?_
          change wpAny _ _ _ _ _ _ _ wr.drew
          refine wpAny_take (i := 2) (v := ?v2_1) rfl (by kernel_rfl) (by kernel_rfl) (by kernel_rfl) (fun _ _ _ h => h) (Or.inl ⟨by first | kernel_rfl | rfl, ?hy2_1⟩) ?rest2_1
          case hy2_1 => (intro w; go_simp; all_goals (with_reducible rfl))
          refine wpAny_take (i := 5) (v := ?v5_2) rfl (by kernel_rfl) (by kernel_rfl) (by kernel_rfl) (fun _ _ _ h => h) (Or.inl ⟨by first | kernel_rfl | rfl, ?hy5_2⟩) ?rest5_2
          case hy5_2 => (intro w; go_simp; all_goals (with_reducible rfl))
          refine wpAny_ready (rs := [0, 1, 7]) (by kernel_rfl) (by simp) ?_
          refine AllReady.cons rfl (fun K hK => ?_) (AllReady.cons rfl (fun K hK => ?_) (AllReady.cons rfl (fun K hK => ?_) AllReady.nil))
          · skip
            rw [if_pos (by kernel_rfl)]
            refine wp_load_row 90 _ rfl W.heap.size rfl 90 F (0, 0) _ Bg.out sh_under rfl hiF ?_
            refine hK _ _ ?_
            clear hK K
            refine wpAny_ready (rs := [1, 7]) (by kernel_rfl) (by simp) ?_
            refine AllReady.cons rfl (fun K hK => ?_) (AllReady.cons rfl (fun K hK => ?_) AllReady.nil)
            · skip
              rw [if_pos (by kernel_rfl)]
              go_simp
              refine hK _ _ ?_
              clear hK K
              refine wpAny_take (i := 3) (v := ?v3_3) rfl (by kernel_rfl) (by kernel_rfl) (by kernel_rfl) (fun _ _ _ h => h) (Or.inl ⟨by first | kernel_rfl | rfl, ?hy3_3⟩) ?rest3_3
              case hy3_3 => (intro w; go_simp; all_goals (with_reducible rfl))
              refine wpAny_ready (rs := [4, 7]) (by kernel_rfl) (by simp) ?_
              refine AllReady.cons rfl (fun K hK => ?_) (AllReady.cons rfl (fun K hK => ?_) AllReady.nil)
              · skip
                rw [if_pos (by kernel_rfl)]
                go_simp
                refine hK _ _ ?_
                clear hK K
                refine wpAny_ready (rs := [6, 7]) (by kernel_rfl) (by simp) ?_
                refine AllReady.cons rfl (fun K hK => ?_) (AllReady.cons rfl (fun K hK => ?_) AllReady.nil)
                · skip
                  rw [if_pos (by kernel_rfl)]
                  go_simp
                  refine (CallW.out _).mono ?_
                  rintro e w2 ⟨rfl, hb2⟩
                  try go_simp
                  refine hK _ _ ?_
                  clear hK K
                  refine wpAny_ready (rs := [7]) (by kernel_rfl) (by simp) ?_
                  refine AllReady.cons rfl (fun K hK => ?_) AllReady.nil
                  rw [if_pos (by kernel_rfl)]
                  go_simp
                  refine hK _ _ ?_
                  clear hK K
                  rw [← shC_zero]
                  obtain ⟨V1, hV1⟩ : ∃ V1, w2.alloc (Obj.cells (shC fun _ _ => 0) 90) = V1 := ⟨_, rfl⟩
                  rw [hV1]
                  have kV1 : Below w2.heap.size w2 V1 := by rw [← hV1]; go_grown
                  have bz1 : V1.heap[w2.heap.size]? = some (Obj.cells (shC fun _ _ => 0) 90) := by rw [← hV1]; exact World.alloc_heap_new w2 _
                  clear hV1
                  refine wpAny_ready (rs := [8]) (by kernel_rfl) (by simp) ?_
                  refine AllReady.cons rfl (fun K hK => ?_) AllReady.nil
                  rw [if_pos (by kernel_rfl)]
                  refine wp_store_row 90 _ _ rfl w2.heap.size F2 rfl rfl 90 _ bz1 hiF2 ((shC_size _).trans hF2s.symm) hF21 ?_
                  refine hK _ _ ?_
                  clear hK K
                  refine wpAny_done (by kernel_rfl) ?_ _
                  go_wp2_with fail
                  go_meet
                  exact ⟨w2.heap.size, rfl, hb2.size, below_setRow (((Below.refl _ wr).drew.trans hb2).trans (kV1.mono hb2.size)) hb2.size F2, setRow_heap V1 _ _ F2 _ (0, 0) bz1⟩
                · skip
                  rw [if_pos (by kernel_rfl)]
                  go_simp
                  refine hK _ _ ?_
                  clear hK K
                  rw [← shC_zero]
                  obtain ⟨V1, hV1⟩ : ∃ V1, (wr.alloc (Obj.cells (shC fun _ _ => 0) 90)).drew = V1 := ⟨_, rfl⟩
                  rw [hV1]
                  have kV1 : Below wr.heap.size wr V1 := by rw [← hV1]; exact ((Below.refl _ _).alloc (Nat.le_refl _) _).drew
                  have bz1 : V1.heap[wr.heap.size]? = some (Obj.cells (shC fun _ _ => 0) 90) := by rw [← hV1]; exact World.alloc_heap_new wr _
                  have bg1 := (kV1.block W.heap.size hsw).trans Bg.out
                  have zV1 := (Array.getElem?_eq_some_iff.1 bz1).1
                  have qp1 := carry kV1 qp lpb2
                  have c01 := carry kV1 c0 hpbl
                  have c11 := carry kV1 c1 hpbl
                  clear hV1
                  refine wpAny_ready (rs := [6]) (by kernel_rfl) (by simp) ?_
                  refine AllReady.cons rfl (fun K hK => ?_) AllReady.nil
                  rw [if_pos (by kernel_rfl)]
                  go_simp
                  refine (CallW.out _).mono ?_
                  rintro e w2 ⟨rfl, hb2⟩
                  try go_simp
                  refine hK _ _ ?_
                  clear hK K
                  refine wpAny_ready (rs := [8]) (by kernel_rfl) (by simp) ?_
                  refine AllReady.cons rfl (fun K hK => ?_) AllReady.nil
                  rw [if_pos (by kernel_rfl)]
                  have bz2 := (hb2.block wr.heap.size zV1).trans bz1
                  refine wp_store_row 90 _ _ rfl wr.heap.size F2 rfl rfl 90 _ bz2 hiF2 ((shC_size _).trans hF2s.symm) hF21 ?_
                  refine hK _ _ ?_
                  clear hK K
                  refine wpAny_done (by kernel_rfl) ?_ _
                  go_wp2_with fail
                  go_meet
                  exact ⟨wr.heap.size, rfl, Nat.le_refl _, below_setRow (kV1.trans (hb2.mono kV1.size)) (Nat.le_refl _) F2, setRow_heap w2 _ _ F2 _ (0, 0) bz2⟩
              · skip
                rw [if_pos (by kernel_rfl)]
                go_simp
                refine hK _ _ ?_
                clear hK K
                rw [← shC_zero]
                obtain ⟨V1, hV1⟩ : ∃ V1, (wr.alloc (Obj.cells (shC fun _ _ => 0) 90)).drew = V1 := ⟨_, rfl⟩
                rw [hV1]
                have kV1 : Below wr.heap.size wr V1 := by rw [← hV1]; exact ((Below.refl _ _).alloc (Nat.le_refl _) _).drew
                have bz1 : V1.heap[wr.heap.size]? = some (Obj.cells (shC fun _ _ => 0) 90) := by rw [← hV1]; exact World.alloc_heap_new wr _
                have bg1 := (kV1.block W.heap.size hsw).trans Bg.out
                have zV1 := (Array.getElem?_eq_some_iff.1 bz1).1
                have qp1 := carry kV1 qp lpb2
                have c01 := carry kV1 c0 hpbl
                have c11 := carry kV1 c1 hpbl
                clear hV1
                refine wpAny_ready (rs := [4]) (by kernel_rfl) (by simp) ?_
                refine AllReady.cons rfl (fun K hK => ?_) AllReady.nil
                rw [if_pos (by kernel_rfl)]
                go_simp
                refine hK _ _ ?_
                clear hK K
                refine wpAny_ready (rs := [6]) (by kernel_rfl) (by simp) ?_
                refine AllReady.cons rfl (fun K hK => ?_) AllReady.nil
                rw [if_pos (by kernel_rfl)]
                go_simp
                refine (CallW.out _).mono ?_
                rintro e w2 ⟨rfl, hb2⟩
                try go_simp
                refine hK _ _ ?_
                clear hK K
                refine wpAny_ready (rs := [8]) (by kernel_rfl) (by simp) ?_
                refine AllReady.cons rfl (fun K hK => ?_) AllReady.nil
                rw [if_pos (by kernel_rfl)]
                have bz2 := (hb2.block wr.heap.size zV1).trans bz1
                refine wp_store_row 90 _ _ rfl wr.heap.size F2 rfl rfl 90 _ bz2 hiF2 ((shC_size _).trans hF2s.symm) hF21 ?_
                refine hK _ _ ?_
                clear hK K
                refine wpAny_done (by kernel_rfl) ?_ _
                go_wp2_with fail
                go_meet
                exact ⟨wr.heap.size, rfl, Nat.le_refl _, below_setRow (kV1.trans (hb2.mono kV1.size)) (Nat.le_refl _) F2, setRow_heap w2 _ _ F2 _ (0, 0) bz2⟩
            · skip
              rw [if_pos (by kernel_rfl)]
              go_simp
              refine hK _ _ ?_
              clear hK K
              rw [← shC_zero]
              obtain ⟨V1, hV1⟩ : ∃ V1, (wr.alloc (Obj.cells (shC fun _ _ => 0) 90)).drew = V1 := ⟨_, rfl⟩
              rw [hV1]
              have kV1 : Below wr.heap.size wr V1 := by rw [← hV1]; exact ((Below.refl _ _).alloc (Nat.le_refl _) _).drew
              have bz1 : V1.heap[wr.heap.size]? = some (Obj.cells (shC fun _ _ => 0) 90) := by rw [← hV1]; exact World.alloc_heap_new wr _
              have bg1 := (kV1.block W.heap.size hsw).trans Bg.out
              have zV1 := (Array.getElem?_eq_some_iff.1 bz1).1
              have qp1 := carry kV1 qp lpb2
              have c01 := carry kV1 c0 hpbl
              have c11 := carry kV1 c1 hpbl
              clear hV1
              refine wpAny_ready (rs := [1]) (by kernel_rfl) (by simp) ?_
              refine AllReady.cons rfl (fun K hK => ?_) AllReady.nil
              rw [if_pos (by kernel_rfl)]
              go_simp
              refine hK _ _ ?_
              clear hK K
              refine wpAny_take (i := 3) (v := ?v3_4) rfl (by kernel_rfl) (by kernel_rfl) (by kernel_rfl) (fun _ _ _ h => h) (Or.inl ⟨by first | kernel_rfl | rfl, ?hy3_4⟩) ?rest3_4
              case hy3_4 => (intro w; go_simp; all_goals (with_reducible rfl))
              refine wpAny_ready (rs := [4]) (by kernel_rfl) (by simp) ?_
              refine AllReady.cons rfl (fun K hK => ?_) AllReady.nil
              rw [if_pos (by kernel_rfl)]
              go_simp
              refine hK _ _ ?_
              clear hK K
              refine wpAny_ready (rs := [6]) (by kernel_rfl) (by simp) ?_
              refine AllReady.cons rfl (fun K hK => ?_) AllReady.nil
              rw [if_pos (by kernel_rfl)]
              go_simp
              refine (CallW.out _).mono ?_
              rintro e w2 ⟨rfl, hb2⟩
              try go_simp
              refine hK _ _ ?_
              clear hK K
              refine wpAny_ready (rs := [8]) (by kernel_rfl) (by simp) ?_
              refine AllReady.cons rfl (fun K hK => ?_) AllReady.nil
              rw [if_pos (by kernel_rfl)]
              have bz2 := (hb2.block wr.heap.size zV1).trans bz1
              refine wp_store_row 90 _ _ rfl wr.heap.size F2 rfl rfl 90 _ bz2 hiF2 ((shC_size _).trans hF2s.symm) hF21 ?_
              refine hK _ _ ?_
              clear hK K
              refine wpAny_done (by kernel_rfl) ?_ _
              go_wp2_with fail
              go_meet
              exact ⟨wr.heap.size, rfl, Nat.le_refl _, below_setRow (kV1.trans (hb2.mono kV1.size)) (Nat.le_refl _) F2, setRow_heap w2 _ _ F2 _ (0, 0) bz2⟩
          · skip
            rw [if_pos (by kernel_rfl)]
            go_simp
            refine hK _ _ ?_
            clear hK K
            refine wpAny_take (i := 3) (v := ?v3_5) rfl (by kernel_rfl) (by kernel_rfl) (by kernel_rfl) (fun _ _ _ h => h) (Or.inl ⟨by first | kernel_rfl | rfl, ?hy3_5⟩) ?rest3_5
            case hy3_5 => (intro w; go_simp; all_goals (with_reducible rfl))
            refine wpAny_ready (rs := [0, 4, 7]) (by kernel_rfl) (by simp) ?_
            refine AllReady.cons rfl (fun K hK => ?_) (AllReady.cons rfl (fun K hK => ?_) (AllReady.cons rfl (fun K hK => ?_) AllReady.nil))
            · skip
              rw [if_pos (by kernel_rfl)]
              refine wp_load_row 90 _ rfl W.heap.size rfl 90 F (0, 0) _ Bg.out sh_under rfl hiF ?_
              refine hK _ _ ?_
              clear hK K
              refine wpAny_ready (rs := [4, 7]) (by kernel_rfl) (by simp) ?_
              refine AllReady.cons rfl (fun K hK => ?_) (AllReady.cons rfl (fun K hK => ?_) AllReady.nil)
              · skip
                rw [if_pos (by kernel_rfl)]
                go_simp
                refine hK _ _ ?_
                clear hK K
                refine wpAny_ready (rs := [6, 7]) (by kernel_rfl) (by simp) ?_
                refine AllReady.cons rfl (fun K hK => ?_) (AllReady.cons rfl (fun K hK => ?_) AllReady.nil)
                · skip
                  rw [if_pos (by kernel_rfl)]
                  go_simp
                  refine (CallW.out _).mono ?_
                  rintro e w2 ⟨rfl, hb2⟩
                  try go_simp
                  refine hK _ _ ?_
                  clear hK K
                  refine wpAny_ready (rs := [7]) (by kernel_rfl) (by simp) ?_
                  refine AllReady.cons rfl (fun K hK => ?_) AllReady.nil
                  rw [if_pos (by kernel_rfl)]
                  go_simp
                  refine hK _ _ ?_
                  clear hK K
                  rw [← shC_zero]
                  obtain ⟨V1, hV1⟩ : ∃ V1, w2.alloc (Obj.cells (shC fun _ _ => 0) 90) = V1 := ⟨_, rfl⟩
                  rw [hV1]
                  have kV1 : Below w2.heap.size w2 V1 := by rw [← hV1]; go_grown
                  have bz1 : V1.heap[w2.heap.size]? = some (Obj.cells (shC fun _ _ => 0) 90) := by rw [← hV1]; exact World.alloc_heap_new w2 _
                  clear hV1
                  refine wpAny_ready (rs := [8]) (by kernel_rfl) (by simp) ?_
                  refine AllReady.cons rfl (fun K hK => ?_) AllReady.nil
                  rw [if_pos (by kernel_rfl)]
                  refine wp_store_row 90 _ _ rfl w2.heap.size F2 rfl rfl 90 _ bz1 hiF2 ((shC_size _).trans hF2s.symm) hF21 ?_
                  refine hK _ _ ?_
                  clear hK K
                  refine wpAny_done (by kernel_rfl) ?_ _
                  go_wp2_with fail
                  go_meet
                  exact ⟨w2.heap.size, rfl, hb2.size, below_setRow (((Below.refl _ wr).drew.trans hb2).trans (kV1.mono hb2.size)) hb2.size F2, setRow_heap V1 _ _ F2 _ (0, 0) bz1⟩
                · skip
                  rw [if_pos (by kernel_rfl)]
                  go_simp
                  refine hK _ _ ?_
                  clear hK K
                  rw [← shC_zero]
                  obtain ⟨V1, hV1⟩ : ∃ V1, (wr.alloc (Obj.cells (shC fun _ _ => 0) 90)).drew = V1 := ⟨_, rfl⟩
                  rw [hV1]
                  have kV1 : Below wr.heap.size wr V1 := by rw [← hV1]; exact ((Below.refl _ _).alloc (Nat.le_refl _) _).drew
                  have bz1 : V1.heap[wr.heap.size]? = some (Obj.cells (shC fun _ _ => 0) 90) := by rw [← hV1]; exact World.alloc_heap_new wr _
                  have bg1 := (kV1.block W.heap.size hsw).trans Bg.out
                  have zV1 := (Array.getElem?_eq_some_iff.1 bz1).1
                  have qp1 := carry kV1 qp lpb2
                  have c01 := carry kV1 c0 hpbl
                  have c11 := carry kV1 c1 hpbl
                  clear hV1
                  refine wpAny_ready (rs := [6]) (by kernel_rfl) (by simp) ?_
                  refine AllReady.cons rfl (fun K hK => ?_) AllReady.nil
                  rw [if_pos (by kernel_rfl)]
                  go_simp
                  refine (CallW.out _).mono ?_
                  rintro e w2 ⟨rfl, hb2⟩
                  try go_simp
                  refine hK _ _ ?_
                  clear hK K
                  refine wpAny_ready (rs := [8]) (by kernel_rfl) (by simp) ?_
                  refine AllReady.cons rfl (fun K hK => ?_) AllReady.nil
                  rw [if_pos (by kernel_rfl)]
                  have bz2 := (hb2.block wr.heap.size zV1).trans bz1
                  refine wp_store_row 90 _ _ rfl wr.heap.size F2 rfl rfl 90 _ bz2 hiF2 ((shC_size _).trans hF2s.symm) hF21 ?_
                  refine hK _ _ ?_
                  clear hK K
                  refine wpAny_done (by kernel_rfl) ?_ _
                  go_wp2_with fail
                  go_meet
                  exact ⟨wr.heap.size, rfl, Nat.le_refl _, below_setRow (kV1.trans (hb2.mono kV1.size)) (Nat.le_refl _) F2, setRow_heap w2 _ _ F2 _ (0, 0) bz2⟩
              · skip
                rw [if_pos (by kernel_rfl)]
                go_simp
                refine hK _ _ ?_
                clear hK K
                rw [← shC_zero]
                obtain ⟨V1, hV1⟩ : ∃ V1, (wr.alloc (Obj.cells (shC fun _ _ => 0) 90)).drew = V1 := ⟨_, rfl⟩
                rw [hV1]
                have kV1 : Below wr.heap.size wr V1 := by rw [← hV1]; exact ((Below.refl _ _).alloc (Nat.le_refl _) _).drew
                have bz1 : V1.heap[wr.heap.size]? = some (Obj.cells (shC fun _ _ => 0) 90) := by rw [← hV1]; exact World.alloc_heap_new wr _
                have bg1 := (kV1.block W.heap.size hsw).trans Bg.out
                have zV1 := (Array.getElem?_eq_some_iff.1 bz1).1
                have qp1 := carry kV1 qp lpb2
                have c01 := carry kV1 c0 hpbl
                have c11 := carry kV1 c1 hpbl
                clear hV1
                refine wpAny_ready (rs := [4]) (by kernel_rfl) (by simp) ?_
                refine AllReady.cons rfl (fun K hK => ?_) AllReady.nil
                rw [if_pos (by kernel_rfl)]
                go_simp
                refine hK _ _ ?_
                clear hK K
                refine wpAny_ready (rs := [6]) (by kernel_rfl) (by simp) ?_
                refine AllReady.cons rfl (fun K hK => ?_) AllReady.nil
                rw [if_pos (by kernel_rfl)]
                go_simp
                refine (CallW.out _).mono ?_
                rintro e w2 ⟨rfl, hb2⟩
                try go_simp
                refine hK _ _ ?_
                clear hK K
                refine wpAny_ready (rs := [8]) (by kernel_rfl) (by simp) ?_
                refine AllReady.cons rfl (fun K hK => ?_) AllReady.nil
                rw [if_pos (by kernel_rfl)]
                have bz2 := (hb2.block wr.heap.size zV1).trans bz1
                refine wp_store_row 90 _ _ rfl wr.heap.size F2 rfl rfl 90 _ bz2 hiF2 ((shC_size _).trans hF2s.symm) hF21 ?_
                refine hK _ _ ?_
                clear hK K
                refine wpAny_done (by kernel_rfl) ?_ _
                go_wp2_with fail
                go_meet
                exact ⟨wr.heap.size, rfl, Nat.le_refl _, below_setRow (kV1.trans (hb2.mono kV1.size)) (Nat.le_refl _) F2, setRow_heap w2 _ _ F2 _ (0, 0) bz2⟩
            · skip
              rw [if_pos (by kernel_rfl)]
              go_simp
              refine hK _ _ ?_
              clear hK K
              refine wpAny_ready (rs := [0, 7]) (by kernel_rfl) (by simp) ?_
              refine AllReady.cons rfl (fun K hK => ?_) (AllReady.cons rfl (fun K hK => ?_) AllReady.nil)
              · skip
                rw [if_pos (by kernel_rfl)]
                refine wp_load_row 90 _ rfl W.heap.size rfl 90 F (0, 0) _ Bg.out sh_under rfl hiF ?_
                refine hK _ _ ?_
                clear hK K
                refine wpAny_ready (rs := [6, 7]) (by kernel_rfl) (by simp) ?_
                refine AllReady.cons rfl (fun K hK => ?_) (AllReady.cons rfl (fun K hK => ?_) AllReady.nil)
                · skip
                  rw [if_pos (by kernel_rfl)]
                  go_simp
                  refine (CallW.out _).mono ?_
                  rintro e w2 ⟨rfl, hb2⟩
                  try go_simp
                  refine hK _ _ ?_
                  clear hK K
                  refine wpAny_ready (rs := [7]) (by kernel_rfl) (by simp) ?_
                  refine AllReady.cons rfl (fun K hK => ?_) AllReady.nil
                  rw [if_pos (by kernel_rfl)]
                  go_simp
                  refine hK _ _ ?_
                  clear hK K
                  rw [← shC_zero]
                  obtain ⟨V1, hV1⟩ : ∃ V1, w2.alloc (Obj.cells (shC fun _ _ => 0) 90) = V1 := ⟨_, rfl⟩
                  rw [hV1]
                  have kV1 : Below w2.heap.size w2 V1 := by rw [← hV1]; go_grown
                  have bz1 : V1.heap[w2.heap.size]? = some (Obj.cells (shC fun _ _ => 0) 90) := by rw [← hV1]; exact World.alloc_heap_new w2 _
                  clear hV1
                  refine wpAny_ready (rs := [8]) (by kernel_rfl) (by simp) ?_
                  refine AllReady.cons rfl (fun K hK => ?_) AllReady.nil
                  rw [if_pos (by kernel_rfl)]
                  refine wp_store_row 90 _ _ rfl w2.heap.size F2 rfl rfl 90 _ bz1 hiF2 ((shC_size _).trans hF2s.symm) hF21 ?_
                  refine hK _ _ ?_
                  clear hK K
                  refine wpAny_done (by kernel_rfl) ?_ _
                  go_wp2_with fail
                  go_meet
                  exact ⟨w2.heap.size, rfl, hb2.size, below_setRow (((Below.refl _ wr).drew.trans hb2).trans (kV1.mono hb2.size)) hb2.size F2, setRow_heap V1 _ _ F2 _ (0, 0) bz1⟩
                · skip
                  rw [if_pos (by kernel_rfl)]
                  go_simp
                  refine hK _ _ ?_
                  clear hK K
                  rw [← shC_zero]
                  obtain ⟨V1, hV1⟩ : ∃ V1, (wr.alloc (Obj.cells (shC fun _ _ => 0) 90)).drew = V1 := ⟨_, rfl⟩
                  rw [hV1]
                  have kV1 : Below wr.heap.size wr V1 := by rw [← hV1]; exact ((Below.refl _ _).alloc (Nat.le_refl _) _).drew
                  have bz1 : V1.heap[wr.heap.size]? = some (Obj.cells (shC fun _ _ => 0) 90) := by rw [← hV1]; exact World.alloc_heap_new wr _
                  have bg1 := (kV1.block W.heap.size hsw).trans Bg.out
                  have zV1 := (Array.getElem?_eq_some_iff.1 bz1).1
                  have qp1 := carry kV1 qp lpb2
                  have c01 := carry kV1 c0 hpbl
                  have c11 := carry kV1 c1 hpbl
                  clear hV1
                  refine wpAny_ready (rs := [6]) (by kernel_rfl) (by simp) ?_
                  refine AllReady.cons rfl (fun K hK => ?_) AllReady.nil
                  rw [if_pos (by kernel_rfl)]
                  go_simp
                  refine (CallW.out _).mono ?_
                  rintro e w2 ⟨rfl, hb2⟩
                  try go_simp
                  refine hK _ _ ?_
                  clear hK K
                  refine wpAny_ready (rs := [8]) (by kernel_rfl) (by simp) ?_
                  refine AllReady.cons rfl (fun K hK => ?_) AllReady.nil
                  rw [if_pos (by kernel_rfl)]
                  have bz2 := (hb2.block wr.heap.size zV1).trans bz1
                  refine wp_store_row 90 _ _ rfl wr.heap.size F2 rfl rfl 90 _ bz2 hiF2 ((shC_size _).trans hF2s.symm) hF21 ?_
                  refine hK _ _ ?_
                  clear hK K
                  refine wpAny_done (by kernel_rfl) ?_ _
                  go_wp2_with fail
                  go_meet
                  exact ⟨wr.heap.size, rfl, Nat.le_refl _, below_setRow (kV1.trans (hb2.mono kV1.size)) (Nat.le_refl _) F2, setRow_heap w2 _ _ F2 _ (0, 0) bz2⟩
              · skip
                rw [if_pos (by kernel_rfl)]
                go_simp
                refine hK _ _ ?_
                clear hK K
                rw [← shC_zero]
                obtain ⟨V1, hV1⟩ : ∃ V1, (wr.alloc (Obj.cells (shC fun _ _ => 0) 90)).drew = V1 := ⟨_, rfl⟩
                rw [hV1]
                have kV1 : Below wr.heap.size wr V1 := by rw [← hV1]; exact ((Below.refl _ _).alloc (Nat.le_refl _) _).drew
                have bz1 : V1.heap[wr.heap.size]? = some (Obj.cells (shC fun _ _ => 0) 90) := by rw [← hV1]; exact World.alloc_heap_new wr _
                have bg1 := (kV1.block W.heap.size hsw).trans Bg.out
                have zV1 := (Array.getElem?_eq_some_iff.1 bz1).1
                have qp1 := carry kV1 qp lpb2
                have c01 := carry kV1 c0 hpbl
                have c11 := carry kV1 c1 hpbl
                clear hV1
                refine wpAny_ready (rs := [0]) (by kernel_rfl) (by simp) ?_
                refine AllReady.cons rfl (fun K hK => ?_) AllReady.nil
                rw [if_pos (by kernel_rfl)]
                refine wp_load_row 90 _ rfl W.heap.size rfl 90 F (0, 0) _ bg1 sh_under rfl hiF ?_
                refine hK _ _ ?_
                clear hK K
                refine wpAny_ready (rs := [6]) (by kernel_rfl) (by simp) ?_
                refine AllReady.cons rfl (fun K hK => ?_) AllReady.nil
                rw [if_pos (by kernel_rfl)]
                go_simp
                refine (CallW.out _).mono ?_
                rintro e w2 ⟨rfl, hb2⟩
                try go_simp
                refine hK _ _ ?_
                clear hK K
                refine wpAny_ready (rs := [8]) (by kernel_rfl) (by simp) ?_
                refine AllReady.cons rfl (fun K hK => ?_) AllReady.nil
                rw [if_pos (by kernel_rfl)]
                have bz2 := (hb2.block wr.heap.size zV1).trans bz1
                refine wp_store_row 90 _ _ rfl wr.heap.size F2 rfl rfl 90 _ bz2 hiF2 ((shC_size _).trans hF2s.symm) hF21 ?_
                refine hK _ _ ?_
                clear hK K
                refine wpAny_done (by kernel_rfl) ?_ _
                go_wp2_with fail
                go_meet
                exact ⟨wr.heap.size, rfl, Nat.le_refl _, below_setRow (kV1.trans (hb2.mono kV1.size)) (Nat.le_refl _) F2, setRow_heap w2 _ _ F2 _ (0, 0) bz2⟩
            · skip
              rw [if_pos (by kernel_rfl)]
              go_simp
              refine hK _ _ ?_
              clear hK K
              rw [← shC_zero]
              obtain ⟨V1, hV1⟩ : ∃ V1, (wr.alloc (Obj.cells (shC fun _ _ => 0) 90)).drew = V1 := ⟨_, rfl⟩
              rw [hV1]
              have kV1 : Below wr.heap.size wr V1 := by rw [← hV1]; exact ((Below.refl _ _).alloc (Nat.le_refl _) _).drew
              have bz1 : V1.heap[wr.heap.size]? = some (Obj.cells (shC fun _ _ => 0) 90) := by rw [← hV1]; exact World.alloc_heap_new wr _
              have bg1 := (kV1.block W.heap.size hsw).trans Bg.out
              have zV1 := (Array.getElem?_eq_some_iff.1 bz1).1
              have qp1 := carry kV1 qp lpb2
              have c01 := carry kV1 c0 hpbl
              have c11 := carry kV1 c1 hpbl
              clear hV1
              refine wpAny_ready (rs := [0, 4]) (by kernel_rfl) (by simp) ?_
              refine AllReady.cons rfl (fun K hK => ?_) (AllReady.cons rfl (fun K hK => ?_) AllReady.nil)
              · skip
                rw [if_pos (by kernel_rfl)]
                refine wp_load_row 90 _ rfl W.heap.size rfl 90 F (0, 0) _ bg1 sh_under rfl hiF ?_
                refine hK _ _ ?_
                clear hK K
                refine wpAny_ready (rs := [4]) (by kernel_rfl) (by simp) ?_
                refine AllReady.cons rfl (fun K hK => ?_) AllReady.nil
                rw [if_pos (by kernel_rfl)]
                go_simp
                refine hK _ _ ?_
                clear hK K
                refine wpAny_ready (rs := [6]) (by kernel_rfl) (by simp) ?_
                refine AllReady.cons rfl (fun K hK => ?_) AllReady.nil
                rw [if_pos (by kernel_rfl)]
                go_simp
                refine (CallW.out _).mono ?_
                rintro e w2 ⟨rfl, hb2⟩
                try go_simp
                refine hK _ _ ?_
                clear hK K
                refine wpAny_ready (rs := [8]) (by kernel_rfl) (by simp) ?_
                refine AllReady.cons rfl (fun K hK => ?_) AllReady.nil
                rw [if_pos (by kernel_rfl)]
                have bz2 := (hb2.block wr.heap.size zV1).trans bz1
                refine wp_store_row 90 _ _ rfl wr.heap.size F2 rfl rfl 90 _ bz2 hiF2 ((shC_size _).trans hF2s.symm) hF21 ?_
                refine hK _ _ ?_
                clear hK K
                refine wpAny_done (by kernel_rfl) ?_ _
                go_wp2_with fail
                go_meet
                exact ⟨wr.heap.size, rfl, Nat.le_refl _, below_setRow (kV1.trans (hb2.mono kV1.size)) (Nat.le_refl _) F2, setRow_heap w2 _ _ F2 _ (0, 0) bz2⟩
              · skip
                rw [if_pos (by kernel_rfl)]
                go_simp
                refine hK _ _ ?_
                clear hK K
                refine wpAny_ready (rs := [0]) (by kernel_rfl) (by simp) ?_
                refine AllReady.cons rfl (fun K hK => ?_) AllReady.nil
                rw [if_pos (by kernel_rfl)]
                refine wp_load_row 90 _ rfl W.heap.size rfl 90 F (0, 0) _ bg1 sh_under rfl hiF ?_
                refine hK _ _ ?_
                clear hK K
                refine wpAny_ready (rs := [6]) (by kernel_rfl) (by simp) ?_
                refine AllReady.cons rfl (fun K hK => ?_) AllReady.nil
                rw [if_pos (by kernel_rfl)]
                go_simp
                refine (CallW.out _).mono ?_
                rintro e w2 ⟨rfl, hb2⟩
                try go_simp
                refine hK _ _ ?_
                clear hK K
                refine wpAny_ready (rs := [8]) (by kernel_rfl) (by simp) ?_
                refine AllReady.cons rfl (fun K hK => ?_) AllReady.nil
                rw [if_pos (by kernel_rfl)]
                have bz2 := (hb2.block wr.heap.size zV1).trans bz1
                refine wp_store_row 90 _ _ rfl wr.heap.size F2 rfl rfl 90 _ bz2 hiF2 ((shC_size _).trans hF2s.symm) hF21 ?_
                refine hK _ _ ?_
                clear hK K
                refine wpAny_done (by kernel_rfl) ?_ _
                go_wp2_with fail
                go_meet
                exact ⟨wr.heap.size, rfl, Nat.le_refl _, below_setRow (kV1.trans (hb2.mono kV1.size)) (Nat.le_refl _) F2, setRow_heap w2 _ _ F2 _ (0, 0) bz2⟩
          · skip
            rw [if_pos (by kernel_rfl)]
            go_simp
            refine hK _ _ ?_
            clear hK K
            rw [← shC_zero]
            obtain ⟨V1, hV1⟩ : ∃ V1, (wr.alloc (Obj.cells (shC fun _ _ => 0) 90)).drew = V1 := ⟨_, rfl⟩
            rw [hV1]
            have kV1 : Below wr.heap.size wr V1 := by rw [← hV1]; exact ((Below.refl _ _).alloc (Nat.le_refl _) _).drew
            have bz1 : V1.heap[wr.heap.size]? = some (Obj.cells (shC fun _ _ => 0) 90) := by rw [← hV1]; exact World.alloc_heap_new wr _
            have bg1 := (kV1.block W.heap.size hsw).trans Bg.out
            have zV1 := (Array.getElem?_eq_some_iff.1 bz1).1
            have qp1 := carry kV1 qp lpb2
            have c01 := carry kV1 c0 hpbl
            have c11 := carry kV1 c1 hpbl
            clear hV1
            refine wpAny_ready (rs := [0, 1]) (by kernel_rfl) (by simp) ?_
            refine AllReady.cons rfl (fun K hK => ?_) (AllReady.cons rfl (fun K hK => ?_) AllReady.nil)
            · skip
              rw [if_pos (by kernel_rfl)]
              refine wp_load_row 90 _ rfl W.heap.size rfl 90 F (0, 0) _ bg1 sh_under rfl hiF ?_
              refine hK _ _ ?_
              clear hK K
              refine wpAny_ready (rs := [1]) (by kernel_rfl) (by simp) ?_
              refine AllReady.cons rfl (fun K hK => ?_) AllReady.nil
              rw [if_pos (by kernel_rfl)]
              go_simp
              refine hK _ _ ?_
              clear hK K
              refine wpAny_take (i := 3) (v := ?v3_6) rfl (by kernel_rfl) (by kernel_rfl) (by kernel_rfl) (fun _ _ _ h => h) (Or.inl ⟨by first | kernel_rfl | rfl, ?hy3_6⟩) ?rest3_6
              case hy3_6 => (intro w; go_simp; all_goals (with_reducible rfl))
              refine wpAny_ready (rs := [4]) (by kernel_rfl) (by simp) ?_
              refine AllReady.cons rfl (fun K hK => ?_) AllReady.nil
              rw [if_pos (by kernel_rfl)]
              go_simp
              refine hK _ _ ?_
              clear hK K
              refine wpAny_ready (rs := [6]) (by kernel_rfl) (by simp) ?_
              refine AllReady.cons rfl (fun K hK => ?_) AllReady.nil
              rw [if_pos (by kernel_rfl)]
              go_simp
              refine (CallW.out _).mono ?_
              rintro e w2 ⟨rfl, hb2⟩
              try go_simp
              refine hK _ _ ?_
              clear hK K
              refine wpAny_ready (rs := [8]) (by kernel_rfl) (by simp) ?_
              refine AllReady.cons rfl (fun K hK => ?_) AllReady.nil
              rw [if_pos (by kernel_rfl)]
              have bz2 := (hb2.block wr.heap.size zV1).trans bz1
              refine wp_store_row 90 _ _ rfl wr.heap.size F2 rfl rfl 90 _ bz2 hiF2 ((shC_size _).trans hF2s.symm) hF21 ?_
              refine hK _ _ ?_
              clear hK K
              refine wpAny_done (by kernel_rfl) ?_ _
              go_wp2_with fail
              go_meet
              exact ⟨wr.heap.size, rfl, Nat.le_refl _, below_setRow (kV1.trans (hb2.mono kV1.size)) (Nat.le_refl _) F2, setRow_heap w2 _ _ F2 _ (0, 0) bz2⟩
            · skip
              rw [if_pos (by kernel_rfl)]
              go_simp
              refine hK _ _ ?_
              clear hK K
              refine wpAny_take (i := 3) (v := ?v3_7) rfl (by kernel_rfl) (by kernel_rfl) (by kernel_rfl) (fun _ _ _ h => h) (Or.inl ⟨by first | kernel_rfl | rfl, ?hy3_7⟩) ?rest3_7
              case hy3_7 => (intro w; go_simp; all_goals (with_reducible rfl))
              refine wpAny_ready (rs := [0, 4]) (by kernel_rfl) (by simp) ?_
              refine AllReady.cons rfl (fun K hK => ?_) (AllReady.cons rfl (fun K hK => ?_) AllReady.nil)
              · skip
                rw [if_pos (by kernel_rfl)]
                refine wp_load_row 90 _ rfl W.heap.size rfl 90 F (0, 0) _ bg1 sh_under rfl hiF ?_
                refine hK _ _ ?_
                clear hK K
                refine wpAny_ready (rs := [4]) (by kernel_rfl) (by simp) ?_
                refine AllReady.cons rfl (fun K hK => ?_) AllReady.nil
                rw [if_pos (by kernel_rfl)]
                go_simp
                refine hK _ _ ?_
                clear hK K
                refine wpAny_ready (rs := [6]) (by kernel_rfl) (by simp) ?_
                refine AllReady.cons rfl (fun K hK => ?_) AllReady.nil
                rw [if_pos (by kernel_rfl)]
                go_simp
                refine (CallW.out _).mono ?_
                rintro e w2 ⟨rfl, hb2⟩
                try go_simp
                refine hK _ _ ?_
                clear hK K
                refine wpAny_ready (rs := [8]) (by kernel_rfl) (by simp) ?_
                refine AllReady.cons rfl (fun K hK => ?_) AllReady.nil
                rw [if_pos (by kernel_rfl)]
                have bz2 := (hb2.block wr.heap.size zV1).trans bz1
                refine wp_store_row 90 _ _ rfl wr.heap.size F2 rfl rfl 90 _ bz2 hiF2 ((shC_size _).trans hF2s.symm) hF21 ?_
                refine hK _ _ ?_
                clear hK K
                refine wpAny_done (by kernel_rfl) ?_ _
                go_wp2_with fail
                go_meet
                exact ⟨wr.heap.size, rfl, Nat.le_refl _, below_setRow (kV1.trans (hb2.mono kV1.size)) (Nat.le_refl _) F2, setRow_heap w2 _ _ F2 _ (0, 0) bz2⟩
              · skip
                rw [if_pos (by kernel_rfl)]
                go_simp
                refine hK _ _ ?_
                clear hK K
                refine wpAny_ready (rs := [0]) (by kernel_rfl) (by simp) ?_
                refine AllReady.cons rfl (fun K hK => ?_) AllReady.nil
                rw [if_pos (by kernel_rfl)]
                refine wp_load_row 90 _ rfl W.heap.size rfl 90 F (0, 0) _ bg1 sh_under rfl hiF ?_
                refine hK _ _ ?_
                clear hK K
                refine wpAny_ready (rs := [6]) (by kernel_rfl) (by simp) ?_
                refine AllReady.cons rfl (fun K hK => ?_) AllReady.nil
                rw [if_pos (by kernel_rfl)]
                go_simp
                refine (CallW.out _).mono ?_
                rintro e w2 ⟨rfl, hb2⟩
                try go_simp
                refine hK _ _ ?_
                clear hK K
                refine wpAny_ready (rs := [8]) (by kernel_rfl) (by simp) ?_
                refine AllReady.cons rfl (fun K hK => ?_) AllReady.nil
                rw [if_pos (by kernel_rfl)]
                have bz2 := (hb2.block wr.heap.size zV1).trans bz1
                refine wp_store_row 90 _ _ rfl wr.heap.size F2 rfl rfl 90 _ bz2 hiF2 ((shC_size _).trans hF2s.symm) hF21 ?_
                refine hK _ _ ?_
                clear hK K
                refine wpAny_done (by kernel_rfl) ?_ _
                go_wp2_with fail
                go_meet
                exact ⟨wr.heap.size, rfl, Nat.le_refl _, below_setRow (kV1.trans (hb2.mono kV1.size)) (Nat.le_refl _) F2, setRow_heap w2 _ _ F2 _ (0, 0) bz2⟩
        case rest =>
          obtain ⟨g, rfl, hg1, kx, bF2⟩ := hcut
          obtain ⟨wx, hwx⟩ : ∃ w', w' = wc := ⟨_, rfl⟩
          subst hwx
          have sx := kx.size
          have qp2 := carry kx qp lpb2
          have c02 := carry kx c0 hpbl
          have c12 := carry kx c1 hpbl
          have lbl := World.block_lt_of_cell? wr _ qk
          have qk2 := carry kx qk lbl
          have Bg2 := Lib.hid bF2
          have lg := (Array.getElem?_eq_some_iff.1 bF2).1
          have KX := Lib.hid kx
          have cmp := CallC.out wx.drew
          have hGx := HGx.out x
          have hflat : (List.range (x + 1)).flatMap G = (List.range x).flatMap G ++ G x := by rw [List.range_succ, List.flatMap_append, List.flatMap_cons, List.flatMap_nil, List.append_nil]
          have hfp := flat_prefixA (G := G) hlt
          have Hflat := Lib.hid hflat
          have HFP := Lib.hid hfp
          clear bF2 kx qp c0 c1 qk hflat hfp
          cases hcz : closesX n (t ++ [(x : Int)]) a b with
          | true =>
            rw [hcz] at cmp hGx
            rw [if_pos rfl] at hGx
            have Cmp := Lib.hid cmp
            have HGn := Lib.hid hGx
            clear cmp hGx hcz
            go_upto_region 7 with fail
            refine wp_region_any (by kernel_rfl) ?_
            change wpAny _ _ _ _ _ _ _ wx.drew
            refine wpAny_take (i := 2) (v := ?v2_8) rfl (by kernel_rfl) (by kernel_rfl) (by kernel_rfl) (fun _ _ _ h => h) (Or.inl ⟨by first | kernel_rfl | rfl, ?hy2_8⟩) ?rest2_8
            case hy2_8 => (intro w; go_simp; all_goals (with_reducible rfl))
            refine wpAny_ready (rs := [0, 1]) (by kernel_rfl) (by simp) ?_
            refine AllReady.cons rfl (fun K hK => ?_) (AllReady.cons rfl (fun K hK => ?_) AllReady.nil)
            · skip
              rw [if_pos (by kernel_rfl)]
              refine wp_load_row 90 _ rfl g rfl 90 F2 (0, 0) _ Bg2.out sh_under rfl hiF2 ?_
              refine hK _ _ ?_
              clear hK K
              refine wpAny_ready (rs := [1]) (by kernel_rfl) (by simp) ?_
              refine AllReady.cons rfl (fun K hK => ?_) AllReady.nil
              rw [if_pos (by kernel_rfl)]
              go_simp
              refine hK _ _ ?_
              clear hK K
              refine wpAny_take (i := 3) (v := ?v3_9) rfl (by kernel_rfl) (by kernel_rfl) (by kernel_rfl) (fun _ _ _ h => h) (Or.inl ⟨by first | kernel_rfl | rfl, ?hy3_9⟩) ?rest3_9
              case hy3_9 => (intro w; go_simp; all_goals (with_reducible rfl))
              refine wpAny_ready (rs := [4]) (by kernel_rfl) (by simp) ?_
              refine AllReady.cons rfl (fun K hK => ?_) AllReady.nil
              rw [if_pos (by kernel_rfl)]
              go_simp
              refine hK _ _ ?_
              clear hK K
              refine wpAny_ready (rs := [5]) (by kernel_rfl) (by simp) ?_
              refine AllReady.cons rfl (fun K hK => ?_) AllReady.nil
              rw [if_pos (by kernel_rfl)]
              go_simp
              refine Cmp.out.mono ?_
              rintro e w3 ⟨rfl, hb3⟩
              try go_simp
              refine hK _ _ ?_
              clear hK K
              refine wpAny_ready (rs := [6]) (by kernel_rfl) (by simp) ?_
              refine AllReady.cons rfl (fun K hK => ?_) AllReady.nil
              rw [if_pos (by kernel_rfl)]
              go_simp
              refine hK _ _ ?_
              clear hK K
              refine wpAny_ready (rs := [7]) (by kernel_rfl) (by simp) ?_
              refine AllReady.cons rfl (fun K hK => ?_) AllReady.nil
              rw [if_pos (by kernel_rfl)]
              go_simp
              refine hK _ _ ?_
              clear hK K
              refine wpAny_take (i := 9) (v := undef) rfl (by kernel_rfl) (by kernel_rfl) (by kernel_rfl) (fun _ _ _ h => h) (Or.inr ⟨by kernel_rfl, rfl⟩) ?_
              refine wpAny_take (i := 10) (v := undef) rfl (by kernel_rfl) (by kernel_rfl) (by kernel_rfl) (fun _ _ _ h => h) (Or.inr ⟨by kernel_rfl, rfl⟩) ?_
              refine wpAny_ready (rs := [8, 11]) (by kernel_rfl) (by simp) ?_
              refine AllReady.cons rfl (fun K hK => ?_) (AllReady.cons rfl (fun K hK => ?_) AllReady.nil)
              · skip
                rw [if_neg (Bool.eq_false_iff.1 (by kernel_rfl))]
                refine hK _ _ ?_
                clear hK K
                refine wpAny_ready (rs := [11]) (by kernel_rfl) (by simp) ?_
                refine AllReady.cons rfl (fun K hK => ?_) AllReady.nil
                rw [if_neg (Bool.eq_false_iff.1 (by kernel_rfl))]
                refine hK _ _ ?_
                clear hK K
                refine wpAny_ready (rs := [12]) (by kernel_rfl) (by simp) ?_
                refine AllReady.cons rfl (fun K hK => ?_) AllReady.nil
                rw [if_neg (Bool.eq_false_iff.1 (by kernel_rfl))]
                refine hK _ _ ?_
                clear hK K
                refine wpAny_ready (rs := [13]) (by kernel_rfl) (by simp) ?_
                refine AllReady.cons rfl (fun K hK => ?_) AllReady.nil
                rw [if_neg (Bool.eq_false_iff.1 (by kernel_rfl))]
                refine hK _ _ ?_
                clear hK K
                refine wpAny_ready (rs := [14]) (by kernel_rfl) (by simp) ?_
                refine AllReady.cons rfl (fun K hK => ?_) AllReady.nil
                rw [if_pos (by kernel_rfl)]
                go_simp
                refine hK _ _ ?_
                clear hK K
                refine wpAny_done (by kernel_rfl) ?_ _
                have Fin := Lib.hid (show LookYes J R S0 none 0 [] (pre ++ (List.range (x + 1)).flatMap G) W1 w3 from by rw [Hflat.out, HGn.out, List.append_nil]; exact Hyes.out.overA hh hR hB1 (KX.out.trans (((Below.refl _ wx).drew.trans hb3).mono KX.out.size)))
                clear hb3
                go_wp2
                go_roundw
                case rel => exact ⟨x + 1, by omega, by go_num, Fin.out⟩
                case measure => simp [intOf]; omega
              · skip
                rw [if_neg (Bool.eq_false_iff.1 (by kernel_rfl))]
                refine hK _ _ ?_
                clear hK K
                refine wpAny_ready (rs := [8]) (by kernel_rfl) (by simp) ?_
                refine AllReady.cons rfl (fun K hK => ?_) AllReady.nil
                rw [if_neg (Bool.eq_false_iff.1 (by kernel_rfl))]
                refine hK _ _ ?_
                clear hK K
                refine wpAny_ready (rs := [12]) (by kernel_rfl) (by simp) ?_
                refine AllReady.cons rfl (fun K hK => ?_) AllReady.nil
                rw [if_neg (Bool.eq_false_iff.1 (by kernel_rfl))]
                refine hK _ _ ?_
                clear hK K
                refine wpAny_ready (rs := [13]) (by kernel_rfl) (by simp) ?_
                refine AllReady.cons rfl (fun K hK => ?_) AllReady.nil
                rw [if_neg (Bool.eq_false_iff.1 (by kernel_rfl))]
                refine hK _ _ ?_
                clear hK K
                refine wpAny_ready (rs := [14]) (by kernel_rfl) (by simp) ?_
                refine AllReady.cons rfl (fun K hK => ?_) AllReady.nil
                rw [if_pos (by kernel_rfl)]
                go_simp
                refine hK _ _ ?_
                clear hK K
                refine wpAny_done (by kernel_rfl) ?_ _
                have Fin := Lib.hid (show LookYes J R S0 none 0 [] (pre ++ (List.range (x + 1)).flatMap G) W1 w3 from by rw [Hflat.out, HGn.out, List.append_nil]; exact Hyes.out.overA hh hR hB1 (KX.out.trans (((Below.refl _ wx).drew.trans hb3).mono KX.out.size)))
                clear hb3
                go_wp2
                go_roundw
                case rel => exact ⟨x + 1, by omega, by go_num, Fin.out⟩
                case measure => simp [intOf]; omega
            · skip
              rw [if_pos (by kernel_rfl)]
              go_simp
              refine hK _ _ ?_
              clear hK K
              refine wpAny_take (i := 3) (v := ?v3_10) rfl (by kernel_rfl) (by kernel_rfl) (by kernel_rfl) (fun _ _ _ h => h) (Or.inl ⟨by first | kernel_rfl | rfl, ?hy3_10⟩) ?rest3_10
              case hy3_10 => (intro w; go_simp; all_goals (with_reducible rfl))
              refine wpAny_ready (rs := [0, 4]) (by kernel_rfl) (by simp) ?_
              refine AllReady.cons rfl (fun K hK => ?_) (AllReady.cons rfl (fun K hK => ?_) AllReady.nil)
              · skip
                rw [if_pos (by kernel_rfl)]
                refine wp_load_row 90 _ rfl g rfl 90 F2 (0, 0) _ Bg2.out sh_under rfl hiF2 ?_
                refine hK _ _ ?_
                clear hK K
                refine wpAny_ready (rs := [4]) (by kernel_rfl) (by simp) ?_
                refine AllReady.cons rfl (fun K hK => ?_) AllReady.nil
                rw [if_pos (by kernel_rfl)]
                go_simp
                refine hK _ _ ?_
                clear hK K
                refine wpAny_ready (rs := [5]) (by kernel_rfl) (by simp) ?_
                refine AllReady.cons rfl (fun K hK => ?_) AllReady.nil
                rw [if_pos (by kernel_rfl)]
                go_simp
                refine Cmp.out.mono ?_
                rintro e w3 ⟨rfl, hb3⟩
                try go_simp
                refine hK _ _ ?_
                clear hK K
                refine wpAny_ready (rs := [6]) (by kernel_rfl) (by simp) ?_
                refine AllReady.cons rfl (fun K hK => ?_) AllReady.nil
                rw [if_pos (by kernel_rfl)]
                go_simp
                refine hK _ _ ?_
                clear hK K
                refine wpAny_ready (rs := [7]) (by kernel_rfl) (by simp) ?_
                refine AllReady.cons rfl (fun K hK => ?_) AllReady.nil
                rw [if_pos (by kernel_rfl)]
                go_simp
                refine hK _ _ ?_
                clear hK K
                refine wpAny_take (i := 9) (v := undef) rfl (by kernel_rfl) (by kernel_rfl) (by kernel_rfl) (fun _ _ _ h => h) (Or.inr ⟨by kernel_rfl, rfl⟩) ?_
                refine wpAny_take (i := 10) (v := undef) rfl (by kernel_rfl) (by kernel_rfl) (by kernel_rfl) (fun _ _ _ h => h) (Or.inr ⟨by kernel_rfl, rfl⟩) ?_
                refine wpAny_ready (rs := [8, 11]) (by kernel_rfl) (by simp) ?_
                refine AllReady.cons rfl (fun K hK => ?_) (AllReady.cons rfl (fun K hK => ?_) AllReady.nil)
                · skip
                  rw [if_neg (Bool.eq_false_iff.1 (by kernel_rfl))]
                  refine hK _ _ ?_
                  clear hK K
                  refine wpAny_ready (rs := [11]) (by kernel_rfl) (by simp) ?_
                  refine AllReady.cons rfl (fun K hK => ?_) AllReady.nil
                  rw [if_neg (Bool.eq_false_iff.1 (by kernel_rfl))]
                  refine hK _ _ ?_
                  clear hK K
                  refine wpAny_ready (rs := [12]) (by kernel_rfl) (by simp) ?_
                  refine AllReady.cons rfl (fun K hK => ?_) AllReady.nil
                  rw [if_neg (Bool.eq_false_iff.1 (by kernel_rfl))]
                  refine hK _ _ ?_
                  clear hK K
                  refine wpAny_ready (rs := [13]) (by kernel_rfl) (by simp) ?_
                  refine AllReady.cons rfl (fun K hK => ?_) AllReady.nil
                  rw [if_neg (Bool.eq_false_iff.1 (by kernel_rfl))]
                  refine hK _ _ ?_
                  clear hK K
                  refine wpAny_ready (rs := [14]) (by kernel_rfl) (by simp) ?_
                  refine AllReady.cons rfl (fun K hK => ?_) AllReady.nil
                  rw [if_pos (by kernel_rfl)]
                  go_simp
                  refine hK _ _ ?_
                  clear hK K
                  refine wpAny_done (by kernel_rfl) ?_ _
                  have Fin := Lib.hid (show LookYes J R S0 none 0 [] (pre ++ (List.range (x + 1)).flatMap G) W1 w3 from by rw [Hflat.out, HGn.out, List.append_nil]; exact Hyes.out.overA hh hR hB1 (KX.out.trans (((Below.refl _ wx).drew.trans hb3).mono KX.out.size)))
                  clear hb3
                  go_wp2
                  go_roundw
                  case rel => exact ⟨x + 1, by omega, by go_num, Fin.out⟩
                  case measure => simp [intOf]; omega
                · skip
                  rw [if_neg (Bool.eq_false_iff.1 (by kernel_rfl))]
                  refine hK _ _ ?_
                  clear hK K
                  refine wpAny_ready (rs := [8]) (by kernel_rfl) (by simp) ?_
                  refine AllReady.cons rfl (fun K hK => ?_) AllReady.nil
                  rw [if_neg (Bool.eq_false_iff.1 (by kernel_rfl))]
                  refine hK _ _ ?_
                  clear hK K
                  refine wpAny_ready (rs := [12]) (by kernel_rfl) (by simp) ?_
                  refine AllReady.cons rfl (fun K hK => ?_) AllReady.nil
                  rw [if_neg (Bool.eq_false_iff.1 (by kernel_rfl))]
                  refine hK _ _ ?_
                  clear hK K
                  refine wpAny_ready (rs := [13]) (by kernel_rfl) (by simp) ?_
                  refine AllReady.cons rfl (fun K hK => ?_) AllReady.nil
                  rw [if_neg (Bool.eq_false_iff.1 (by kernel_rfl))]
                  refine hK _ _ ?_
                  clear hK K
                  refine wpAny_ready (rs := [14]) (by kernel_rfl) (by simp) ?_
                  refine AllReady.cons rfl (fun K hK => ?_) AllReady.nil
                  rw [if_pos (by kernel_rfl)]
                  go_simp
                  refine hK _ _ ?_
                  clear hK K
                  refine wpAny_done (by kernel_rfl) ?_ _
                  have Fin := Lib.hid (show LookYes J R S0 none 0 [] (pre ++ (List.range (x + 1)).flatMap G) W1 w3 from by rw [Hflat.out, HGn.out, List.append_nil]; exact Hyes.out.overA hh hR hB1 (KX.out.trans (((Below.refl _ wx).drew.trans hb3).mono KX.out.size)))
                  clear hb3
                  go_wp2
                  go_roundw
                  case rel => exact ⟨x + 1, by omega, by go_num, Fin.out⟩
                  case measure => simp [intOf]; omega
              · skip
                rw [if_pos (by kernel_rfl)]
                go_simp
                refine hK _ _ ?_
                clear hK K
                refine wpAny_ready (rs := [0]) (by kernel_rfl) (by simp) ?_
                refine AllReady.cons rfl (fun K hK => ?_) AllReady.nil
                rw [if_pos (by kernel_rfl)]
                refine wp_load_row 90 _ rfl g rfl 90 F2 (0, 0) _ Bg2.out sh_under rfl hiF2 ?_
                refine hK _ _ ?_
                clear hK K
                refine wpAny_ready (rs := [5]) (by kernel_rfl) (by simp) ?_
                refine AllReady.cons rfl (fun K hK => ?_) AllReady.nil
                rw [if_pos (by kernel_rfl)]
                go_simp
                refine Cmp.out.mono ?_
                rintro e w3 ⟨rfl, hb3⟩
                try go_simp
                refine hK _ _ ?_
                clear hK K
                refine wpAny_ready (rs := [6]) (by kernel_rfl) (by simp) ?_
                refine AllReady.cons rfl (fun K hK => ?_) AllReady.nil
                rw [if_pos (by kernel_rfl)]
                go_simp
                refine hK _ _ ?_
                clear hK K
                refine wpAny_ready (rs := [7]) (by kernel_rfl) (by simp) ?_
                refine AllReady.cons rfl (fun K hK => ?_) AllReady.nil
                rw [if_pos (by kernel_rfl)]
                go_simp
                refine hK _ _ ?_
                clear hK K
                refine wpAny_take (i := 9) (v := undef) rfl (by kernel_rfl) (by kernel_rfl) (by kernel_rfl) (fun _ _ _ h => h) (Or.inr ⟨by kernel_rfl, rfl⟩) ?_
                refine wpAny_take (i := 10) (v := undef) rfl (by kernel_rfl) (by kernel_rfl) (by kernel_rfl) (fun _ _ _ h => h) (Or.inr ⟨by kernel_rfl, rfl⟩) ?_
                refine wpAny_ready (rs := [8, 11]) (by kernel_rfl) (by simp) ?_
                refine AllReady.cons rfl (fun K hK => ?_) (AllReady.cons rfl (fun K hK => ?_) AllReady.nil)
                · skip
                  rw [if_neg (Bool.eq_false_iff.1 (by kernel_rfl))]
                  refine hK _ _ ?_
                  clear hK K
                  refine wpAny_ready (rs := [11]) (by kernel_rfl) (by simp) ?_
                  refine AllReady.cons rfl (fun K hK => ?_) AllReady.nil
                  rw [if_neg (Bool.eq_false_iff.1 (by kernel_rfl))]
                  refine hK _ _ ?_
                  clear hK K
                  refine wpAny_ready (rs := [12]) (by kernel_rfl) (by simp) ?_
                  refine AllReady.cons rfl (fun K hK => ?_) AllReady.nil
                  rw [if_neg (Bool.eq_false_iff.1 (by kernel_rfl))]
                  refine hK _ _ ?_
                  clear hK K
                  refine wpAny_ready (rs := [13]) (by kernel_rfl) (by simp) ?_
                  refine AllReady.cons rfl (fun K hK => ?_) AllReady.nil
                  rw [if_neg (Bool.eq_false_iff.1 (by kernel_rfl))]
                  refine hK _ _ ?_
                  clear hK K
                  refine wpAny_ready (rs := [14]) (by kernel_rfl) (by simp) ?_
                  refine AllReady.cons rfl (fun K hK => ?_) AllReady.nil
                  rw [if_pos (by kernel_rfl)]
                  go_simp
                  refine hK _ _ ?_
                  clear hK K
                  refine wpAny_done (by kernel_rfl) ?_ _
                  have Fin := Lib.hid (show LookYes J R S0 none 0 [] (pre ++ (List.range (x + 1)).flatMap G) W1 w3 from by rw [Hflat.out, HGn.out, List.append_nil]; exact Hyes.out.overA hh hR hB1 (KX.out.trans (((Below.refl _ wx).drew.trans hb3).mono KX.out.size)))
                  clear hb3
                  go_wp2
                  go_roundw
                  case rel => exact ⟨x + 1, by omega, by go_num, Fin.out⟩
                  case measure => simp [intOf]; omega
                · skip
                  rw [if_neg (Bool.eq_false_iff.1 (by kernel_rfl))]
                  refine hK _ _ ?_
                  clear hK K
                  refine wpAny_ready (rs := [8]) (by kernel_rfl) (by simp) ?_
                  refine AllReady.cons rfl (fun K hK => ?_) AllReady.nil
                  rw [if_neg (Bool.eq_false_iff.1 (by kernel_rfl))]
                  refine hK _ _ ?_
                  clear hK K
                  refine wpAny_ready (rs := [12]) (by kernel_rfl) (by simp) ?_
                  refine AllReady.cons rfl (fun K hK => ?_) AllReady.nil
                  rw [if_neg (Bool.eq_false_iff.1 (by kernel_rfl))]
                  refine hK _ _ ?_
                  clear hK K
                  refine wpAny_ready (rs := [13]) (by kernel_rfl) (by simp) ?_
                  refine AllReady.cons rfl (fun K hK => ?_) AllReady.nil
                  rw [if_neg (Bool.eq_false_iff.1 (by kernel_rfl))]
                  refine hK _ _ ?_
                  clear hK K
                  refine wpAny_ready (rs := [14]) (by kernel_rfl) (by simp) ?_
                  refine AllReady.cons rfl (fun K hK => ?_) AllReady.nil
                  rw [if_pos (by kernel_rfl)]
                  go_simp
                  refine hK _ _ ?_
                  clear hK K
                  refine wpAny_done (by kernel_rfl) ?_ _
                  have Fin := Lib.hid (show LookYes J R S0 none 0 [] (pre ++ (List.range (x + 1)).flatMap G) W1 w3 from by rw [Hflat.out, HGn.out, List.append_nil]; exact Hyes.out.overA hh hR hB1 (KX.out.trans (((Below.refl _ wx).drew.trans hb3).mono KX.out.size)))
                  clear hb3
                  go_wp2
                  go_roundw
                  case rel => exact ⟨x + 1, by omega, by go_num, Fin.out⟩
                  case measure => simp [intOf]; omega
          | false =>
            rw [hcz] at cmp hGx
            rw [if_neg (by simp)] at hGx
            have hwq : ((q + 1 : Nat) : Int) = IntKind.i64.wrap ((q : Int) + 1) := by rw [IntKind.wrap_i64]; omega
            have hl2 : (t ++ [(x : Int)]).length = q + 1 := by rw [List.length_append, Hq.out]; rfl
            have callL : ∀ w3, Below wr.heap.size wr w3 → ∃ S3, Hid (LookYes J R S0 none 0 [] (pre ++ (List.range x).flatMap G) W1 w3) ∧ Hid (∀ j, S0 j → S3 j) ∧ Hid (∀ j, S3 j → S0 j ∨ W1.heap.size ≤ j) ∧ Hid (Calls Try.prog 90 #[.int .i64 (IntKind.i64.wrap ((q : Int) + 1)), .agg F2, .pointer (some ⟨pb, 0, none⟩), .pointer (some ⟨yb, 0, none⟩), .pointer (some ⟨cb, 0, none⟩), .pointer (some ⟨bl, 0, none⟩)] w3 fun e W' =>
                  ∃ ok, e = .returned (.bool ok) ∧ LookPost J Jx R S3 none 0 [] (pre ++ (List.range x).flatMap G) (avoidX n k m (t ++ [(x : Int)])) w3 ok W') := fun w3 hw3 => by
              have hy3 := Hyes.out.overA hh hR hB1 hw3
              obtain ⟨S3, hJ3, e1, e2⟩ := hy3.ex
              have ro3 : ∀ j, R j → w3.heap[j]? = W.heap[j]? := fun j hj => (hy3.ro j hj).trans (KW1.out.block j (by have := hR j hj; omega))
              have ihc := ih (t ++ [(x : Int)]) S3 (pre ++ (List.range x).flatMap G) w3 (by rw [hl2]; have := Hq.out; omega) (fun qq hqq => by
                rw [List.append_assoc]
                refine HGD.out _ (((List.prefix_append_right_inj _).2 hqq).trans ?_)
                have h := HFP.out
                rw [hGx] at h
                exact h) (by have := hy3.below.size; omega) (hLb.out.of ro3 h1 h2 h3 h4 hRlo hPB) hJ3
              rw [hl2, HF2.out, hwq] at ihc
              exact ⟨S3, Lib.hid hy3, Lib.hid e1, Lib.hid e2, Lib.hid ihc⟩
            have CallL := Lib.hid callL
            have Cmp := Lib.hid cmp
            have HGn := Lib.hid hGx
            clear cmp hGx hcz callL hwq
            go_upto_region 7 with fail
            refine wp_region_any (by kernel_rfl) ?_
            change wpAny _ _ _ _ _ _ _ wx.drew
            refine wpAny_take (i := 2) (v := ?v2_11) rfl (by kernel_rfl) (by kernel_rfl) (by kernel_rfl) (fun _ _ _ h => h) (Or.inl ⟨by first | kernel_rfl | rfl, ?hy2_11⟩) ?rest2_11
            case hy2_11 => (intro w; go_simp; all_goals (with_reducible rfl))
            refine wpAny_ready (rs := [0, 1]) (by kernel_rfl) (by simp) ?_
            refine AllReady.cons rfl (fun K hK => ?_) (AllReady.cons rfl (fun K hK => ?_) AllReady.nil)
            · skip
              rw [if_pos (by kernel_rfl)]
              refine wp_load_row 90 _ rfl g rfl 90 F2 (0, 0) _ Bg2.out sh_under rfl hiF2 ?_
              refine hK _ _ ?_
              clear hK K
              refine wpAny_ready (rs := [1]) (by kernel_rfl) (by simp) ?_
              refine AllReady.cons rfl (fun K hK => ?_) AllReady.nil
              rw [if_pos (by kernel_rfl)]
              go_simp
              refine hK _ _ ?_
              clear hK K
              refine wpAny_take (i := 3) (v := ?v3_12) rfl (by kernel_rfl) (by kernel_rfl) (by kernel_rfl) (fun _ _ _ h => h) (Or.inl ⟨by first | kernel_rfl | rfl, ?hy3_12⟩) ?rest3_12
              case hy3_12 => (intro w; go_simp; all_goals (with_reducible rfl))
              refine wpAny_ready (rs := [4]) (by kernel_rfl) (by simp) ?_
              refine AllReady.cons rfl (fun K hK => ?_) AllReady.nil
              rw [if_pos (by kernel_rfl)]
              go_simp
              refine hK _ _ ?_
              clear hK K
              refine wpAny_ready (rs := [5]) (by kernel_rfl) (by simp) ?_
              refine AllReady.cons rfl (fun K hK => ?_) AllReady.nil
              rw [if_pos (by kernel_rfl)]
              go_simp
              refine Cmp.out.mono ?_
              rintro e w3 ⟨rfl, hb3⟩
              try go_simp
              have k3 : Below wx.heap.size wx w3 := (Below.refl _ wx).drew.trans hb3
              have qk3 := carry k3 qk2 (Nat.lt_of_lt_of_le lbl sx)
              have Bg3 := Lib.hid ((k3.block g lg).trans Bg2.out)
              obtain ⟨S3, Hy3, He1, He2, Call3⟩ := CallL.out w3 (KX.out.trans (k3.mono sx))
              refine hK _ _ ?_
              clear hK K
              refine wpAny_ready (rs := [6]) (by kernel_rfl) (by simp) ?_
              refine AllReady.cons rfl (fun K hK => ?_) AllReady.nil
              rw [if_pos (by kernel_rfl)]
              go_simp
              refine hK _ _ ?_
              clear hK K
              refine wpAny_ready (rs := [7]) (by kernel_rfl) (by simp) ?_
              refine AllReady.cons rfl (fun K hK => ?_) AllReady.nil
              rw [if_pos (by kernel_rfl)]
              go_simp
              refine hK _ _ ?_
              clear hK K
              refine wpAny_take (i := 9) (v := ?v9_13) rfl (by kernel_rfl) (by kernel_rfl) (by kernel_rfl) (fun _ _ _ h => h) (Or.inl ⟨by first | kernel_rfl | rfl, ?hy9_13⟩) ?rest9_13
              case hy9_13 => (intro w; go_simp; all_goals (with_reducible rfl))
              refine wpAny_take (i := 10) (v := ?v10_14) rfl (by kernel_rfl) (by kernel_rfl) (by kernel_rfl) (fun _ _ _ h => h) (Or.inl ⟨by first | kernel_rfl | rfl, ?hy10_14⟩) ?rest10_14
              case hy10_14 => (intro w; go_simp; all_goals (with_reducible rfl))
              refine wpAny_ready (rs := [8, 11]) (by kernel_rfl) (by simp) ?_
              refine AllReady.cons rfl (fun K hK => ?_) (AllReady.cons rfl (fun K hK => ?_) AllReady.nil)
              · skip
                rw [if_pos (by kernel_rfl)]
                go_simp
                refine hK _ _ ?_
                clear hK K
                refine wpAny_ready (rs := [11]) (by kernel_rfl) (by simp) ?_
                refine AllReady.cons rfl (fun K hK => ?_) AllReady.nil
                rw [if_pos (by kernel_rfl)]
                refine wp_load_row 90 _ rfl g rfl 90 F2 (0, 0) _ Bg3.out sh_under rfl hiF2 ?_
                refine hK _ _ ?_
                clear hK K
                refine wpAny_ready (rs := [12]) (by kernel_rfl) (by simp) ?_
                refine AllReady.cons rfl (fun K hK => ?_) AllReady.nil
                rw [if_pos (by kernel_rfl)]
                go_simp
                refine Call3.out.mono ?_
                rintro e w5 ⟨ok, rfl, hpost⟩
                try go_simp
                refine hK _ _ ?_
                clear hK K
                refine wpAny_ready (rs := [13]) (by kernel_rfl) (by simp) ?_
                refine AllReady.cons rfl (fun K hK => ?_) AllReady.nil
                rw [if_pos (by kernel_rfl)]
                go_simp
                refine hK _ _ ?_
                clear hK K
                refine wpAny_ready (rs := [14]) (by kernel_rfl) (by simp) ?_
                refine AllReady.cons rfl (fun K hK => ?_) AllReady.nil
                rw [if_pos (by kernel_rfl)]
                go_simp
                refine hK _ _ ?_
                clear hK K
                refine wpAny_done (by kernel_rfl) ?_ _
                cases ok
                · obtain ⟨S'', qq, y, hqq, hx9⟩ := hpost
                  have Fin := Lib.hid (show LookPost J Jx R S none 0 [] pre ((List.range k).flatMap G) W false w5 from ⟨S'', (List.range x).flatMap G ++ qq, y, by rw [List.append_assoc]; exact ((List.prefix_append_right_inj _).2 hqq).trans (by have h := HFP.out; rw [HGn.out] at h; exact h), by simpa [List.append_assoc] using hx9⟩)
                  clear hqq hx9
                  go_wp2
                  go_ret
                  first | exact ⟨false, rfl, Fin.out⟩ | exact .inl ⟨rfl, Fin.out⟩
                · have Fin := Lib.hid (show LookYes J R S0 none 0 [] (pre ++ (List.range (x + 1)).flatMap G) W1 w5 from by rw [Hflat.out, HGn.out, ← List.append_assoc]; exact Hy3.out.againA He1.out He2.out hpost)
                  clear hpost
                  go_wp2
                  go_roundw
                  case rel => exact ⟨x + 1, by omega, by go_num, Fin.out⟩
                  case measure => simp [intOf]; omega
              · skip
                rw [if_pos (by kernel_rfl)]
                refine wp_load_row 90 _ rfl g rfl 90 F2 (0, 0) _ Bg3.out sh_under rfl hiF2 ?_
                refine hK _ _ ?_
                clear hK K
                refine wpAny_ready (rs := [8]) (by kernel_rfl) (by simp) ?_
                refine AllReady.cons rfl (fun K hK => ?_) AllReady.nil
                rw [if_pos (by kernel_rfl)]
                go_simp
                refine hK _ _ ?_
                clear hK K
                refine wpAny_ready (rs := [12]) (by kernel_rfl) (by simp) ?_
                refine AllReady.cons rfl (fun K hK => ?_) AllReady.nil
                rw [if_pos (by kernel_rfl)]
                go_simp
                refine Call3.out.mono ?_
                rintro e w5 ⟨ok, rfl, hpost⟩
                try go_simp
                refine hK _ _ ?_
                clear hK K
                refine wpAny_ready (rs := [13]) (by kernel_rfl) (by simp) ?_
                refine AllReady.cons rfl (fun K hK => ?_) AllReady.nil
                rw [if_pos (by kernel_rfl)]
                go_simp
                refine hK _ _ ?_
                clear hK K
                refine wpAny_ready (rs := [14]) (by kernel_rfl) (by simp) ?_
                refine AllReady.cons rfl (fun K hK => ?_) AllReady.nil
                rw [if_pos (by kernel_rfl)]
                go_simp
                refine hK _ _ ?_
                clear hK K
                refine wpAny_done (by kernel_rfl) ?_ _
                cases ok
                · obtain ⟨S'', qq, y, hqq, hx9⟩ := hpost
                  have Fin := Lib.hid (show LookPost J Jx R S none 0 [] pre ((List.range k).flatMap G) W false w5 from ⟨S'', (List.range x).flatMap G ++ qq, y, by rw [List.append_assoc]; exact ((List.prefix_append_right_inj _).2 hqq).trans (by have h := HFP.out; rw [HGn.out] at h; exact h), by simpa [List.append_assoc] using hx9⟩)
                  clear hqq hx9
                  go_wp2
                  go_ret
                  first | exact ⟨false, rfl, Fin.out⟩ | exact .inl ⟨rfl, Fin.out⟩
                · have Fin := Lib.hid (show LookYes J R S0 none 0 [] (pre ++ (List.range (x + 1)).flatMap G) W1 w5 from by rw [Hflat.out, HGn.out, ← List.append_assoc]; exact Hy3.out.againA He1.out He2.out hpost)
                  clear hpost
                  go_wp2
                  go_roundw
                  case rel => exact ⟨x + 1, by omega, by go_num, Fin.out⟩
                  case measure => simp [intOf]; omega
            · skip
              rw [if_pos (by kernel_rfl)]
              go_simp
              refine hK _ _ ?_
              clear hK K
              refine wpAny_take (i := 3) (v := ?v3_15) rfl (by kernel_rfl) (by kernel_rfl) (by kernel_rfl) (fun _ _ _ h => h) (Or.inl ⟨by first | kernel_rfl | rfl, ?hy3_15⟩) ?rest3_15
              case hy3_15 => (intro w; go_simp; all_goals (with_reducible rfl))
              refine wpAny_ready (rs := [0, 4]) (by kernel_rfl) (by simp) ?_
              refine AllReady.cons rfl (fun K hK => ?_) (AllReady.cons rfl (fun K hK => ?_) AllReady.nil)
              · skip
                rw [if_pos (by kernel_rfl)]
                refine wp_load_row 90 _ rfl g rfl 90 F2 (0, 0) _ Bg2.out sh_under rfl hiF2 ?_
                refine hK _ _ ?_
                clear hK K
                refine wpAny_ready (rs := [4]) (by kernel_rfl) (by simp) ?_
                refine AllReady.cons rfl (fun K hK => ?_) AllReady.nil
                rw [if_pos (by kernel_rfl)]
                go_simp
                refine hK _ _ ?_
                clear hK K
                refine wpAny_ready (rs := [5]) (by kernel_rfl) (by simp) ?_
                refine AllReady.cons rfl (fun K hK => ?_) AllReady.nil
                rw [if_pos (by kernel_rfl)]
                go_simp
                refine Cmp.out.mono ?_
                rintro e w3 ⟨rfl, hb3⟩
                try go_simp
                have k3 : Below wx.heap.size wx w3 := (Below.refl _ wx).drew.trans hb3
                have qk3 := carry k3 qk2 (Nat.lt_of_lt_of_le lbl sx)
                have Bg3 := Lib.hid ((k3.block g lg).trans Bg2.out)
                obtain ⟨S3, Hy3, He1, He2, Call3⟩ := CallL.out w3 (KX.out.trans (k3.mono sx))
                refine hK _ _ ?_
                clear hK K
                refine wpAny_ready (rs := [6]) (by kernel_rfl) (by simp) ?_
                refine AllReady.cons rfl (fun K hK => ?_) AllReady.nil
                rw [if_pos (by kernel_rfl)]
                go_simp
                refine hK _ _ ?_
                clear hK K
                refine wpAny_ready (rs := [7]) (by kernel_rfl) (by simp) ?_
                refine AllReady.cons rfl (fun K hK => ?_) AllReady.nil
                rw [if_pos (by kernel_rfl)]
                go_simp
                refine hK _ _ ?_
                clear hK K
                refine wpAny_take (i := 9) (v := ?v9_16) rfl (by kernel_rfl) (by kernel_rfl) (by kernel_rfl) (fun _ _ _ h => h) (Or.inl ⟨by first | kernel_rfl | rfl, ?hy9_16⟩) ?rest9_16
                case hy9_16 => (intro w; go_simp; all_goals (with_reducible rfl))
                refine wpAny_take (i := 10) (v := ?v10_17) rfl (by kernel_rfl) (by kernel_rfl) (by kernel_rfl) (fun _ _ _ h => h) (Or.inl ⟨by first | kernel_rfl | rfl, ?hy10_17⟩) ?rest10_17
                case hy10_17 => (intro w; go_simp; all_goals (with_reducible rfl))
                refine wpAny_ready (rs := [8, 11]) (by kernel_rfl) (by simp) ?_
                refine AllReady.cons rfl (fun K hK => ?_) (AllReady.cons rfl (fun K hK => ?_) AllReady.nil)
                · skip
                  rw [if_pos (by kernel_rfl)]
                  go_simp
                  refine hK _ _ ?_
                  clear hK K
                  refine wpAny_ready (rs := [11]) (by kernel_rfl) (by simp) ?_
                  refine AllReady.cons rfl (fun K hK => ?_) AllReady.nil
                  rw [if_pos (by kernel_rfl)]
                  refine wp_load_row 90 _ rfl g rfl 90 F2 (0, 0) _ Bg3.out sh_under rfl hiF2 ?_
                  refine hK _ _ ?_
                  clear hK K
                  refine wpAny_ready (rs := [12]) (by kernel_rfl) (by simp) ?_
                  refine AllReady.cons rfl (fun K hK => ?_) AllReady.nil
                  rw [if_pos (by kernel_rfl)]
                  go_simp
                  refine Call3.out.mono ?_
                  rintro e w5 ⟨ok, rfl, hpost⟩
                  try go_simp
                  refine hK _ _ ?_
                  clear hK K
                  refine wpAny_ready (rs := [13]) (by kernel_rfl) (by simp) ?_
                  refine AllReady.cons rfl (fun K hK => ?_) AllReady.nil
                  rw [if_pos (by kernel_rfl)]
                  go_simp
                  refine hK _ _ ?_
                  clear hK K
                  refine wpAny_ready (rs := [14]) (by kernel_rfl) (by simp) ?_
                  refine AllReady.cons rfl (fun K hK => ?_) AllReady.nil
                  rw [if_pos (by kernel_rfl)]
                  go_simp
                  refine hK _ _ ?_
                  clear hK K
                  refine wpAny_done (by kernel_rfl) ?_ _
                  cases ok
                  · obtain ⟨S'', qq, y, hqq, hx9⟩ := hpost
                    have Fin := Lib.hid (show LookPost J Jx R S none 0 [] pre ((List.range k).flatMap G) W false w5 from ⟨S'', (List.range x).flatMap G ++ qq, y, by rw [List.append_assoc]; exact ((List.prefix_append_right_inj _).2 hqq).trans (by have h := HFP.out; rw [HGn.out] at h; exact h), by simpa [List.append_assoc] using hx9⟩)
                    clear hqq hx9
                    go_wp2
                    go_ret
                    first | exact ⟨false, rfl, Fin.out⟩ | exact .inl ⟨rfl, Fin.out⟩
                  · have Fin := Lib.hid (show LookYes J R S0 none 0 [] (pre ++ (List.range (x + 1)).flatMap G) W1 w5 from by rw [Hflat.out, HGn.out, ← List.append_assoc]; exact Hy3.out.againA He1.out He2.out hpost)
                    clear hpost
                    go_wp2
                    go_roundw
                    case rel => exact ⟨x + 1, by omega, by go_num, Fin.out⟩
                    case measure => simp [intOf]; omega
                · skip
                  rw [if_pos (by kernel_rfl)]
                  refine wp_load_row 90 _ rfl g rfl 90 F2 (0, 0) _ Bg3.out sh_under rfl hiF2 ?_
                  refine hK _ _ ?_
                  clear hK K
                  refine wpAny_ready (rs := [8]) (by kernel_rfl) (by simp) ?_
                  refine AllReady.cons rfl (fun K hK => ?_) AllReady.nil
                  rw [if_pos (by kernel_rfl)]
                  go_simp
                  refine hK _ _ ?_
                  clear hK K
                  refine wpAny_ready (rs := [12]) (by kernel_rfl) (by simp) ?_
                  refine AllReady.cons rfl (fun K hK => ?_) AllReady.nil
                  rw [if_pos (by kernel_rfl)]
                  go_simp
                  refine Call3.out.mono ?_
                  rintro e w5 ⟨ok, rfl, hpost⟩
                  try go_simp
                  refine hK _ _ ?_
                  clear hK K
                  refine wpAny_ready (rs := [13]) (by kernel_rfl) (by simp) ?_
                  refine AllReady.cons rfl (fun K hK => ?_) AllReady.nil
                  rw [if_pos (by kernel_rfl)]
                  go_simp
                  refine hK _ _ ?_
                  clear hK K
                  refine wpAny_ready (rs := [14]) (by kernel_rfl) (by simp) ?_
                  refine AllReady.cons rfl (fun K hK => ?_) AllReady.nil
                  rw [if_pos (by kernel_rfl)]
                  go_simp
                  refine hK _ _ ?_
                  clear hK K
                  refine wpAny_done (by kernel_rfl) ?_ _
                  cases ok
                  · obtain ⟨S'', qq, y, hqq, hx9⟩ := hpost
                    have Fin := Lib.hid (show LookPost J Jx R S none 0 [] pre ((List.range k).flatMap G) W false w5 from ⟨S'', (List.range x).flatMap G ++ qq, y, by rw [List.append_assoc]; exact ((List.prefix_append_right_inj _).2 hqq).trans (by have h := HFP.out; rw [HGn.out] at h; exact h), by simpa [List.append_assoc] using hx9⟩)
                    clear hqq hx9
                    go_wp2
                    go_ret
                    first | exact ⟨false, rfl, Fin.out⟩ | exact .inl ⟨rfl, Fin.out⟩
                  · have Fin := Lib.hid (show LookYes J R S0 none 0 [] (pre ++ (List.range (x + 1)).flatMap G) W1 w5 from by rw [Hflat.out, HGn.out, ← List.append_assoc]; exact Hy3.out.againA He1.out He2.out hpost)
                    clear hpost
                    go_wp2
                    go_roundw
                    case rel => exact ⟨x + 1, by omega, by go_num, Fin.out⟩
                    case measure => simp [intOf]; omega
              · skip
                rw [if_pos (by kernel_rfl)]
                go_simp
                refine hK _ _ ?_
                clear hK K
                refine wpAny_ready (rs := [0]) (by kernel_rfl) (by simp) ?_
                refine AllReady.cons rfl (fun K hK => ?_) AllReady.nil
                rw [if_pos (by kernel_rfl)]
                refine wp_load_row 90 _ rfl g rfl 90 F2 (0, 0) _ Bg2.out sh_under rfl hiF2 ?_
                refine hK _ _ ?_
                clear hK K
                refine wpAny_ready (rs := [5]) (by kernel_rfl) (by simp) ?_
                refine AllReady.cons rfl (fun K hK => ?_) AllReady.nil
                rw [if_pos (by kernel_rfl)]
                go_simp
                refine Cmp.out.mono ?_
                rintro e w3 ⟨rfl, hb3⟩
                try go_simp
                have k3 : Below wx.heap.size wx w3 := (Below.refl _ wx).drew.trans hb3
                have qk3 := carry k3 qk2 (Nat.lt_of_lt_of_le lbl sx)
                have Bg3 := Lib.hid ((k3.block g lg).trans Bg2.out)
                obtain ⟨S3, Hy3, He1, He2, Call3⟩ := CallL.out w3 (KX.out.trans (k3.mono sx))
                refine hK _ _ ?_
                clear hK K
                refine wpAny_ready (rs := [6]) (by kernel_rfl) (by simp) ?_
                refine AllReady.cons rfl (fun K hK => ?_) AllReady.nil
                rw [if_pos (by kernel_rfl)]
                go_simp
                refine hK _ _ ?_
                clear hK K
                refine wpAny_ready (rs := [7]) (by kernel_rfl) (by simp) ?_
                refine AllReady.cons rfl (fun K hK => ?_) AllReady.nil
                rw [if_pos (by kernel_rfl)]
                go_simp
                refine hK _ _ ?_
                clear hK K
                refine wpAny_take (i := 9) (v := ?v9_18) rfl (by kernel_rfl) (by kernel_rfl) (by kernel_rfl) (fun _ _ _ h => h) (Or.inl ⟨by first | kernel_rfl | rfl, ?hy9_18⟩) ?rest9_18
                case hy9_18 => (intro w; go_simp; all_goals (with_reducible rfl))
                refine wpAny_take (i := 10) (v := ?v10_19) rfl (by kernel_rfl) (by kernel_rfl) (by kernel_rfl) (fun _ _ _ h => h) (Or.inl ⟨by first | kernel_rfl | rfl, ?hy10_19⟩) ?rest10_19
                case hy10_19 => (intro w; go_simp; all_goals (with_reducible rfl))
                refine wpAny_ready (rs := [8, 11]) (by kernel_rfl) (by simp) ?_
                refine AllReady.cons rfl (fun K hK => ?_) (AllReady.cons rfl (fun K hK => ?_) AllReady.nil)
                · skip
                  rw [if_pos (by kernel_rfl)]
                  go_simp
                  refine hK _ _ ?_
                  clear hK K
                  refine wpAny_ready (rs := [11]) (by kernel_rfl) (by simp) ?_
                  refine AllReady.cons rfl (fun K hK => ?_) AllReady.nil
                  rw [if_pos (by kernel_rfl)]
                  refine wp_load_row 90 _ rfl g rfl 90 F2 (0, 0) _ Bg3.out sh_under rfl hiF2 ?_
                  refine hK _ _ ?_
                  clear hK K
                  refine wpAny_ready (rs := [12]) (by kernel_rfl) (by simp) ?_
                  refine AllReady.cons rfl (fun K hK => ?_) AllReady.nil
                  rw [if_pos (by kernel_rfl)]
                  go_simp
                  refine Call3.out.mono ?_
                  rintro e w5 ⟨ok, rfl, hpost⟩
                  try go_simp
                  refine hK _ _ ?_
                  clear hK K
                  refine wpAny_ready (rs := [13]) (by kernel_rfl) (by simp) ?_
                  refine AllReady.cons rfl (fun K hK => ?_) AllReady.nil
                  rw [if_pos (by kernel_rfl)]
                  go_simp
                  refine hK _ _ ?_
                  clear hK K
                  refine wpAny_ready (rs := [14]) (by kernel_rfl) (by simp) ?_
                  refine AllReady.cons rfl (fun K hK => ?_) AllReady.nil
                  rw [if_pos (by kernel_rfl)]
                  go_simp
                  refine hK _ _ ?_
                  clear hK K
                  refine wpAny_done (by kernel_rfl) ?_ _
                  cases ok
                  · obtain ⟨S'', qq, y, hqq, hx9⟩ := hpost
                    have Fin := Lib.hid (show LookPost J Jx R S none 0 [] pre ((List.range k).flatMap G) W false w5 from ⟨S'', (List.range x).flatMap G ++ qq, y, by rw [List.append_assoc]; exact ((List.prefix_append_right_inj _).2 hqq).trans (by have h := HFP.out; rw [HGn.out] at h; exact h), by simpa [List.append_assoc] using hx9⟩)
                    clear hqq hx9
                    go_wp2
                    go_ret
                    first | exact ⟨false, rfl, Fin.out⟩ | exact .inl ⟨rfl, Fin.out⟩
                  · have Fin := Lib.hid (show LookYes J R S0 none 0 [] (pre ++ (List.range (x + 1)).flatMap G) W1 w5 from by rw [Hflat.out, HGn.out, ← List.append_assoc]; exact Hy3.out.againA He1.out He2.out hpost)
                    clear hpost
                    go_wp2
                    go_roundw
                    case rel => exact ⟨x + 1, by omega, by go_num, Fin.out⟩
                    case measure => simp [intOf]; omega
                · skip
                  rw [if_pos (by kernel_rfl)]
                  refine wp_load_row 90 _ rfl g rfl 90 F2 (0, 0) _ Bg3.out sh_under rfl hiF2 ?_
                  refine hK _ _ ?_
                  clear hK K
                  refine wpAny_ready (rs := [8]) (by kernel_rfl) (by simp) ?_
                  refine AllReady.cons rfl (fun K hK => ?_) AllReady.nil
                  rw [if_pos (by kernel_rfl)]
                  go_simp
                  refine hK _ _ ?_
                  clear hK K
                  refine wpAny_ready (rs := [12]) (by kernel_rfl) (by simp) ?_
                  refine AllReady.cons rfl (fun K hK => ?_) AllReady.nil
                  rw [if_pos (by kernel_rfl)]
                  go_simp
                  refine Call3.out.mono ?_
                  rintro e w5 ⟨ok, rfl, hpost⟩
                  try go_simp
                  refine hK _ _ ?_
                  clear hK K
                  refine wpAny_ready (rs := [13]) (by kernel_rfl) (by simp) ?_
                  refine AllReady.cons rfl (fun K hK => ?_) AllReady.nil
                  rw [if_pos (by kernel_rfl)]
                  go_simp
                  refine hK _ _ ?_
                  clear hK K
                  refine wpAny_ready (rs := [14]) (by kernel_rfl) (by simp) ?_
                  refine AllReady.cons rfl (fun K hK => ?_) AllReady.nil
                  rw [if_pos (by kernel_rfl)]
                  go_simp
                  refine hK _ _ ?_
                  clear hK K
                  refine wpAny_done (by kernel_rfl) ?_ _
                  cases ok
                  · obtain ⟨S'', qq, y, hqq, hx9⟩ := hpost
                    have Fin := Lib.hid (show LookPost J Jx R S none 0 [] pre ((List.range k).flatMap G) W false w5 from ⟨S'', (List.range x).flatMap G ++ qq, y, by rw [List.append_assoc]; exact ((List.prefix_append_right_inj _).2 hqq).trans (by have h := HFP.out; rw [HGn.out] at h; exact h), by simpa [List.append_assoc] using hx9⟩)
                    clear hqq hx9
                    go_wp2
                    go_ret
                    first | exact ⟨false, rfl, Fin.out⟩ | exact .inl ⟨rfl, Fin.out⟩
                  · have Fin := Lib.hid (show LookYes J R S0 none 0 [] (pre ++ (List.range (x + 1)).flatMap G) W1 w5 from by rw [Hflat.out, HGn.out, ← List.append_assoc]; exact Hy3.out.againA He1.out He2.out hpost)
                    clear hpost
                    go_wp2
                    go_roundw
                    case rel => exact ⟨x + 1, by omega, by go_num, Fin.out⟩
                    case measure => simp [intOf]; omega
      · have hge : ¬ ((x : Int) < (k : Int)) := by omega
        have hxe : x = k := by omega
        subst hxe
        have fin := Hst0.out.againA hS1 HS2.out Hyes.out
        clear Hyes
        go_wp2
        go_ret
        first | exact ⟨true, rfl, fin⟩ | exact .inr ⟨rfl, fin⟩
end
end Go.Proofs.Ythddlpghjkiioaa
