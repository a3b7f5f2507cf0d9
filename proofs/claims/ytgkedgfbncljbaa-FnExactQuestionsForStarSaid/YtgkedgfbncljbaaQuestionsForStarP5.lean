/-
  Texts put together for the claim of 'QuestionsForStar' (pack 5): MarkF, LawQuestionsForStar, Head, Facts.
-/
import Derived.Test.YtgkedgfbncljbaaQuestionsForStarP1
import Derived.Test.YtgkedgfbncljbaaQuestionsForStarP2
import Derived.Test.YtgkedgfbncljbaaQuestionsForStarP4
import Derived.Deep.RegionHeld3
import Derived.Test.YtgkedgfbncljbaaRows
/-
  'laws.markIntSS' with what it leaves alone: all that lies below the rows, and all that was made after them.
-/
namespace Go.Proofs.Ytgkedgfbncljbaa
open Go.RowKit

/-- nothing below B has turned, and nothing from hi on that was there -/
structure Fr (w w' : World) (B hi : Nat) : Prop where
  os : w'.os = w.os
  tape : w'.tape = w.tape
  output : w'.output = w.output
  size : w.heap.size ≤ w'.heap.size
  block : ∀ k, k < w.heap.size → (k < B ∨ hi ≤ k) → w'.heap[k]? = w.heap[k]?
theorem Fr.refl (w : World) (B hi : Nat) : Fr w w B hi := ⟨rfl, rfl, rfl, Nat.le_refl _, fun _ _ _ => rfl⟩
theorem Fr.grown {w w1 w2 : World} {B hi : Nat} {row : Option Nat} (h : Fr w w1 B hi) (hg : w1.grownBy w2 row) (hr : ∀ k, row = some k → B ≤ k ∧ k < hi) : Fr w w2 B hi :=
  ⟨hg.os.trans h.os, hg.tape.trans h.tape, hg.output.trans h.output, Nat.le_trans h.size hg.size, fun k hk hf => (hg.block k (Nat.lt_of_lt_of_le hk h.size) (fun e => by have := hr k e.symm; omega)).trans (h.block k hk hf)⟩
theorem Fr.below {w w' : World} {B hi B' : Nat} (h : Fr w w' B hi) (hB : B' ≤ B) (hw : B' ≤ w.heap.size) : Below B' w w' :=
  ⟨h.os, h.tape, h.output, h.size, fun k hk => h.block k (by omega) (.inl (by omega))⟩
theorem own_fr {w w' : World} {B hi lo' hi' base : Nat} {e : TypeId} {s m : Nat} {v : Value} {xs : List Value} (h : Fr w w' B hi) (ho : w.ownsRow base e s v m xs) (hl : Lies v lo' hi') (hf : hi' ≤ B ∨ hi ≤ lo') : w'.ownsRow base e s v m xs := by
  refine ⟨ho.1, ?_⟩
  rcases ho.2 with h1 | ⟨g, cap, cur, hv, hb, hh, rest⟩
  · exact .inl h1
  · have hg := hl g (by rw [hv]; simp [Value.ownBlock])
    have hlt : g < w.heap.size := (Array.getElem?_eq_some_iff.1 hh).1
    exact .inr ⟨g, cap, cur, hv, hb, (h.block g hlt (by omega)).trans hh, rest⟩
set_option maxHeartbeats 2000000 in
set_option maxRecDepth 100000 in
theorem markIntSS_fr (LL : List (List Int)) (A : Option Addr) (c : Nat) (k0 : Int) (B hi : Nat) (R : Nat → Option Addr) (C : Nat → Nat) (w : World) (hl : LL.length ≤ 1048576) (hs : sumL LL ≤ 1048576) (hk0 : 0 ≤ k0 ∧ k0 ≤ 8388608)
    (h : RowsL w B (.slice A LL.length c) LL R C) (hu : ∀ i, i < LL.length → ∀ k, (Value.slice (R i) (LL.getD i []).length (C i)).ownBlock = some k → k < hi) :
    Calls Try.prog 44 #[.slice A LL.length c, .int .i64 k0] w fun e w' => e = .returned (.int .i64 (k0 + sumL LL)) ∧ Fr w w' B hi := by
  obtain ⟨ns, hns⟩ : ∃ ns, LL.map List.length = ns := ⟨_, rfl⟩
  have hnl : LL.length = ns.length := by rw [← hns, List.length_map]
  have hsum : sumL LL = ns.sum := by unfold sumL; rw [hns]
  have hat : ∀ i, ns.getD i 0 = (LL.getD i []).length := fun i => by rw [← hns]; exact lens_at LL i
  have hG : RowsG w B (.slice A ns.length c) ns.length R C (fun i => ns.getD i 0) (fun i => LL.getD i []) := by
    unfold RowsL at h
    rw [hnl] at h
    simp only [hat]
    exact h
  have hu2 : ∀ i, i < ns.length → ∀ k, (Value.slice (R i) (ns.getD i 0) (C i)).ownBlock = some k → k < hi := fun i hi k hk => hu i (by omega) k (by rw [hat] at hk; exact hk)
  rw [hsum] at hs ⊢
  rw [hnl] at hl ⊢
  have HU := Lib.hid hu2
  generalize hF : (fun i => LL.getD i []) = F at hG
  clear hns hnl hsum hat h hu hu2 hF
  obtain ⟨hk00, hk01⟩ := hk0
  go_enter Try.func44, Try.ntmps44
  go_wp2_with fail
  go_loopw [1, 5] (fun q i wr => ∃ k : Nat, k ≤ ns.length ∧ i = .int .i64 k ∧ q = .int .i64 (k0 + lens ns k) ∧ RowsG wr B (.slice A ns.length c) ns.length R C (fun i => ns.getD i 0) (fun i => if i < k then imarks (k0 + lens ns i) (ns.getD i 0) else F i) ∧ Fr w wr B hi) (fun _ i _ => ns.length - (intOf i).toNat)
  case atStart => exact ⟨0, Nat.zero_le _, rfl, by simp [lens], hG.congr fun i _ => by rw [if_neg (Nat.not_lt_zero _)], Fr.refl _ _ _⟩
  case round =>
    clear hG
    obtain ⟨k, hk, rfl, rfl, hG, hb⟩ := hrel
    have hs1 := lens_le ns k
    by_cases hlt : k < ns.length
    · obtain ⟨n, hx⟩ := getSome ns k hlt
      have hs2 := lens_le ns (k + 1)
      have hsc := lens_succ hx
      have hgd : ns.getD k 0 = n := by rw [List.getD_eq_getElem?_getD, hx]; rfl
      obtain ⟨g, rfl⟩ := own_form hG.own (by omega)
      have d1 : wr.cell? ⟨g, k, none⟩ = some (.slice (R k) n (C k)) := by
        rw [hG.own.cellAt k (by omega)]
        simp only [List.getElem?_map, List.getElem?_range hlt, Option.map_some, hgd]
      obtain ⟨h1, h2⟩ := hG.row k hlt
      rw [if_neg (Nat.lt_irrefl k)] at h1 h2
      rw [hgd] at h1 h2
      have hup := HU.out k hlt
      rw [hgd] at hup
      have hki : (k : Int) < (ns.length : Int) := by omega
      have HG := Lib.hid hG
      have Hsc := Lib.hid hsc
      have Hgd := Lib.hid hgd
      have Hup := Lib.hid hup
      generalize hm : k0 + (lens ns k : Int) = m at *
      have hm0 : 0 ≤ m := by omega
      have hm1 : m ≤ 16777216 := by omega
      have hnn : n ≤ 1048576 := by omega
      have Hm := Lib.hid hm
      clear hx hm hsc hG hgd hup
      go_wp2_with fail
      refine (markIntS_any (F k) (R k) n (C k) m B _ h1 hnn ⟨hm0, hm1⟩ h2).mono ?_
      rintro e w2 ⟨rfl, own2, hg2⟩
      have hb2 := hb.grown hg2 (fun i hi => ⟨(h2.lt i hi).1, Hup.out i hi⟩)
      have G2 := Lib.hid ((HG.out.set hlt (l := imarks m n) (by rw [imarks_length]; exact Hgd.out.symm) (by simp only [Hgd.out]; exact hg2) (by simp only [Hgd.out]; exact own2)).congr (F' := fun i => if i < k + 1 then imarks (k0 + lens ns i) (ns.getD i 0) else F i) fun i _ => by
        by_cases e : i = k
        · subst e
          simp only [if_true, if_pos (Nat.lt_succ_self i), Hm.out, Hgd.out]
        · simp only [if_neg e]
          by_cases h3 : i < k
          · simp only [if_pos h3, if_pos (Nat.lt_succ_of_lt h3)]
          · simp only [if_neg h3, if_neg (show ¬ i < k + 1 by omega)])
      clear own2 hg2 h2 h1
      go_wp2
      go_roundw
      case rel => exact ⟨k + 1, by omega, by go_num, by rw [Hsc.out, ← Hm.out]; congr 1; omega, G2.out, hb2⟩
      case measure => simp [intOf]; omega
    · have hkl : k = ns.length := by omega
      have hge : ¬ ((k : Int) < (ns.length : Int)) := by omega
      have e : lens ns k = ns.sum := by unfold lens; rw [List.take_of_length_le (by omega)]
      rw [e]
      clear hG
      go_wp2
      go_ret
      exact ⟨rfl, hb⟩
end Go.Proofs.Ytgkedgfbncljbaa
/-
  'laws.FnExactQuestionsForStar' returns true, whatever its arguments: out of the contracts of the model's function and of the program's.
-/
namespace Go.Proofs.Ytgkedgfbncljbaa
open Go.RowKit

set_option maxHeartbeats 4000000 in
set_option maxRecDepth 100000 in
theorem lawQuestionsForStar_any (q0 : List (List Int)) (A0 : Option Addr) (c0 : Nat) (W : World) (hl0 : q0.length ≤ maxLen) (hk0 : ∀ l ∈ q0, l.length ≤ maxLen) (hA0 : SRead W W.heap.size A0 q0) :
    Calls Try.prog 9 #[.slice A0 q0.length c0] W fun e w' => e = .returned (.bool true) ∧ Below W.heap.size W w' := by
  have hone : (0 : Int) ≤ 1 ∧ (1 : Int) ≤ 16777216 := by omega
  by_cases hz0 : szLL 1048576 (q0.map List.length) < 0
  · go_enter Try.func9, Try.ntmps9
    go_wp2_with fail
    refine (szIntSS_any q0 A0 c0 _ hl0 hk0 hA0).mono ?_
    rintro e w0 ⟨rfl, rfl⟩
    go_wp2
    go_ret
    exact ⟨rfl, by go_grown⟩
  obtain ⟨hn0, hs0⟩ := szLL_ok hz0
  rw [List.length_map] at hn0
  have hsm0 : sumL q0 ≤ 1048576 := hs0
  have hm0 : ∀ l ∈ q0, l.length ≤ 1048576 := fun l h => by have h1 : l.length ≤ sumL q0 := sumL_row h; unfold sumL at h1; omega
  obtain ⟨⟨rm, rok⟩, hres⟩ : ∃ r, resQuestionsForStar q0 = r := ⟨_, rfl⟩
  have hrn : rm.length ≤ 1048576 := by have h := resQuestionsForStar_len q0; rw [hres] at h; exact h
  have hrl : rm.length ≤ maxLen := by unfold maxLen; omega
  have Hres := Lib.hid hres
  clear hres
  go_enter Try.func9, Try.ntmps9
  go_wp2_with fail
  refine (szIntSS_any q0 A0 c0 _ hl0 hk0 hA0).mono ?_
  rintro e w0 ⟨rfl, rfl⟩
  go_wp2_with fail
  refine (toIntSS_any q0 A0 c0 _ hn0 hm0 hA0).mono ?_
  rintro e w1 ⟨T1, d1, R1, C1, rfl, n1, hb1⟩
  have g1 : Below W.heap.size W w1 := hb1
  have s1 := hb1.size
  have k1 : Below W.heap.size W w1 := g1
  have u1 : ∀ i, i < q0.length → ∀ k, (Value.slice (R1 i) (q0.getD i []).length (C1 i)).ownBlock = some k → k < w1.heap.size := fun i hi k hk => ((n1.row i hi).2.lt k hk).2
  go_wp2_with fail
  refine (specQuestionsForStar_any q0 _ _ _ hn0 hm0 (RowsL.read n1)).mono ?_
  rw [Hres.out]
  rintro e w2 ⟨T2, d2, rfl, n2, hb2⟩
  have g2 : Below w1.heap.size w1 w2 := hb2
  have s2 := hb2.size
  have m2_0 := RowsL.below n1 g2
  have k2 := k1.trans (g2.mono k1.size)
  clear n1
  have r2 : Lies (.slice T2 rm.length d2) (w1.heap.size) w2.heap.size := own_lies n2
  clear m2_0
  go_wp2_with fail
  refine (toIntSS_any q0 A0 c0 _ hn0 hm0 ((hA0.below k2 (Nat.le_refl _)).more k2.size)).mono ?_
  rintro e w3 ⟨T3, d3, R3, C3, rfl, n3, hb3⟩
  have g3 : Below w2.heap.size w2 w3 := hb3
  have s3 := hb3.size
  have o3_0 := own_below n2 g3 (Nat.le_refl _)
  have k3 := k2.trans (g3.mono k2.size)
  clear n2
  have u3 : ∀ i, i < q0.length → ∀ k, (Value.slice (R3 i) (q0.getD i []).length (C3 i)).ownBlock = some k → k < w3.heap.size := fun i hi k hk => ((n3.row i hi).2.lt k hk).2
  go_wp2_with fail
  refine (implQuestionsForStar_any q0 _ _ _ hn0 hm0 (RowsL.read n3)).mono ?_
  rw [Hres.out]
  rintro e w4 ⟨T4, d4, rfl, n4, hb4⟩
  have g4 : Below w3.heap.size w3 w4 := hb4
  have s4 := hb4.size
  have o4_0 := own_below o3_0 g4 (Nat.le_refl _)
  have m4_0 := RowsL.below n3 g4
  have k4 := k3.trans (g4.mono k3.size)
  clear o3_0 n3
  have r4 : Lies (.slice T4 rm.length d4) (w3.heap.size) w4.heap.size := own_lies n4
  go_wp2_with fail
  refine (eqPairS_any rm rm _ _ _ _ _ hrl hrl (CRead.of_own n4) (CRead.of_own o4_0)).mono ?_
  rw [decide_eq_true rfl]
  rintro e w5 ⟨rfl, hb5⟩
  have g5 : Below w4.heap.size w4 w5 := hb5
  have s5 := hb5.size
  have o5_0 := own_below o4_0 g5 (Nat.le_refl _)
  have o5_1 := own_below n4 g5 (Nat.le_refl _)
  have m5_0 := RowsL.below m4_0 g5
  have k5 := k4.trans (g5.mono k4.size)
  clear o4_0 n4 m4_0
  go_wp2_with fail
  refine (toIntSS_any q0 A0 c0 _ hn0 hm0 ((hA0.below k5 (Nat.le_refl _)).more k5.size)).mono ?_
  rintro e w6 ⟨T6, d6, R6, C6, rfl, n6, hb6⟩
  have g6 : Below w5.heap.size w5 w6 := hb6
  have s6 := hb6.size
  have o6_0 := own_below o5_0 g6 (Nat.le_refl _)
  have o6_1 := own_below o5_1 g6 (Nat.le_refl _)
  have m6_0 := RowsL.below m5_0 g6
  have k6 := k5.trans (g6.mono k5.size)
  clear o5_0 o5_1 m5_0
  have u6 : ∀ i, i < q0.length → ∀ k, (Value.slice (R6 i) (q0.getD i []).length (C6 i)).ownBlock = some k → k < w6.heap.size := fun i hi k hk => ((n6.row i hi).2.lt k hk).2
  go_wp2_with fail
  refine (eqIntSS_same q0 _ _ _ _ _ hl0 hk0 (RowsL.read m6_0) (RowsL.read n6)).mono ?_
  rintro e w7 ⟨rfl, hb7⟩
  have g7 : Below w6.heap.size w6 w7 := hb7
  have s7 := hb7.size
  have o7_0 := own_below o6_0 g7 (Nat.le_refl _)
  have o7_1 := own_below o6_1 g7 (Nat.le_refl _)
  have m7_0 := RowsL.below m6_0 g7
  have m7_1 := RowsL.below n6 g7
  have k7 := k6.trans (g7.mono k6.size)
  clear o6_0 o6_1 m6_0 n6
  clear m7_1
  go_wp2_with fail
  refine (markIntSS_fr q0 _ _ 1 _ w3.heap.size _ _ _ hn0 hsm0 ⟨by omega, by omega⟩ m7_0 u3).mono ?_
  rintro e w8 ⟨rfl, fr8⟩
  have s8 := fr8.size
  have o8_0 := own_fr fr8 o7_0 r2 (by omega)
  have o8_1 := own_fr fr8 o7_1 r4 (by omega)
  have k8 := k7.trans (fr8.below (B' := W.heap.size) (by omega) (by omega))
  clear o7_0 o7_1 m7_0 u3
  have hsq0 : 0 ≤ (sumL q0 : Int) ∧ (sumL q0 : Int) ≤ 1048576 := by omega
  have hmk : ¬ (1 + (sumL q0 : Int) < 0) := by omega
  go_wp2_with fail
  refine (eqPairS_any rm rm _ _ _ _ _ hrl hrl (CRead.of_own o8_1) (CRead.of_own o8_0)).mono ?_
  rw [decide_eq_true rfl]
  rintro e w9 ⟨rfl, hb9⟩
  have g9 : Below w8.heap.size w8 w9 := hb9
  have s9 := hb9.size
  have o9_0 := own_below o8_0 g9 (Nat.le_refl _)
  have o9_1 := own_below o8_1 g9 (Nat.le_refl _)
  have k9 := k8.trans (g9.mono k8.size)
  clear o8_0 o8_1
  go_wp2_with fail
  refine (markPairS_any rm _ _ _ 1 _ _ rfl hrn hone o9_1).mono ?_
  rintro e w10 ⟨rfl, n10, hg10⟩
  have s10 := hg10.size
  have o10_0 := keptG hg10 r4 o9_0 r2 (by omega)
  have k10 := belowG k9 hg10 r4 k9.size (by omega)
  clear o9_0 o9_1
  have hmr : ¬ (1 + 2 * (rm.length : Int) < 0) := by omega
  go_wp2_with fail
  refine (heldPairS_any _ _ _ 1 _ hrn hone (CRead.of_own n10)).mono ?_
  rintro e w11 ⟨rfl, h11⟩
  subst h11
  go_wp2_with fail
  refine (toIntSS_any q0 A0 c0 _ hn0 hm0 ((hA0.below k10 (Nat.le_refl _)).more k10.size)).mono ?_
  rintro e w12 ⟨T12, d12, R12, C12, rfl, n12, hb12⟩
  have g12 : Below w10.heap.size w10 w12 := hb12
  have s12 := hb12.size
  have o12_0 := own_below o10_0 g12 (Nat.le_refl _)
  have o12_1 := own_below n10 g12 (Nat.le_refl _)
  have k12 := k10.trans (g12.mono k10.size)
  clear o10_0 n10
  have u12 : ∀ i, i < q0.length → ∀ k, (Value.slice (R12 i) (q0.getD i []).length (C12 i)).ownBlock = some k → k < w12.heap.size := fun i hi k hk => ((n12.row i hi).2.lt k hk).2
  go_wp2_with fail
  refine (implQuestionsForStar_any q0 _ _ _ hn0 hm0 (RowsL.read n12)).mono ?_
  rw [Hres.out]
  rintro e w13 ⟨T13, d13, rfl, n13, hb13⟩
  have g13 : Below w12.heap.size w12 w13 := hb13
  have s13 := hb13.size
  have o13_0 := own_below o12_0 g13 (Nat.le_refl _)
  have o13_1 := own_below o12_1 g13 (Nat.le_refl _)
  have m13_0 := RowsL.below n12 g13
  have k13 := k12.trans (g13.mono k12.size)
  clear o12_0 o12_1 n12
  have r13 : Lies (.slice T13 rm.length d13) (w12.heap.size) w13.heap.size := own_lies n13
  clear m13_0
  go_wp2_with fail
  refine (eqPairS_any rm rm _ _ _ _ _ hrl hrl (CRead.of_own n13) (CRead.of_own o13_0)).mono ?_
  rw [decide_eq_true rfl]
  rintro e w14 ⟨rfl, hb14⟩
  have g14 : Below w13.heap.size w13 w14 := hb14
  have s14 := hb14.size
  have o14_0 := own_below o13_0 g14 (Nat.le_refl _)
  have o14_1 := own_below o13_1 g14 (Nat.le_refl _)
  have o14_2 := own_below n13 g14 (Nat.le_refl _)
  have k14 := k13.trans (g14.mono k13.size)
  clear o13_0 o13_1 n13
  go_wp2_with fail
  refine (heldPairS_any _ _ _ 1 _ hrn hone (CRead.of_own o14_1)).mono ?_
  rintro e w15 ⟨rfl, h15⟩
  subst h15
  go_wp2
  go_ret
  exact ⟨rfl, k14⟩
end Go.Proofs.Ytgkedgfbncljbaa
/-
  THE PROGRAM's HEAD, LOOKED AT ONCE: which make it is, and that a call may enter it. (The head's text is long: the kernel must not read it twice.)
-/
namespace Go.Proofs.Ytgkedgfbncljbaa

theorem make_of {P : Program} {rest : List (List Char)} (h : behindMainWord (wordsSigns P.initOrder.toList) = "cut".toList :: rest) : P.make = some .cut := by
  unfold Program.make
  rw [h]
  rfl
theorem strip_cut (rest : List (List Char)) : stripLifts liftWords ("cut".toList :: rest) = ([], "cut".toList :: rest) := rfl
theorem lifts_of {P : Program} {rest : List (List Char)} (h : behindMainWord (wordsSigns P.initOrder.toList) = "cut".toList :: rest) : P.headLifts = [] := by
  unfold Program.headLifts
  rw [h, strip_cut]
  rfl
theorem final_of {P : Program} {rest : List (List Char)} (h : behindMainWord (wordsSigns P.initOrder.toList) = "cut".toList :: rest) : P.liftsFinal = false := by
  unfold Program.liftsFinal
  rw [lifts_of h, h]
  rfl
theorem enter_of {P : Program} {rest : List (List Char)} (h : behindMainWord (wordsSigns P.initOrder.toList) = "cut".toList :: rest) (h1 : P.laysLater = false) (h2 : P.bearsReflect = false) (h3 : P.doorFits [] = true) : P.mayEnter = true := by
  unfold Program.mayEnter
  rw [h]
  show (_ || _ || _) = true
  rw [strip_cut, h1, h2, h3]
  rfl
end Go.Proofs.Ytgkedgfbncljbaa
/-
  THE PROGRAM's CLOSED FACTS, EACH ONCE; and how a row's facts are put together out of them.
-/
namespace Go.Proofs.Ytgkedgfbncljbaa
open Go.ChangeShapes Go.WideShapes Go.ChangeAt Go.RowKit

def headSigns : List Char := ([104, 97, 114, 110, 101, 115, 115, 32, 101, 55, 102, 51, 56, 98, 52, 99, 56, 52, 101, 50, 52, 55, 100, 53, 55, 53, 52, 101, 101, 51, 99, 55, 55, 100, 100, 100, 52, 97, 57, 101, 49, 49, 56, 97, 50, 100, 56, 53, 49, 101, 48, 48, 48, 56, 100, 101, 54, 100, 49, 48, 57, 102, 53, 50, 50, 55, 49, 51, 56, 55, 100, 101, 32, 99, 117, 116, 32, 97, 116, 32, 108, 111, 111, 112, 46, 101, 120, 97, 109, 112, 108, 101, 47, 103, 48, 49, 50, 53, 55, 47, 108, 97, 119, 115, 46, 70, 110, 69, 120, 97, 99, 116, 67, 111, 117, 112, 108, 101, 115, 80, 97, 114, 116, 121, 32, 108, 111, 111, 112, 46, 101, 120, 97, 109, 112, 108, 101, 47, 103, 48, 49, 50, 53, 55, 47, 108, 97, 119, 115, 46, 70, 110, 69, 120, 97, 99, 116, 65, 114, 101, 67, 111, 117, 112, 108, 101, 115, 32, 108, 111, 111, 112, 46, 101, 120, 97, 109, 112, 108, 101, 47, 103, 48, 49, 50, 53, 55, 47, 108, 97, 119, 115, 46, 70, 110, 69, 120, 97, 99, 116, 84, 111, 108, 100, 78, 117, 109, 98, 101, 114, 115, 32, 108, 111, 111, 112, 46, 101, 120, 97, 109, 112, 108, 101, 47, 103, 48, 49, 50, 53, 55, 47, 108, 97, 119, 115, 46, 70, 110, 69, 120, 97, 99, 116, 83, 112, 111, 117, 115, 101, 78, 117, 109, 98, 101, 114, 32, 108, 111, 111, 112, 46, 101, 120, 97, 109, 112, 108, 101, 47, 103, 48, 49, 50, 53, 55, 47, 108, 97, 119, 115, 46, 70, 110, 69, 120, 97, 99, 116, 73, 115, 70, 97, 109, 101, 32, 108, 111, 111, 112, 46, 101, 120, 97, 109, 112, 108, 101, 47, 103, 48, 49, 50, 53, 55, 47, 108, 97, 119, 115, 46, 70, 110, 69, 120, 97, 99, 116, 83, 116, 97, 114, 79, 102, 32, 108, 111, 111, 112, 46, 101, 120, 97, 109, 112, 108, 101, 47, 103, 48, 49, 50, 53, 55, 47, 108, 97, 119, 115, 46, 70, 110, 69, 120, 97, 99, 116, 81, 117, 101, 115, 116, 105, 111, 110, 115, 70, 111, 114, 83, 116, 97, 114, 32, 108, 111, 111, 112, 46, 101, 120, 97, 109, 112, 108, 101, 47, 103, 48, 49, 50, 53, 55, 47, 108, 97, 119, 115, 46, 70, 110, 69, 120, 97, 99, 116, 65, 114, 101, 67, 97, 108, 108, 115, 32, 108, 111, 111, 112, 46, 101, 120, 97, 109, 112, 108, 101, 47, 103, 48, 49, 50, 53, 55, 47, 108, 97, 119, 115, 46, 70, 110, 69, 120, 97, 99, 116, 65, 108, 108, 75, 110, 111, 119, 65, 108, 108, 32, 108, 111, 111, 112, 46, 101, 120, 97, 109, 112, 108, 101, 47, 103, 48, 49, 50, 53, 55, 47, 108, 97, 119, 115, 46, 70, 110, 69, 120, 97, 99, 116, 70, 101, 119, 101, 115, 116, 67, 97, 108, 108, 115, 32, 108, 111, 111, 112, 46, 101, 120, 97, 109, 112, 108, 101, 47, 103, 48, 49, 50, 53, 55, 47, 108, 97, 119, 115, 46, 70, 110, 69, 120, 97, 99, 116, 71, 111, 115, 115, 105, 112, 67, 97, 108, 108, 115, 32, 108, 111, 111, 112, 46, 101, 120, 97, 109, 112, 108, 101, 47, 103, 48, 49, 50, 53, 55, 47, 108, 97, 119, 115, 46, 70, 110, 69, 120, 97, 99, 116, 85, 115, 101, 108, 101, 115, 115, 67, 97, 108, 108, 115, 32, 108, 111, 111, 112, 46, 101, 120, 97, 109, 112, 108, 101, 47, 103, 48, 49, 50, 53, 55, 47, 108, 97, 119, 115, 46, 70, 110, 69, 120, 97, 99, 116, 70, 105, 114, 115, 116, 72, 101, 97, 114, 100, 32, 108, 111, 111, 112, 46, 101, 120, 97, 109, 112, 108, 101, 47, 103, 48, 49, 50, 53, 55, 47, 108, 97, 119, 115, 46, 70, 110, 69, 120, 97, 99, 116, 82, 111, 117, 110, 100, 115, 70, 111, 114, 65, 108, 108, 32, 108, 111, 111, 112, 46, 101, 120, 97, 109, 112, 108, 101, 47, 103, 48, 49, 50, 53, 55, 47, 108, 97, 119, 115, 46, 70, 110, 69, 120, 97, 99, 116, 82, 111, 117, 110, 100, 67, 97, 108, 108, 115] : List Nat).map Char.ofNat
set_option maxRecDepth 100000 in
theorem Try.initOrder_is : Try.prog.initOrder = String.ofList headSigns := by kernel_rfl
theorem Try.initOrder_signs : Try.prog.initOrder.toList = headSigns := by rw [Try.initOrder_is]; exact String.toList_ofList
set_option maxRecDepth 100000 in
theorem head_words : (behindMainWord (wordsSigns headSigns)).take 1 = ["cut".toList] := by kernel_rfl
theorem Try.words : ∃ rest, behindMainWord (wordsSigns Try.prog.initOrder.toList) = "cut".toList :: rest := by
  rw [Try.initOrder_signs]
  have h := List.take_append_drop 1 (behindMainWord (wordsSigns headSigns))
  rw [head_words] at h
  exact ⟨_, h.symm⟩
theorem Try.make : Try.prog.make = some .cut := by obtain ⟨_, h⟩ := Try.words; exact make_of h
theorem Try.liftsFinal : Try.prog.liftsFinal = false := by obtain ⟨_, h⟩ := Try.words; exact final_of h
theorem Try.laysLater : Try.prog.laysLater = false := by kernel_rfl
theorem Try.bearsReflect : Try.prog.bearsReflect = false := by kernel_rfl
theorem Try.doorFits : Try.prog.doorFits [] = true := by kernel_rfl
theorem Try.mayEnter : Try.prog.mayEnter = true := by obtain ⟨_, h⟩ := Try.words; exact enter_of h Try.laysLater Try.bearsReflect Try.doorFits
theorem Try.mapsRowed : mapsRowed Try.prog = true := by kernel_rfl
theorem Try.stops : (Try.prog.stops == []) = true := by kernel_rfl
theorem Try.stopKnobs : (Try.prog.stopKnobs == []) = true := by kernel_rfl
theorem Try.plainKeys : Try.prog.plainKeys = true := by kernel_rfl
theorem Try.stopsHeard : Try.prog.stopsHeard = true := by kernel_rfl

/-- What the types of one law give: closed facts on its parameters and its result. -/
def typeFacts (P : Program) (fn : Func) (s : ChangeSpec) (c : OpenClaim) : Bool :=
  fn.params.all (P.readableRec ·) && namedTie P c.named s.vars && (c.stops == []) && (c.knobs == []) &&
  (c.maps == (fn.params.toList ++ s.plain.varTypes P).any (P.mapsRec ·)) && (c.ifaces == (fn.params.toList ++ s.plain.varTypes P).any (P.ifacesRec ·)) && (c.mapsOut == P.mapsAmong fn.resultTypes.toList) &&
  (c.loops == (fn.params.toList ++ s.plain.varTypes P).any (P.loopsFrom ·)) && (c.wideKeys == (fn.params.toList ++ s.plain.varTypes P ++ fn.resultTypes.toList).any (P.wideKeysFrom ·)) &&
  s.vars.all (P.varReadable ·) && fn.resultTypes.all (fun t => P.readableRec t && decide (t < P.types.size)) && (c.ifacesOut == fn.resultTypes.toList.any (P.ifacesRec ·)) && (c.loopsOut == fn.resultTypes.toList.any (P.loopsFrom ·)) && c.shortTexts.isNone &&
  (c.kinds == (if c.domain.isEmpty then [] else fn.params.toList.map fun t => match P.underlying t with | some (.int k) => some k | _ => none)) && (c.pinned == c.pinnedBy) &&
  (c.veiled == (fn.params.toList ++ s.plain.varTypes P ++ fn.resultTypes.toList).any (P.veiledRec ·)) && c.veiledFits P fn.params.toList (fn.params.toList ++ s.plain.varTypes P ++ fn.resultTypes.toList)
theorem joined_all {P : Program} {f : FuncId} {fn : Func} {s : ChangeSpec} {c : OpenClaim} (k1 : c.wf (OpenSpec.ofChange s) = true) (kt : typeFacts P fn s c = true)
    (k10 : (c.inPlace == P.inPlace f) = true) (k11 : (c.unfollowed == P.unfollowed f) = true) (k12 : (c.recurses == P.recurses f) = true) (k13 : (c.named == P.varsNamed f) = true)
    (e2 : laidOutB P = true) (e3 : mapsRowed P = true) (e7 : (P.stops == []) = true) (e9 : (P.stopKnobs == []) = true) (e22 : (c.plainKeys == P.plainKeys) = true) (e23 : P.stopsHeard = true) (e24 : P.mayEnter = true)
    (e24b : (c.lifted == P.liftsFinal) = true) (e24c : (P.make == some c.make) = true) : joinedFacts P f fn s c = true := by
  unfold typeFacts at kt
  unfold joinedFacts
  simp only [Bool.and_eq_true] at kt ⊢
  obtain ⟨⟨⟨⟨⟨⟨⟨⟨⟨⟨⟨⟨⟨⟨⟨⟨⟨t1, t2⟩, t3⟩, t4⟩, t5⟩, t6⟩, t7⟩, t8⟩, t9⟩, t10⟩, t11⟩, t12⟩, t13⟩, t14⟩, t15⟩, t16⟩, t17⟩, t18⟩ := kt
  exact ⟨⟨⟨⟨⟨⟨⟨⟨⟨⟨⟨⟨⟨⟨⟨⟨⟨⟨⟨⟨⟨⟨⟨⟨⟨⟨⟨⟨⟨⟨⟨k1, e2⟩, e3⟩, t1⟩, t2⟩, t3⟩, e7⟩, t4⟩, e9⟩, k10⟩, k11⟩, k12⟩, k13⟩, t5⟩, t6⟩, t7⟩, t8⟩, t9⟩, t10⟩, t11⟩, t12⟩, t13⟩, e22⟩, t14⟩, e23⟩, e24⟩, e24b⟩, e24c⟩, t15⟩, t16⟩, t17⟩, t18⟩
theorem joined_of {f : FuncId} {fn : Func} {s : ChangeSpec} {c : OpenClaim} (k1 : c.wf (OpenSpec.ofChange s) = true) (kt : typeFacts Try.prog fn s c = true)
    (k10 : (c.inPlace == Try.prog.inPlace f) = true) (k11 : (c.unfollowed == Try.prog.unfollowed f) = true) (k12 : (c.recurses == Try.prog.recurses f) = true) (k13 : (c.named == Try.prog.varsNamed f) = true)
    (k22 : c.plainKeys = true) (k24b : c.lifted = false) (k24c : c.make = .cut) : joinedFacts Try.prog f fn s c = true :=
  joined_all k1 kt k10 k11 k12 k13 Try.laidOut Try.mapsRowed Try.stops Try.stopKnobs (by rw [k22, Try.plainKeys]; rfl) Try.stopsHeard Try.mayEnter (by rw [k24b, Try.liftsFinal]; rfl) (by rw [k24c, Try.make]; rfl)
end Go.Proofs.Ytgkedgfbncljbaa
