/-
  Texts put together for the claims of 'Each' (pack 3): Clone, EachS, EachD, EachW, Ints, TiedP, Table, LRows, OwnRow, Head, Facts.
-/
import Derived.Test.YtgnfkgnokhjmcaaEachP1
import Derived.Test.YtgnfkgnokhjmcaaEachP2
import Derived.Lib.SliceRun
import Derived.Deep.LoopGhost
import Derived.Deep.Slices
import Derived.WideShapes
import Derived.Laws.AppendOwnNone
import Derived.BigQuiet
import Derived.Deep.Cut
import Derived.Laws.BitsAllLaws
import Derived.Lib.TrailingZeros
import Derived.StillTailTactics
import Derived.Test.YtgnfkgnokhjmcaaRows
/-
  slices.Clone of pairs and of numbers, by its contracts, at every address.
-/
namespace Go.Proofs.Ytgnfkgnokhjmcaa
open Go.RowKit

theorem read_add_P {w : World} {B : Nat} {a : Addr} {l : PL} (h : CRead w B (some a) (pcells l)) : ∀ j u, (pcells l)[j]? = some u → w.cell? (a.add j) = some u := by
  intro j u hj
  obtain ⟨b, off, e, _, hc⟩ := h j u hj
  simp only [Option.some.injEq] at e
  subst e
  rw [Go.WideShapes.add_plain]
  exact hc
set_option maxHeartbeats 1000000 in
set_option maxRecDepth 100000 in
theorem cloneP_any (l : PL) (A : Option Addr) (c : Nat) (w : World) (hl : l.length ≤ 1048576) (hA : CRead w w.heap.size A (pcells l)) :
    Calls Try.prog 23 #[.slice A l.length c] w fun e w' => ∃ A' c', e = .returned (.slice A' l.length c') ∧ w'.ownsRow w.heap.size 43 2 (.slice A' l.length c') l.length (pcells l) ∧ Below w.heap.size w w' := by
  obtain ⟨i0, hi, hz0, hz1, hz2⟩ := info_parts Try.infoPair
  have q22 : ∀ (w : World) (a : Option Addr) (n c n' c' : Nat), (binOp .eql 23 (.slice a n c) (.slice none n' c')).run Try.prog w = .ok (.bool a.isNone) w := fun w a n c n' c' => Lib.run_eql_slice_nil w _ _ a n c n' c' Try.underlying23
  have u22 : ∀ w, Sem.run Try.prog (underlying 23) w = .ok (TypeDesc.slice 43) w := run_underlying Try.underlying23
  cases A with
  | none =>
    have hq : l = [] := by
      cases l with
      | nil => rfl
      | cons x l =>
        obtain ⟨b, off, e, _⟩ := hA 0 _ (by simp [pcells]; rfl)
        cases e
    subst hq
    go_enter Try.func23, Try.ntmps23
    go_wp2
    go_ret
    exact ⟨none, 0, rfl, World.ownsRow_nil _ _ _ _, Below.refl _ _⟩
  | some a =>
    have hc := read_add_P hA
    have H : Aside (∀ j u, (pcells l)[j]? = some u → w.cell? (a.add j) = some u) := hc
    clear hc hA
    go_enter Try.func23, Try.ntmps23
    go_wp2_with (at_builtin; refine wpList_append_own _ rfl _ _ 23 rfl w.heap.size 43 i0 (.agg #[.int .i64 0, .int .i64 0]) 2 16 Try.underlying23 hi hz0 hz1 hz2 rfl (by decide) _ _ _ rfl (World.ownsRow_made w #[] 0 (Nat.le_refl _) (Nat.zero_le _) rfl) a l.length c (pcells l) rfl ?qc1 ?qc2 ?qc3 ?qc4 ?qc5 ?qc6 ?_)
    case qc1 => exact pcells_length l
    case qc2 =>
      intro j u hj
      exact Lib.cell?_alloc_some _ (H.out j u hj)
    case qc3 => exact pcells_one l
    case qc4 => unfold maxLen; omega
    case qc5 => omega
    case qc6 => simp
    intro v' w1 hown hgrow _

    obtain ⟨A1, c1, rfl, _⟩ := own_shape hown
    go_wp2
    go_ret
    exact ⟨A1, c1, rfl, hown, ((Below.refl _ w).alloc (Nat.le_refl _) _).grown hgrow (by simp) (by intro k hk; simp [Value.ownBlock] at hk; omega)⟩

theorem read_add_I {w : World} {B : Nat} {a : Addr} {l : List Int} (h : CRead w B (some a) (icells l)) : ∀ j u, (icells l)[j]? = some u → w.cell? (a.add j) = some u := by
  intro j u hj
  obtain ⟨b, off, e, _, hc⟩ := h j u hj
  simp only [Option.some.injEq] at e
  subst e
  rw [Go.WideShapes.add_plain]
  exact hc
end Go.Proofs.Ytgnfkgnokhjmcaa
/-
  ALL PARTIES OF SOME NUMBERS: the model's recursion ('deLook'), by its contract.
-/
namespace Go.Proofs.Ytgnfkgnokhjmcaa
open Go.RowKit

/-- the count and the first one -/
structure CntAt (w : World) (pc pf : Nat) (cnt : Nat) (fst : PL) (B : Nat) (FA : Option Addr) (fc : Nat) : Prop where
  cntc : w.heap[pc]? = some (Obj.cells #[.int .i64 cnt] 3)
  fstc : w.heap[pf]? = some (Obj.cells #[.slice FA fst.length fc] 23)
  row : w.ownsRow B 43 2 (.slice FA fst.length fc) fst.length (pcells fst)
section
variable {w w' : World} {pc pf cnt : Nat} {fst : PL} {B : Nat} {FA : Option Addr} {fc : Nat}
theorem CntAt.below (h : CntAt w pc pf cnt fst B FA fc) (hb : Below w.heap.size w w') : CntAt w' pc pf cnt fst B FA fc :=
  ⟨(hb.block _ (Array.getElem?_eq_some_iff.1 h.cntc).1).trans h.cntc, (hb.block _ (Array.getElem?_eq_some_iff.1 h.fstc).1).trans h.fstc, own_below h.row hb (Nat.le_refl _)⟩
theorem CntAt.counted (h : CntAt w pc pf cnt fst B FA fc) (h3 : pc ≠ pf) (hB : pc < B) : CntAt (w.setCell ⟨pc, 0, none⟩ (.int .i64 ((cnt : Int) + 1))) pc pf (cnt + 1) fst B FA fc :=
  ⟨by rw [box_set h.cntc]; rfl, (Below.heap_setCell _ _ _ _ (Ne.symm h3)).trans h.fstc, own_ap h.row (Apart.setCell (S := fun j => j = pc) rfl _) (fun j hj => by omega)⟩
theorem CntAt.firsts (h : CntAt w pc pf cnt fst B FA fc) (h3 : pc ≠ pf) (hB : pf < B) {l : PL} {A2 : Option Addr} {c2 : Nat} (ho : w.ownsRow B 43 2 (.slice A2 l.length c2) l.length (pcells l)) :
    CntAt (w.setCell ⟨pf, 0, none⟩ (.slice A2 l.length c2)) pc pf cnt l B A2 c2 :=
  ⟨(Below.heap_setCell _ _ _ _ h3).trans h.cntc, by rw [box_set h.fstc], own_ap ho (Apart.setCell (S := fun j => j = pf) rfl _) (fun j hj => by omega)⟩
end
/-- what a call of the recursion leaves -/
def LookD (pc pf cnt : Nat) (fst : PL) (B : Nat) (L : List PL) (w w' : World) : Prop :=
  Apart (fun j => j = pc ∨ j = pf) w w' ∧ ∃ FA' fc', CntAt w' pc pf (cnt + L.length) (fstN fst cnt L) B FA' fc'
set_option maxHeartbeats 8000000 in
set_option maxRecDepth 100000 in
theorem deLook_told (n a b : Nat) (hn : n ≤ 7) (ha : a + 1 = n) (pc pf B : Nat) (hcf : pc ≠ pf) (hcB : pc < B) (hfB : pf < B)
    (g cl : Nat) (told : PL) (A : Option Addr) (c cnt : Nat) (fst : PL) (FA : Option Addr) (fc : Nat) (w : World) (h100 : told.length ≤ 100) (hcnt : cnt + 1 ≤ 2 ^ 60) (hBw : B ≤ w.heap.size) (hcell : w.cell? ⟨g, a, none⟩ = some (.int .i64 0))
    (hP : CntAt w pc pf cnt fst B FA fc) (own : w.ownsRow B 43 2 (.slice A told.length c) told.length (pcells told)) :
    Calls Try.prog 29 #[.int .i64 n, .slice (some ⟨g, 0, none⟩) n cl, .int .i64 a, .int .i64 b, .slice A told.length c, .pointer (some ⟨pc, 0, none⟩), .pointer (some ⟨pf, 0, none⟩)] w fun e w' =>
      e = .returned (.tuple #[]) ∧ LookD pc pf cnt fst B [told] w w' := by
  obtain ⟨i0, hi, hz0, hz1, hz2⟩ := info_parts Try.infoPair
  unfold LookD
  have hfirst : fstN fst cnt [told] = if cnt = 0 then told else fst := rfl
  rw [hfirst]
  simp only [List.length_cons, List.length_nil, Nat.zero_add]
  obtain ⟨F, hF⟩ : ∃ F, (if cnt = 0 then told else fst) = F := ⟨_, rfl⟩
  rw [hF]
  have HF := Lib.hid hF
  have lpc : pc < w.heap.size := by omega
  have lpf : pf < w.heap.size := by omega
  have HP := Lib.hid hP
  have Own := Lib.hid own
  have cc := cell_in hP.cntc
  have fcz := frozen_of_row _ _ 0 _ _ hP.cntc
  have hp60 : (2 : Nat) ^ 60 = 1152921504606846976 := by decide
  have hai : (a : Int) < n := by omega
  have ha1 : ((a : Int) == (n : Int) - 1) = true := by simp; omega
  have hn0 : ((n : Int) == 0) = false := by simp; omega
  clear hP own hfirst hF ha
  by_cases hc0 : cnt = 0
  · subst hc0
    have hFt : told = F := by rw [← HF.out, if_pos rfl]
    subst hFt
    rcases own_none2 Own.out with ⟨rfl, h0, rfl⟩ | ⟨gg, rfl⟩
    · have ht : told = [] := List.eq_nil_of_length_eq_zero h0
      subst ht
      have h1 : (w.alloc (.cells #[] 43)).ownsRow w.heap.size 43 2 (.slice (some ⟨w.heap.size, 0, none⟩) 0 0) 0 [] := World.ownsRow_made w #[] 0 (Nat.le_refl _) (Nat.zero_le _) rfl
      have kX : Below w.heap.size w (w.alloc (.cells #[] 43)) := by go_grown
      have P1 := (HP.out.below kX).firsts hcf hfB (l := []) (own_lower h1 hBw)
      have P2 := P1.counted hcf hcB
      have x1 := cell_in P1.cntc
      have x2 := frozen_of_row _ _ 0 _ _ P1.cntc
      have x3 := cell_in (HP.out.below kX).fstc
      have x4 := frozen_of_row _ _ 0 _ _ (HP.out.below kX).fstc
      have lpc2 : pc < (w.setCell ⟨pf, 0, none⟩ (.slice (some ⟨w.heap.size, 0, none⟩) 0 0)).heap.size := by simp; omega
      have ap := ((Apart.of_below (S := fun j => j = pc ∨ j = pf) kX).trans (Apart.setCell (S := fun j => j = pc ∨ j = pf) (p := ⟨pf, 0, none⟩) (.inr rfl) (.slice (some ⟨w.heap.size, 0, none⟩) 0 0)) (fun j hj => .inl hj)).trans (Apart.setCell (S := fun j => j = pc ∨ j = pf) (p := ⟨pc, 0, none⟩) (.inl rfl) (.int .i64 (((0 : Nat) : Int) + 1))) (fun j hj => .inl hj)
      have e1 := World.setCell_alloc_past (w := w) (.cells #[] 43) pf 0 (.slice (some ⟨w.heap.size, 0, none⟩) 0 0) lpf
      have e2 := World.setCell_alloc_past (w := w.setCell ⟨pf, 0, none⟩ (.slice (some ⟨w.heap.size, 0, none⟩) 0 0)) (.cells #[] 43) pc 0 (.int .i64 (((0 : Nat) : Int) + 1)) lpc2
      have e3 : ([] : PL).length = 0 := rfl
      rw [e3, e1, e2] at P2
      rw [e1, e2] at ap
      have HP2 := Lib.hid P2
      have Ap := Lib.hid ap
      clear P1 P2 ap e1 e2 e3 lpc2
      go_enter Try.func29, Try.ntmps29
      go_wp2_with (at_builtin; refine wpList_append_own_none rfl _ _ 23 rfl w.heap.size 43 i0 2 Try.underlying23 hi _ _ _ rfl h1 rfl ?_)
      refine show _ = [] ∧ _ from ⟨rfl, .tuple #[], by simp [results, Try.results29, go_sem], ?_⟩
      exact ⟨rfl, Ap.out, _, _, HP2.out⟩
    · have h1 : (w.alloc (.cells #[] 43)).ownsRow w.heap.size 43 2 (.slice (some ⟨w.heap.size, 0, none⟩) 0 0) 0 [] := World.ownsRow_made w #[] 0 (Nat.le_refl _) (Nat.zero_le _) rfl
      have kX : Below w.heap.size w (w.alloc (.cells #[] 43)) := by go_grown
      have rdX : CRead (w.alloc (.cells #[] 43)) (w.alloc (.cells #[] 43)).heap.size (some ⟨gg, 0, none⟩) (pcells told) := (CRead.of_own Own.out).below kX (Nat.le_refl _) |>.more kX.size
      go_enter Try.func29, Try.ntmps29
      go_wp2_with (at_builtin; refine wpList_append_own _ rfl _ _ 23 rfl w.heap.size 43 i0 _ 2 16 Try.underlying23 hi hz0 hz1 hz2 rfl (by decide) (.slice (some ⟨w.heap.size, 0, none⟩) 0 0) 0 [] rfl h1 ⟨gg, 0, none⟩ told.length c (pcells told) rfl (pcells_length told) (read_add_P rdX) (pcells_one _) (by unfold maxLen; omega) (by omega) (by simp) ?_; intro v1 w1 own1 gr1 _; have k1 : Below w.heap.size w w1 := kX.grown gr1 (by simp) (by intro m hm; simp [Value.ownBlock] at hm; omega); obtain ⟨A1, c1, rfl, _⟩ := own_shape own1; simp only [Nat.zero_add, List.nil_append] at own1; have P0 := HP.out.below k1; have x3 := cell_in P0.fstc; have x4 := frozen_of_row _ _ 0 _ _ P0.fstc; have P1 := P0.firsts hcf hfB (own_lower own1 hBw); have x1 := cell_in P1.cntc; have x2 := frozen_of_row _ _ 0 _ _ P1.cntc; have HP2 := Lib.hid (P1.counted hcf hcB); have HK1 := Lib.hid k1; clear P0 P1 own1 gr1 k1)
      refine show _ = [] ∧ _ from ⟨rfl, .tuple #[], by simp [results, Try.results29, go_sem], ?_⟩
      refine ⟨rfl, ?_, _, _, HP2.out⟩
      exact ((Apart.of_below (S := fun j => j = pc ∨ j = pf) HK1.out).trans (Apart.setCell (S := fun j => j = pc ∨ j = pf) (p := ⟨pf, 0, none⟩) (.inr rfl) _) (fun j hj => .inl hj)).trans (Apart.setCell (S := fun j => j = pc ∨ j = pf) (p := ⟨pc, 0, none⟩) (.inl rfl) _) (fun j hj => .inl hj)
  · have hcb : ((cnt : Int) == 0) = false := by simp; omega
    have hFt : fst = F := by rw [← HF.out, if_neg hc0]
    subst hFt
    have HP2 := Lib.hid (HP.out.counted hcf hcB)
    go_enter Try.func29, Try.ntmps29
    go_wp2
    refine show _ = [] ∧ _ from ⟨rfl, .tuple #[], by simp [results, Try.results29, go_sem], ?_⟩
    exact ⟨rfl, Apart.setCell (S := fun j => j = pc ∨ j = pf) (p := ⟨pc, 0, none⟩) (.inl rfl) _, _, _, HP2.out⟩
theorem LookD.nil {pc pf cnt : Nat} {fst : PL} {B : Nat} {FA : Option Addr} {fc : Nat} {w : World} (hP : CntAt w pc pf cnt fst B FA fc) : LookD pc pf cnt fst B [] w w :=
  ⟨Apart.refl _ _, FA, fc, by rw [fstN_none]; exact hP⟩
theorem LookD.after {pc pf cnt : Nat} {fst : PL} {B : Nat} {L : List PL} {w X w' : World} (hb : Below w.heap.size w X) (h : LookD pc pf cnt fst B L X w') : LookD pc pf cnt fst B L w w' :=
  ⟨(Apart.of_below hb).trans h.1 (fun _ hj => .inl hj), h.2⟩
theorem LookD.trans {pc pf cnt : Nat} {fst : PL} {B : Nat} {L M : List PL} {w X w' : World} (h : LookD pc pf cnt fst B L w X) (h2 : LookD pc pf (cnt + L.length) (fstN fst cnt L) B M X w') : LookD pc pf cnt fst B (L ++ M) w w' := by
  obtain ⟨a2, FA, fc, h4⟩ := h2
  refine ⟨h.1.trans a2 (fun j hj => .inl hj), FA, fc, ?_⟩
  rw [fstN_append, List.length_append, ← Nat.add_assoc]
  exact h4
theorem getD_some {l : List Int} {j : Nat} {x : Int} (h : l[j]? = some x) : l.getD j 0 = x := by rw [List.getD_eq_getElem?_getD, h]; rfl
theorem StepN.far {n k a b : Nat} (h : StepN n (k + 2) a b) : a + 1 ≠ n := by
  rcases h with h | ⟨h1, h2, h3, h4⟩
  · omega
  · intro e
    rw [show n - a - 1 = 0 by omega] at h4
    simp only [rowsN] at h4
    omega
set_option maxHeartbeats 8000000 in
set_option maxRecDepth 100000 in
theorem deLook_any (n : Nat) (hn : n ≤ 7) (pc pf B : Nat) (hcf : pc ≠ pf) (hcB : pc < B) (hfB : pf < B) :
    ∀ (k : Nat) (l : List Int) (a b g cl : Nat) (told : PL) (A : Option Addr) (c cnt : Nat) (fst : PL) (FA : Option Addr) (fc : Nat) (w : World), StepN n (k + 1) a b → l.length = n → FewN l → told.length + k ≤ 60 → cnt + 2 ^ (k + 1) ≤ 2 ^ 60 → B ≤ w.heap.size →
    w.ownsRow B 3 1 (.slice (some ⟨g, 0, none⟩) n cl) n (icells l) → CntAt w pc pf cnt fst B FA fc → w.ownsRow B 43 2 (.slice A told.length c) told.length (pcells told) →
    Calls Try.prog 29 #[.int .i64 n, .slice (some ⟨g, 0, none⟩) n cl, .int .i64 a, .int .i64 b, .slice A told.length c, .pointer (some ⟨pc, 0, none⟩), .pointer (some ⟨pf, 0, none⟩)] w fun e w' =>
      e = .returned (.tuple #[]) ∧ LookD pc pf cnt fst B (lookN n (k + 1) l a b told) w w' := by
  obtain ⟨i0, hi, hz0, hz1, hz2⟩ := info_parts Try.infoPair
  intro k
  induction k with
  | zero =>
    intro l a b g cl told A c cnt fst FA fc w hs hl hfew h60 hcnt hBw ownl hP own
    have h1 := hs.lt
    have hb : ¬ b < n := fun hb => by have := (hs.more hb).ended; omega
    have ha : a + 1 = n := (hs.next hb).ended
    obtain ⟨la, hla⟩ := getSome l a (by omega)
    have hlaD := getD_some hla
    have hcell := own_cell ownl hla
    rw [lookN_end hb, hlaD]
    by_cases h0 : la = 0
    · subst h0
      rw [if_pos rfl]
      exact deLook_told n a b hn ha pc pf B hcf hcB hfB g cl told A c cnt fst FA fc w (by omega) (by omega) hBw hcell hP own
    · rw [if_neg h0]
      have fin := LookD.nil hP
      have Fin := Lib.hid fin
      have hai : (a : Int) < n := by omega
      have ha1 : ((a : Int) == (n : Int) - 1) = true := by simp; omega
      have hn0 : ((n : Int) == 0) = false := by simp; omega
      have hla0 : (la == 0) = false := by simpa using h0
      clear fin hP own hlaD hla ownl hfew hs
      go_enter Try.func29, Try.ntmps29
      go_wp2
      refine show _ = [] ∧ _ from ⟨rfl, .tuple #[], by simp [results, Try.results29, go_sem], ?_⟩
      exact ⟨rfl, Fin.out⟩
  | succ k ih =>
    intro l a b g cl told A c cnt fst FA fc w hs hl hfew h60 hcnt hBw ownl hP own
    have h1 := hs.lt
    have hfar := hs.far
    have hp : 2 ^ (k + 1 + 1) = 2 ^ (k + 1) * 2 := Nat.pow_succ 2 (k + 1)
    obtain ⟨la, hla⟩ := getSome l a (by omega)
    have hlaD := getD_some hla
    have hcell := own_cell ownl hla
    have hai : (a : Int) < n := by omega
    have ha1 : ((a : Int) == (n : Int) - 1) = false := by simp; omega
    have hn0 : ((n : Int) == 0) = false := by simp; omega
    have ea : ((a + 1 : Nat) : Int) = (a : Int) + 1 := by omega
    have ea2 : ((a + 2 : Nat) : Int) = (a : Int) + 2 := by omega
    have eb : ((b + 1 : Nat) : Int) = (b : Int) + 1 := by omega
    have hp60 : (2 : Nat) ^ 60 = 1152921504606846976 := by decide
    have hl0 := hfew a
    rw [hlaD] at hl0
    by_cases hb : b < n
    · obtain ⟨lb, hlb⟩ := getSome l b (by omega)
      have hlbD := getD_some hlb
      have hcell2 := own_cell ownl hlb
      have hbi : (b : Int) < n := by omega
      have hbn : ((b : Int) == (n : Int)) = false := by simp; omega
      have hb0 := hfew b
      rw [hlbD] at hb0
      by_cases hpa : 0 < la
      · by_cases hpb : 0 < lb
        · rw [lookN_take hb (by rw [hlaD, hlbD]; exact ⟨hpa, hpb⟩)]
          have hlen := lookN_len n (k + 1) (lessN l a b) a (b + 1) (told ++ [((a : Int), (b : Int))])
          obtain ⟨L1, hL1⟩ : ∃ L1, lookN n (k + 1) (lessN l a b) a (b + 1) (told ++ [((a : Int), (b : Int))]) = L1 := ⟨_, rfl⟩
          rw [hL1] at hlen ⊢
          have HL1 := Lib.hid hL1
          clear hL1
          have hown := l1Own_any l (some ⟨g, 0, none⟩) cl w (by omega) (by omega) (CRead.of_own ownl)
          rw [hl] at hown
          have HO := Lib.hid hown
          have IH := Lib.hid ih
          have Own := Lib.hid own
          have Ownl := Lib.hid ownl
          have HP := Lib.hid hP
          have Hs := Lib.hid (hs.more hb)
          have Hfew := Lib.hid hfew
          have Hfl := Lib.hid (hfew.less h1.1 (by omega) (by rw [hlaD]; exact hpa) (by rw [hlbD]; exact hpb))
          have hless : lessN l a b = (l.set a (la - 1)).set b (lb - 1) := by unfold lessN; rw [hlaD, hlbD]
          have Hless := Lib.hid hless
          have Hll := Lib.hid hl
          have hab : a ≠ b := by omega
          have HlaS := Lib.hid hla
          have hlbS : (l.set a (la - 1))[b]? = some lb := by rw [List.getElem?_set_ne hab]; exact hlb
          have HlbS := Lib.hid hlbS
          clear hown ih own ownl hP hs hfew hlaD hlbD hla hlb hl hless hlbS
          go_enter Try.func29, Try.ntmps29
          go_wp2_with fail
          refine HO.out.mono ?_
          rintro e w1 ⟨A1, c1, rfl, own1, hb1⟩
          obtain ⟨g1, rfl⟩ := own_form own1 (by omega)
          have x0 := own_cell own1 HlaS.out
          have x1 := own1.frozenAt a
          have own2 := own_set own1 a (la - 1)
          have y0 := own_cell own2 HlbS.out
          have y1 := own2.frozenAt b
          have own3 := own_set own2 b (lb - 1)
          rw [← Hless.out] at own3
          have hg1 := (own1.lt g1 rfl)
          have s1 := hb1.size
          have kX0 : Below w.heap.size w ((w1.setCell ⟨g1, a, none⟩ (.int .i64 (la - 1))).setCell ⟨g1, b, none⟩ (.int .i64 (lb - 1))) := (hb1.setCell (p := ⟨g1, a, none⟩) hg1.1 _).setCell (p := ⟨g1, b, none⟩) hg1.1 _
          obtain ⟨X, hX⟩ : ∃ X, ((w1.setCell ⟨g1, a, none⟩ (.int .i64 (la - 1))).setCell ⟨g1, b, none⟩ (.int .i64 (lb - 1))) = X := ⟨_, rfl⟩
          rw [hX] at own3 kX0
          have HX := Lib.hid hX
          have Own3 := Lib.hid own3
          have KX0 := Lib.hid kX0
          have sX := kX0.size
          clear hX own1 own2 own3 kX0 HO
          go_upto_region 12 with (fail)
          rw [HX.out]
          have h0 : (X.alloc (.cells #[] 43)).ownsRow X.heap.size 43 2 (.slice (some ⟨X.heap.size, 0, none⟩) 0 0) 0 [] := World.ownsRow_made X #[] 0 (Nat.le_refl _) (Nat.zero_le _) rfl
          have kY : Below X.heap.size X (X.alloc (.cells #[] 43)) := by go_grown
          have ownX : X.ownsRow B 43 2 (.slice A told.length c) told.length (pcells told) := own_below Own.out KX0.out (Nat.le_refl _)
          have OwnX := Lib.hid ownX
          clear ownX x0 x1 y0 y1 hcell hcell2
          rcases own_none2 OwnX.out with ⟨rfl, hz0', rfl⟩ | ⟨gg, rfl⟩
          · have ht : told = [] := List.eq_nil_of_length_eq_zero hz0'
            rw [hz0']
            have q0 : ((X.alloc (.cells #[] 43)).alloc (.cells #[.int .i64 (a : Int), .int .i64 (b : Int)] 43)).cell? ⟨X.heap.size + 1, 0, none⟩ = some (.int .i64 (a : Int)) := by simp
            have q1 : ((X.alloc (.cells #[] 43)).alloc (.cells #[.int .i64 (a : Int), .int .i64 (b : Int)] 43)).cell? ⟨X.heap.size + 1, 1, none⟩ = some (.int .i64 (b : Int)) := by simp
            go_wp2_with (at_builtin; first
              | (refine wpList_append_own _ rfl _ _ 23 rfl X.heap.size 43 i0 _ 2 16 Try.underlying23 hi hz0 hz1 hz2 rfl (by decide) (.slice (some ⟨X.heap.size, 0, none⟩) 0 0) 0 [] rfl (h0.alloc _) ⟨X.heap.size + 1, 0, none⟩ 1 1 [.int .i64 (a : Int), .int .i64 (b : Int)] rfl rfl (two_cellsB q0 q1) (two_oneB rfl rfl) (by unfold maxLen; omega) (by omega) (by simp <;> omega) ?_; intro v7 w7 own7 gr7 _; have k7 : Below X.heap.size X w7 := (kY.alloc (by simp) _).grown gr7 (by simp <;> omega) (by intro m hm; simp [Value.ownBlock] at hm; omega); obtain ⟨A7, c7, rfl, _⟩ := own_shape own7; have HK7 := Lib.hid k7; have Own7 := Lib.hid own7; clear own7 gr7 k7)
              | (refine wpList_append_own_none rfl _ _ 23 rfl X.heap.size 43 i0 2 Try.underlying23 hi _ _ _ rfl h0 rfl ?_))
            have hll : (told ++ [((a : Int), (b : Int))]).length = 0 + 1 := by rw [ht]; rfl
            have own8 : w7.ownsRow B 43 2 (.slice A7 (told ++ [((a : Int), (b : Int))]).length c7) (told ++ [((a : Int), (b : Int))]).length (pcells (told ++ [((a : Int), (b : Int))])) := by
              rw [hll, pcells_append, ht]
              exact own_lower Own7.out (by omega)
            have hb7 := HK7.out
            have s7 := hb7.size
            have k07 : Below w.heap.size w w7 := KX0.out.trans (hb7.mono sX)
            have P7 := HP.out.below k07
            have own9 : w7.ownsRow B 3 1 (.slice (some ⟨g1, 0, none⟩) n c1) n (icells (lessN l a b)) := own_lower (own_below Own3.out hb7 (Nat.le_refl _)) (by omega)
            have ihc := IH.out (lessN l a b) a (b + 1) g1 c1 (told ++ [((a : Int), (b : Int))]) A7 c7 cnt fst FA fc w7 Hs.out (by rw [lessN_len]; exact Hll.out) Hfl.out (by rw [hll]; omega) (by omega) (by omega) own9 P7 own8
            rw [HL1.out] at ihc
            rw [hll, eb] at ihc
            have IHC := Lib.hid ihc
            have K07 := Lib.hid k07
            clear ihc own8 own9 P7 hb7 k07
            go_wp2_with fail
            refine IHC.out.mono ?_
            rintro e w8 ⟨rfl, hL⟩
            have hL2 := LookD.after K07.out hL
            obtain ⟨FA8, fc8, P8⟩ := hL2.2
            have s8 := hL2.1.below.size
            have ihd := IH.out l a (b + 1) g cl told none 0 (cnt + L1.length) (fstN fst cnt L1) FA8 fc8 w8 Hs.out Hll.out Hfew.out (by omega) (by omega) (by omega) (own_ap Ownl.out hL2.1 (fun j hj => by omega)) P8 (own_ap Own.out hL2.1 (fun j hj => by omega))
            rw [eb] at ihd
            rw [hz0'] at ihd
            have IHD := Lib.hid ihd
            have HL2 := Lib.hid hL2
            clear ihd hL hL2 P8 IHC
            go_wp2_with fail
            refine IHD.out.mono ?_
            rintro e w9 ⟨rfl, hL9⟩
            have fin := HL2.out.trans hL9
            clear IHD hL9
            go_wp2
            refine show _ = [] ∧ _ from ⟨rfl, .tuple #[], by simp [results, Try.results29, go_sem], ?_⟩
            exact ⟨rfl, fin⟩
          · have rdX : CRead (X.alloc (.cells #[] 43)) (X.alloc (.cells #[] 43)).heap.size (some ⟨gg, 0, none⟩) (pcells told) := (CRead.of_own OwnX.out).below kY (Nat.le_refl _) |>.more kY.size
            go_wp2_with (at_builtin; first
              | (refine wpList_append_own _ rfl _ _ 23 rfl X.heap.size 43 i0 _ 2 16 Try.underlying23 hi hz0 hz1 hz2 rfl (by decide) _ told.length _ rfl (own5.alloc _) ⟨w5.heap.size, 0, none⟩ 1 1 [.int .i64 (a : Int), .int .i64 (b : Int)] rfl rfl (two_cellsB (by simp) (by simp)) (two_oneB rfl rfl) (by unfold maxLen; omega) (by omega) (by simp <;> omega) ?_; intro v7 w7 own7 gr7 _; have k7 : Below X.heap.size X w7 := (k5.alloc z5 _).grown gr7 (by simp <;> omega) (fun k hk => (own5.lt k hk).1); obtain ⟨A7, c7, rfl, _⟩ := own_shape own7; have HK7 := Lib.hid k7; have Own7 := Lib.hid own7; clear own7 gr7 k7)
              | (refine wpList_append_own _ rfl _ _ 23 rfl X.heap.size 43 i0 _ 2 16 Try.underlying23 hi hz0 hz1 hz2 rfl (by decide) (.slice (some ⟨X.heap.size, 0, none⟩) 0 0) 0 [] rfl h0 ⟨gg, 0, none⟩ told.length c (pcells told) rfl (pcells_length told) (read_add_P rdX) (pcells_one _) (by unfold maxLen; omega) (by omega) (by simp) ?_; intro v5 w5 own5 gr5 _; have k5 : Below X.heap.size X w5 := kY.grown gr5 (by simp) (by intro m hm; simp [Value.ownBlock] at hm; omega); simp only [Nat.zero_add, List.nil_append] at own5; obtain ⟨A5, c5, rfl, _⟩ := own_shape own5; have z5 := k5.size))
            clear own5 gr5 k5
            have hll : (told ++ [((a : Int), (b : Int))]).length = told.length + 1 := by simp
            have own8 : w7.ownsRow B 43 2 (.slice A7 (told ++ [((a : Int), (b : Int))]).length c7) (told ++ [((a : Int), (b : Int))]).length (pcells (told ++ [((a : Int), (b : Int))])) := by
              rw [hll, pcells_append]
              exact own_lower Own7.out (by omega)
            have hb7 := HK7.out
            have s7 := hb7.size
            have k07 : Below w.heap.size w w7 := KX0.out.trans (hb7.mono sX)
            have P7 := HP.out.below k07
            have own9 : w7.ownsRow B 3 1 (.slice (some ⟨g1, 0, none⟩) n c1) n (icells (lessN l a b)) := own_lower (own_below Own3.out hb7 (Nat.le_refl _)) (by omega)
            have ihc := IH.out (lessN l a b) a (b + 1) g1 c1 (told ++ [((a : Int), (b : Int))]) A7 c7 cnt fst FA fc w7 Hs.out (by rw [lessN_len]; exact Hll.out) Hfl.out (by rw [hll]; omega) (by omega) (by omega) own9 P7 own8
            rw [HL1.out] at ihc
            rw [hll, eb] at ihc
            have IHC := Lib.hid ihc
            have K07 := Lib.hid k07
            clear ihc own8 own9 P7 hb7 k07
            go_wp2_with fail
            refine IHC.out.mono ?_
            rintro e w8 ⟨rfl, hL⟩
            have hL2 := LookD.after K07.out hL
            obtain ⟨FA8, fc8, P8⟩ := hL2.2
            have s8 := hL2.1.below.size
            have ihd := IH.out l a (b + 1) g cl told (some ⟨gg, 0, none⟩) c (cnt + L1.length) (fstN fst cnt L1) FA8 fc8 w8 Hs.out Hll.out Hfew.out (by omega) (by omega) (by omega) (own_ap Ownl.out hL2.1 (fun j hj => by omega)) P8 (own_ap Own.out hL2.1 (fun j hj => by omega))
            rw [eb] at ihd
            have IHD := Lib.hid ihd
            have HL2 := Lib.hid hL2
            clear ihd hL hL2 P8 IHC
            go_wp2_with fail
            refine IHD.out.mono ?_
            rintro e w9 ⟨rfl, hL9⟩
            have fin := HL2.out.trans hL9
            clear IHD hL9
            go_wp2
            refine show _ = [] ∧ _ from ⟨rfl, .tuple #[], by simp [results, Try.results29, go_sem], ?_⟩
            exact ⟨rfl, fin⟩
        · rw [lookN_not hb (by rw [hlaD, hlbD]; exact fun h => hpb h.2)]
          have ihc := ih l a (b + 1) g cl told A c cnt fst FA fc w (hs.more hb) hl hfew (by omega) (by omega) hBw ownl hP own
          rw [eb] at ihc
          have IHC := Lib.hid ihc
          clear ihc ih hP own ownl hfew hs hl hla hlaD hlb hlbD hcnt hp ea ea2 eb
          go_enter Try.func29, Try.ntmps29
          go_wp2_with fail
          refine IHC.out.mono ?_
          rintro e w' ⟨rfl, hL⟩
          go_wp2
          refine show _ = [] ∧ _ from ⟨rfl, .tuple #[], by simp [results, Try.results29, go_sem], ?_⟩
          exact ⟨rfl, hL⟩
      · rw [lookN_not hb (by rw [hlaD, hlbD]; exact fun h => hpa h.1)]
        have ihc := ih l a (b + 1) g cl told A c cnt fst FA fc w (hs.more hb) hl hfew (by omega) (by omega) hBw ownl hP own
        rw [eb] at ihc
        have IHC := Lib.hid ihc
        clear ihc ih hP own ownl hfew hs hl hla hlaD hlb hlbD hcnt hp ea ea2 eb
        go_enter Try.func29, Try.ntmps29
        go_wp2_with fail
        refine IHC.out.mono ?_
        rintro e w' ⟨rfl, hL⟩
        go_wp2
        refine show _ = [] ∧ _ from ⟨rfl, .tuple #[], by simp [results, Try.results29, go_sem], ?_⟩
        exact ⟨rfl, hL⟩
    · have hbn : ((b : Int) == (n : Int)) = true := by simp; omega
      rw [lookN_end hb, hlaD]
      by_cases h0 : la = 0
      · subst h0
        rw [if_pos rfl]
        have ihc := ih l (a + 1) (a + 2) g cl told A c cnt fst FA fc w (hs.next hb) hl hfew (by omega) (by omega) hBw ownl hP own
        rw [ea, ea2] at ihc
        have IHC := Lib.hid ihc
        clear ihc ih hP own ownl hfew hs hl hla hlaD hcnt hp ea ea2 eb
        go_enter Try.func29, Try.ntmps29
        go_wp2_with fail
        refine IHC.out.mono ?_
        rintro e w' ⟨rfl, hL⟩
        go_wp2
        refine show _ = [] ∧ _ from ⟨rfl, .tuple #[], by simp [results, Try.results29, go_sem], ?_⟩
        exact ⟨rfl, hL⟩
      · rw [if_neg h0]
        have Fin := Lib.hid (LookD.nil hP)
        have hla0 : (la == 0) = false := by simpa using h0
        clear ih hP own hlaD hla ownl hfew hs hcnt hp ea ea2 eb
        go_enter Try.func29, Try.ntmps29
        go_wp2
        refine show _ = [] ∧ _ from ⟨rfl, .tuple #[], by simp [results, Try.results29, go_sem], ?_⟩
        exact ⟨rfl, Fin.out⟩
end Go.Proofs.Ytgnfkgnokhjmcaa
/-
  ALL PARTIES OF SOME NUMBERS: the model's 'deAll', 'CountOfNumbers', 'IsOnly', by their contracts.
-/
namespace Go.Proofs.Ytgnfkgnokhjmcaa
open Go.RowKit

set_option maxHeartbeats 1000000 in
set_option maxRecDepth 100000 in
/-- a copy of no numbers -/
theorem l1Own_zero (A : Option Addr) (c : Nat) (w : World) (hz : A = none → c = 0) :
    Calls Try.prog 30 #[.slice A 0 c] w fun e w' => ∃ A' c', e = .returned (.slice A' 0 c') ∧ Below w.heap.size w w' := by
  obtain ⟨i0, hi, hz0, hz1, hz2⟩ := info_parts Try.infoInt
  have h1 : (w.alloc (.cells #[] 3)).ownsRow w.heap.size 3 1 (.slice (some ⟨w.heap.size, 0, none⟩) 0 0) 0 [] := World.ownsRow_made w #[] 0 (Nat.le_refl _) (Nat.zero_le _) rfl
  have kX : Below w.heap.size w (w.alloc (.cells #[] 3)) := by go_grown
  cases A with
  | none =>
    obtain rfl := hz rfl
    go_enter Try.func30, Try.ntmps30
    go_wp2_with (at_builtin; refine wpList_append_own_none rfl _ _ 22 rfl w.heap.size 3 i0 1 Try.underlying22 hi (.slice (some ⟨w.heap.size, 0, none⟩) 0 0) 0 [] rfl h1 rfl ?_)
    go_ret
    go_grown
  | some ad =>
    go_enter Try.func30, Try.ntmps30
    go_wp2_with (at_builtin; refine wpList_append_own _ rfl _ _ 22 rfl w.heap.size 3 i0 _ 1 8 Try.underlying22 hi hz0 hz1 hz2 rfl (by decide) (.slice (some ⟨w.heap.size, 0, none⟩) 0 0) 0 [] rfl h1 ad 0 c [] rfl rfl (fun j u hu => by simp at hu) (fun u hu => by cases hu) (by unfold maxLen; omega) (by omega) (by simp) ?_; intro v4 w4 own4 gr4 _; obtain ⟨A4, c4, rfl, _⟩ := own_shape own4)
    go_ret
    exact ⟨⟨_, _, rfl⟩, kX.grown gr4 (by simp) (by intro m hm; simp [Value.ownBlock] at hm; omega)⟩
set_option maxHeartbeats 8000000 in
set_option maxRecDepth 100000 in
/-- nobody: one party -/
theorem deLook_zero (pc pf B : Nat) (hcf : pc ≠ pf) (hcB : pc < B) (hfB : pf < B) (Al : Option Addr) (cl : Nat) (w : World) (hBw : B ≤ w.heap.size) (FA : Option Addr) (fc : Nat) (hP : CntAt w pc pf 0 [] B FA fc) :
    Calls Try.prog 29 #[.int .i64 0, .slice Al 0 cl, .int .i64 0, .int .i64 1, .slice none 0 0, .pointer (some ⟨pc, 0, none⟩), .pointer (some ⟨pf, 0, none⟩)] w fun e w' =>
      e = .returned (.tuple #[]) ∧ LookD pc pf 0 [] B [[]] w w' := by
  obtain ⟨i0, hi, hz0, hz1, hz2⟩ := info_parts Try.infoPair
  have lpc : pc < w.heap.size := by omega
  have lpf : pf < w.heap.size := by omega
  have HP := Lib.hid hP
  have cc := cell_in hP.cntc
  have fcz := frozen_of_row _ _ 0 _ _ hP.cntc
  have h1 : (w.alloc (.cells #[] 43)).ownsRow w.heap.size 43 2 (.slice (some ⟨w.heap.size, 0, none⟩) 0 0) 0 [] := World.ownsRow_made w #[] 0 (Nat.le_refl _) (Nat.zero_le _) rfl
  have kX : Below w.heap.size w (w.alloc (.cells #[] 43)) := by go_grown
  have P1 := (HP.out.below kX).firsts hcf hfB (l := []) (own_lower h1 hBw)
  have P2 := P1.counted hcf hcB
  have x1 := cell_in P1.cntc
  have x2 := frozen_of_row _ _ 0 _ _ P1.cntc
  have x3 := cell_in (HP.out.below kX).fstc
  have x4 := frozen_of_row _ _ 0 _ _ (HP.out.below kX).fstc
  have lpc2 : pc < (w.setCell ⟨pf, 0, none⟩ (.slice (some ⟨w.heap.size, 0, none⟩) 0 0)).heap.size := by simp; omega
  have ap := ((Apart.of_below (S := fun j => j = pc ∨ j = pf) kX).trans (Apart.setCell (S := fun j => j = pc ∨ j = pf) (p := ⟨pf, 0, none⟩) (.inr rfl) (.slice (some ⟨w.heap.size, 0, none⟩) 0 0)) (fun j hj => .inl hj)).trans (Apart.setCell (S := fun j => j = pc ∨ j = pf) (p := ⟨pc, 0, none⟩) (.inl rfl) (.int .i64 (((0 : Nat) : Int) + 1))) (fun j hj => .inl hj)
  have e1 := World.setCell_alloc_past (w := w) (.cells #[] 43) pf 0 (.slice (some ⟨w.heap.size, 0, none⟩) 0 0) lpf
  have e2 := World.setCell_alloc_past (w := w.setCell ⟨pf, 0, none⟩ (.slice (some ⟨w.heap.size, 0, none⟩) 0 0)) (.cells #[] 43) pc 0 (.int .i64 (((0 : Nat) : Int) + 1)) lpc2
  have e3 : ([] : PL).length = 0 := rfl
  rw [e3, e1, e2] at P2
  rw [e1, e2] at ap
  have HP2 := Lib.hid P2
  have Ap := Lib.hid ap
  clear P1 P2 ap e1 e2 e3 lpc2 hP
  go_enter Try.func29, Try.ntmps29
  go_wp2_with (at_builtin; refine wpList_append_own_none rfl _ _ 23 rfl w.heap.size 43 i0 2 Try.underlying23 hi _ _ _ rfl h1 rfl ?_)
  refine show _ = [] ∧ _ from ⟨rfl, .tuple #[], by simp [results, Try.results29, go_sem], ?_⟩
  exact ⟨rfl, Ap.out, _, _, HP2.out⟩
theorem fewN_of {q : List Int} (h7 : q.length ≤ 7) (h : isNums q = true) : FewN q := by
  intro j
  by_cases hj : j < q.length
  · obtain ⟨x, hx⟩ := getSome q j hj
    have := isNums_at h hx
    rw [getD_some hx]
    omega
  · rw [List.getD_eq_getElem?_getD, List.getElem?_eq_none (by omega)]
    simp
set_option maxHeartbeats 8000000 in
set_option maxRecDepth 100000 in
theorem deAll_any (q : List Int) (A : Option Addr) (c : Nat) (w : World) (h7 : q.length ≤ 7) (hn : isNums q = true) (hA : CRead w w.heap.size A (icells q)) (hz : A = none → c = 0) :
    Calls Try.prog 19 #[.slice A q.length c] w fun e w' => ∃ FA fc, e = .returned (.tuple #[.int .i64 ((partiesN q).length : Int), .slice FA (fstN [] 0 (partiesN q)).length fc]) ∧
      w'.ownsRow w.heap.size 43 2 (.slice FA (fstN [] 0 (partiesN q)).length fc) (fstN [] 0 (partiesN q)).length (pcells (fstN [] 0 (partiesN q))) ∧ Below w.heap.size w w' := by
  obtain ⟨X, hX⟩ : ∃ X, (w.alloc (Obj.cells #[Value.int IntKind.i64 0] 3)).alloc (Obj.cells #[Value.slice none 0 0] 23) = X := ⟨_, rfl⟩
  have kX : Below w.heap.size w X := by rw [← hX]; go_grown
  have sX : X.heap.size = w.heap.size + 2 := by rw [← hX]; simp
  have b1 : X.heap[w.heap.size]? = some (Obj.cells #[.int .i64 0] 3) := by
    rw [← hX]
    exact (Below.heap_alloc _ _ _ (by simp)).trans (World.alloc_heap_new w (Obj.cells #[.int .i64 0] 3))
  have b2 : X.heap[w.heap.size + 1]? = some (Obj.cells #[.slice none 0 0] 23) := by
    rw [← hX]
    have h := World.alloc_heap_new (w.alloc (Obj.cells #[Value.int IntKind.i64 0] 3)) (Obj.cells #[.slice none 0 0] 23)
    simpa only [World.size_alloc] using h
  have P0 : CntAt X w.heap.size (w.heap.size + 1) 0 [] (w.heap.size + 2) none 0 := ⟨b1, b2, World.ownsRow_nil _ _ _ _⟩
  have hAX : CRead X X.heap.size A (icells q) := (hA.below kX (Nat.le_refl _)).more kX.size
  have hlen := partiesN_len h7
  have hmain : ∃ (Q1 : Value → World → Prop), (Calls Try.prog 30 #[.slice A q.length c] X fun e w' => ∃ A' c', e = .returned (.slice A' q.length c') ∧ Q1 (.slice A' q.length c') w') ∧
      ∀ A' c' w', Q1 (.slice A' q.length c') w' → Below X.heap.size X w' ∧ Calls Try.prog 29 #[.int .i64 q.length, .slice A' q.length c', .int .i64 0, .int .i64 1, .slice none 0 0, .pointer (some ⟨w.heap.size, 0, none⟩), .pointer (some ⟨w.heap.size + 1, 0, none⟩)] w' fun e w2 => e = .returned (.tuple #[]) ∧ LookD w.heap.size (w.heap.size + 1) 0 [] (w.heap.size + 2) (partiesN q) w' w2 := by
    by_cases h0 : q = []
    · subst h0
      refine ⟨fun _ w' => Below X.heap.size X w', (l1Own_zero A c X hz).mono (fun e w' h => h), fun A' c' w' hb => ⟨hb, ?_⟩⟩
      exact deLook_zero w.heap.size (w.heap.size + 1) (w.heap.size + 2) (by omega) (by omega) (by omega) A' c' w' (by have := hb.size; omega) none 0 (P0.below hb)
    · have hpos : 0 < q.length := (by cases q with | nil => exact absurd rfl h0 | cons x q => simp)
      refine ⟨fun v w' => w'.ownsRow X.heap.size 3 1 v q.length (icells q) ∧ Below X.heap.size X w', (l1Own_any q A c X (by omega) hpos hAX).mono (fun e w' h => h), fun A' c' w' h => ⟨h.2, ?_⟩⟩
      obtain ⟨g, rfl⟩ := own_form h.1 hpos
      obtain ⟨k, hk⟩ : ∃ k, rowsN q.length = k + 1 := ⟨rowsN q.length - 1, by
        obtain ⟨m, hm⟩ : ∃ m, q.length = m + 1 := ⟨q.length - 1, by omega⟩
        rw [hm]; simp only [rowsN]; omega⟩
      have hk28 := rowsN_7 h7
      have h := deLook_any q.length h7 w.heap.size (w.heap.size + 1) (w.heap.size + 2) (by omega) (by omega) (by omega) k q 0 1 g c' [] none 0 0 [] none 0 w' (by rw [← hk]; exact StepN.first _) rfl (fewN_of h7 hn) (by simp; omega)
        (by rw [← hk]; have := Nat.pow_le_pow_right (show 0 < 2 by omega) hk28; have e60 : (2 : Nat) ^ 60 = 1152921504606846976 := by decide
            have e28 : (2 : Nat) ^ 28 = 268435456 := by decide
            omega) (by have := h.2.size; omega) (own_lower h.1 (by omega)) (P0.below h.2) (World.ownsRow_nil _ _ _ _)
      rw [← hk] at h
      exact h
  obtain ⟨Q1, hO, hL⟩ := hmain
  obtain ⟨R, hR⟩ : ∃ R, partiesN q = R := ⟨_, rfl⟩
  rw [hR] at hL ⊢
  have HO := Lib.hid hO
  have HL := Lib.hid hL
  have HX := Lib.hid hX
  have KX := Lib.hid kX
  clear hO hL hX kX P0 hA hAX hn hlen b1 b2 hR
  go_enter Try.func19, Try.ntmps19
  go_wp2_with fail
  rw [HX.out]
  refine HO.out.mono ?_
  rintro e w1 ⟨A1, c1, rfl, hq1⟩
  obtain ⟨hb1, hl1⟩ := HL.out A1 c1 w1 hq1
  have HL1 := Lib.hid hl1
  have HB1 := Lib.hid hb1
  clear hl1 hb1 hq1
  go_wp2_with fail
  refine HL1.out.mono ?_
  rintro e w2 ⟨rfl, ap, FA, fc, P⟩
  rw [Nat.zero_add] at P
  have q1 := cell_in P.cntc
  have q2 := cell_in P.fstc
  have own5 := own_lower P.row (base' := w.heap.size) (by omega)
  have s1 := HB1.out.size
  have kw : Below w.heap.size w w2 := by
    have k1 : Below w.heap.size w w1 := KX.out.trans (HB1.out.mono (by omega))
    exact ⟨ap.below.os.trans k1.os, ap.below.tape.trans k1.tape, ap.below.output.trans k1.output, Nat.le_trans k1.size ap.below.size, fun j hj => (ap.same j (by omega) (by omega)).trans (k1.block j hj)⟩
  have Own5 := Lib.hid own5
  have KW := Lib.hid kw
  clear P ap own5 kw HL HO HL1
  go_wp2_with fail
  go_quiet (fail)
  go_wp2_with fail
  go_ret2
  exact ⟨FA, fc, rfl, Own5.out, ⟨KW.out.os, KW.out.tape, KW.out.output, KW.out.size, KW.out.block⟩⟩
set_option maxHeartbeats 1000000 in
theorem deFew_any (q : List Int) (A : Option Addr) (c : Nat) (w : World) (hl : q.length ≤ 1048576) (hA : CRead w w.heap.size A (icells q)) :
    Calls Try.prog 18 #[.slice A q.length c] w fun e w' => e = .returned (.bool (fewI q)) ∧ w = w' := by
  have hg := deGood_any q A c w hl hA
  cases hn : isNums q with
  | false =>
    have e : fewI q = false := by unfold fewI; rw [hn, Bool.and_false]
    rw [e]
    rw [hn] at hg
    have Hg := Lib.hid hg
    clear hg hn e
    go_enter Try.func18, Try.ntmps18
    go_wp2_with fail
    refine Hg.out.mono ?_
    rintro e w' ⟨rfl, rfl⟩
    go_wp2
    go_ret
    first | exact ⟨rfl, rfl⟩ | exact ⟨by simp, rfl⟩
  | true =>
    have e : fewI q = decide ((q.length : Int) ≤ 7) := by unfold fewI; rw [hn, Bool.and_true]; exact decide_eq_decide.2 (by omega)
    rw [e]
    rw [hn] at hg
    have Hg := Lib.hid hg
    clear hg hn e
    go_enter Try.func18, Try.ntmps18
    go_wp2_with fail
    refine Hg.out.mono ?_
    rintro e w' ⟨rfl, rfl⟩
    go_wp2
    go_ret
    first | exact ⟨rfl, rfl⟩ | exact ⟨by simp, rfl⟩
theorem fewI_parts {q : List Int} (h : fewI q = true) : q.length ≤ 7 ∧ isNums q = true := by
  unfold fewI at h
  rw [Bool.and_eq_true, decide_eq_true_eq] at h
  exact h
set_option maxHeartbeats 1000000 in
theorem specCountOfNumbers_any (q : List Int) (A : Option Addr) (c : Nat) (w : World) (hl : q.length ≤ 1048576) (hA : CRead w w.heap.size A (icells q)) (hz : A = none → c = 0) :
    Calls Try.prog 14 #[.slice A q.length c] w fun e w' => e = .returned (.tuple #[.int .i64 (resCountOfNumbers q).1, .bool (resCountOfNumbers q).2]) ∧ Below w.heap.size w w' := by
  have hg := deFew_any q A c w hl hA
  unfold resCountOfNumbers
  cases hn : fewI q with
  | false =>
    rw [hn] at hg
    simp only [Bool.false_eq_true, if_false]
    have Hg := Lib.hid hg
    clear hg hn hz
    go_enter Try.func14, Try.ntmps14
    go_wp2_with fail
    refine Hg.out.mono ?_
    rintro e w' ⟨rfl, rfl⟩
    go_wp2
    go_ret2
    exact ⟨rfl, Below.refl _ _⟩
  | true =>
    have hd := deAll_any q A c w (fewI_parts hn).1 (fewI_parts hn).2 hA hz
    rw [hn] at hg
    simp only [if_true]
    obtain ⟨R, hR⟩ : ∃ R, partiesN q = R := ⟨_, rfl⟩
    rw [hR] at hd ⊢
    have Hg := Lib.hid hg
    have Hd := Lib.hid hd
    clear hg hn hz hd hR
    go_enter Try.func14, Try.ntmps14
    go_wp2_with fail
    refine Hg.out.mono ?_
    rintro e w' ⟨rfl, rfl⟩
    go_wp2_with fail
    refine Hd.out.mono ?_
    rintro e w2 ⟨FA, fc, rfl, _, hb2⟩
    go_wp2
    go_ret2
    exact ⟨rfl, hb2⟩
set_option maxHeartbeats 1000000 in
theorem specIsOnly_any (q : List Int) (A : Option Addr) (c : Nat) (w : World) (hl : q.length ≤ 1048576) (hA : CRead w w.heap.size A (icells q)) (hz : A = none → c = 0) :
    Calls Try.prog 16 #[.slice A q.length c] w fun e w' => e = .returned (.tuple #[.bool (resIsOnly q).1, .bool (resIsOnly q).2]) ∧ Below w.heap.size w w' := by
  have hg := deFew_any q A c w hl hA
  unfold resIsOnly
  cases hn : fewI q with
  | false =>
    rw [hn] at hg
    simp only [Bool.false_eq_true, if_false]
    have Hg := Lib.hid hg
    clear hg hn hz
    go_enter Try.func16, Try.ntmps16
    go_wp2_with fail
    refine Hg.out.mono ?_
    rintro e w' ⟨rfl, rfl⟩
    go_wp2
    go_ret2
    exact ⟨rfl, Below.refl _ _⟩
  | true =>
    have hd := deAll_any q A c w (fewI_parts hn).1 (fewI_parts hn).2 hA hz
    rw [hn] at hg
    simp only [if_true]
    obtain ⟨R, hR⟩ : ∃ R, partiesN q = R := ⟨_, rfl⟩
    rw [hR] at hd ⊢
    obtain ⟨b, hb⟩ : ∃ b, decide ((R.length : Int) = 1) = b := ⟨_, rfl⟩
    rw [hb]
    have heq : ((R.length : Int) == 1) = b := by rw [← hb]; rfl
    have Hg := Lib.hid hg
    have Hd := Lib.hid hd
    clear hg hn hz hd hR hb
    go_enter Try.func16, Try.ntmps16
    go_wp2_with fail
    refine Hg.out.mono ?_
    rintro e w' ⟨rfl, rfl⟩
    go_wp2_with fail
    refine Hd.out.mono ?_
    rintro e w2 ⟨FA, fc, rfl, _, hb2⟩
    go_wp2
    go_ret2
    exact ⟨rfl, hb2⟩
end Go.Proofs.Ytgnfkgnokhjmcaa
/-
  ALL PARTIES OF SOME NUMBERS: 'eachOfNumbers', 'CountOfNumbers', 'IsOnly' of the program, by their contracts.
-/
namespace Go.Proofs.Ytgnfkgnokhjmcaa
open Go.RowKit

set_option maxHeartbeats 2000000 in
set_option maxRecDepth 100000 in
theorem leftOf_zero (A : Option Addr) (c : Nat) (w : World) :
    Calls Try.prog 33 #[.slice A 0 c] w fun e w' => e = .returned (.agg #[.int .i64 0, .int .i64 0, .int .i64 0, .int .i64 0, .int .i64 0, .int .i64 0, .int .i64 0, .int .i64 0, .int .i64 0, .int .i64 0, .int .i64 0, .int .i64 0]) ∧ Below w.heap.size w w' := by
  obtain ⟨i0, hi, hz0, hz1, hz2⟩ := info_parts Try.infoInt
  have hrun : ∀ ty, (Builtin.copy_ #[22, 22] ty #[.slice (some ⟨w.heap.size + 1, 0, none⟩) 12 12, .slice A 0 c]).run Try.prog ((w.alloc (Obj.cells #[.int .i64 0, .int .i64 0, .int .i64 0, .int .i64 0, .int .i64 0, .int .i64 0, .int .i64 0, .int .i64 0, .int .i64 0, .int .i64 0, .int .i64 0, .int .i64 0] 52)).alloc (Obj.cells #[.int .i64 0, .int .i64 0, .int .i64 0, .int .i64 0, .int .i64 0, .int .i64 0, .int .i64 0, .int .i64 0, .int .i64 0, .int .i64 0, .int .i64 0, .int .i64 0] 52)) = .ok (goInt 0) ((w.alloc (Obj.cells #[.int .i64 0, .int .i64 0, .int .i64 0, .int .i64 0, .int .i64 0, .int .i64 0, .int .i64 0, .int .i64 0, .int .i64 0, .int .i64 0, .int .i64 0, .int .i64 0] 52)).alloc (Obj.cells #[.int .i64 0, .int .i64 0, .int .i64 0, .int .i64 0, .int .i64 0, .int .i64 0, .int .i64 0, .int .i64 0, .int .i64 0, .int .i64 0, .int .i64 0, .int .i64 0] 52)) := fun ty =>
    run_copy_none (P := Try.prog) _ 22 22 ty 3 _ _ _ _ _ _ Try.underlying22 (by rw [hi]; simp [hz1]) (by rfl)
  go_enter Try.func33, Try.ntmps33
  go_wp2
  refine bodyPost_ret (v := .agg #[.int .i64 0, .int .i64 0, .int .i64 0, .int .i64 0, .int .i64 0, .int .i64 0, .int .i64 0, .int .i64 0, .int .i64 0, .int .i64 0, .int .i64 0, .int .i64 0]) (by simp [results, Try.results33, go_sem]) rfl ?_
  exact ⟨rfl, by go_grown⟩
set_option maxHeartbeats 1000000 in
theorem isCounted_any (q : List Int) (A : Option Addr) (c : Nat) (w : World) (hl : q.length ≤ 1048576) (hA : CRead w w.heap.size A (icells q)) :
    Calls Try.prog 20 #[.slice A q.length c] w fun e w' => e = .returned (.bool (fewI q)) ∧ w = w' := by
  have hg := isNumbers_any q A c w hl hA
  have Hg := Lib.hid hg
  clear hg
  by_cases h7 : (q.length : Int) ≤ 7
  · have e : fewI q = isNums q := by unfold fewI; rw [decide_eq_true (by omega), Bool.true_and]
    rw [e]
    go_enter Try.func20, Try.ntmps20
    go_wp2_with fail
    refine Hg.out.mono ?_
    rintro e w' ⟨rfl, rfl⟩
    go_wp2
    go_ret
    first | exact ⟨rfl, rfl⟩ | exact ⟨by simp, rfl⟩
  · have e : fewI q = false := by unfold fewI; rw [decide_eq_false (by omega), Bool.false_and]
    rw [e]
    go_enter Try.func20, Try.ntmps20
    go_wp2
    go_ret
    first | exact ⟨rfl, rfl⟩ | exact ⟨by simp, rfl⟩
set_option maxHeartbeats 4000000 in
set_option maxRecDepth 100000 in
theorem eachOfNumbers_any (q : List Int) (A : Option Addr) (c : Nat) (o : Nat) (w : World) (h7 : q.length ≤ 7) (hn : isNums q = true) (hA : CRead w w.heap.size A (icells q)) (ho : o < w.heap.size) (hJ : KeptC o (fun _ => False) [] w) :
    Calls Try.prog 21 #[.slice A q.length c, cntV o] w fun e w' => e = .returned (.bool true) ∧ LookYesP (KeptC o) (fun j => j < o) (fun _ => False) none 0 [] (partiesN q) w w' := by
  have hlo : Calls Try.prog 33 #[.slice A q.length c] w fun e w' => e = .returned (.agg #[.int .i64 (leftF q 0), .int .i64 (leftF q 1), .int .i64 (leftF q 2), .int .i64 (leftF q 3), .int .i64 (leftF q 4), .int .i64 (leftF q 5), .int .i64 (leftF q 6), .int .i64 (leftF q 7), .int .i64 (leftF q 8), .int .i64 (leftF q 9), .int .i64 (leftF q 10), .int .i64 (leftF q 11)]) ∧ Below w.heap.size w w' := by
    by_cases h0 : q = []
    · subst h0
      exact leftOf_zero A c w
    · exact leftOf_any q A c w (by omega) (by cases q with | nil => exact absurd rfl h0 | cons x q => simp) hA
  have hr28 := rowsN_7 h7
  have hp60 : (2 : Nat) ^ rowsN q.length ≤ 2 ^ 60 := Nat.pow_le_pow_right (by omega) (by omega)
  have hmain : ∀ Y, Below w.heap.size w Y → Calls Try.prog 32 #[.agg #[.int .i64 0, .int .i64 1], .int .i64 q.length, .agg #[.int .i64 (leftF q 0), .int .i64 (leftF q 1), .int .i64 (leftF q 2), .int .i64 (leftF q 3), .int .i64 (leftF q 4), .int .i64 (leftF q 5), .int .i64 (leftF q 6), .int .i64 (leftF q 7), .int .i64 (leftF q 8), .int .i64 (leftF q 9), .int .i64 (leftF q 10), .int .i64 (leftF q 11)], .slice none 0 0, cntV o] Y fun e w' => e = .returned (.bool true) ∧ LookYesP (KeptC o) (fun j => j < o) (fun _ => False) none 0 [] (partiesN q) w w' := fun Y hY => by
    have h := eachFrom_any q.length h7 o (rowsN q.length) q 0 1 [] none 0 (fun _ => False) [] Y (StepN.first _) rfl (fewN_of h7 hn) (by simp; omega) (by simpa using hp60) (keptC_held o _ _ _ _ _ hJ (Apart.of_below hY) (fun j hj => .inl hj)) (World.ownsRow_nil _ _ _ _) (fun k h => by cases h) (by have := hY.size; omega)
    exact h.mono fun e w' h => ⟨h.1, LookYesP.before hY (fun j hj => Nat.lt_trans hj ho) h.2⟩
  have HL := Lib.hid hlo
  have HM := Lib.hid hmain
  clear hlo hmain hJ hA hn hp60
  go_enter Try.func21, Try.ntmps21
  go_wp2_with fail
  refine HL.out.mono ?_
  rintro e w1 ⟨rfl, hb1⟩
  go_wp2_with fail
  refine (HM.out w1 hb1).mono ?_
  rintro e w2 ⟨rfl, h2⟩
  go_wp2
  go_ret
  exact ⟨rfl, h2⟩
set_option maxHeartbeats 4000000 in
set_option maxRecDepth 100000 in
theorem implCountOfNumbers_any (q : List Int) (A : Option Addr) (c : Nat) (w : World) (hl : q.length ≤ 1048576) (hA : CRead w w.heap.size A (icells q)) :
    Calls Try.prog 15 #[.slice A q.length c] w fun e w' => e = .returned (.tuple #[.int .i64 (resCountOfNumbers q).1, .bool (resCountOfNumbers q).2]) ∧ Below w.heap.size w w' := by
  have hg := isCounted_any q A c w hl hA
  unfold resCountOfNumbers
  cases hn : fewI q with
  | false =>
    rw [hn] at hg
    simp only [Bool.false_eq_true, if_false]
    have Hg := Lib.hid hg
    clear hg hn
    go_enter Try.func15, Try.ntmps15
    go_wp2_with fail
    refine Hg.out.mono ?_
    rintro e w' ⟨rfl, rfl⟩
    go_wp2
    go_ret2
    exact ⟨rfl, Below.refl _ _⟩
  | true =>
    rw [hn] at hg
    simp only [if_true]
    obtain ⟨X, hX⟩ : ∃ X, w.alloc (Obj.cells #[.int .i64 0] 3) = X := ⟨_, rfl⟩
    have kX : Below w.heap.size w X := by rw [← hX]; go_grown
    have sX : X.heap.size = w.heap.size + 1 := by rw [← hX]; simp
    have JX : KeptC w.heap.size (fun _ => False) [] X := ⟨fun _ h => h.elim, by rw [← hX]; exact World.alloc_heap_new w _⟩
    have he := eachOfNumbers_any q A c w.heap.size X (fewI_parts hn).1 (fewI_parts hn).2 ((hA.below kX (Nat.le_refl _)).more kX.size) (by omega) JX
    obtain ⟨R, hR⟩ : ∃ R, partiesN q = R := ⟨_, rfl⟩
    rw [hR] at he ⊢
    have Hg := Lib.hid hg
    have He := Lib.hid he
    have HX := Lib.hid hX
    have KX := Lib.hid kX
    clear hg he hX kX hn hR JX hA
    go_enter Try.func15, Try.ntmps15
    go_wp2_with fail
    refine Hg.out.mono ?_
    rintro e w' ⟨rfl, rfl⟩
    go_wp2_with fail
    rw [HX.out]
    refine He.out.mono ?_
    rintro e w2 ⟨rfl, h2⟩
    obtain ⟨S', hJ, _, _⟩ := h2.ex
    have cc := cell_in hJ.2
    have kw : Below w.heap.size w w2 := ⟨h2.below.os.trans KX.out.os, h2.below.tape.trans KX.out.tape, h2.below.output.trans KX.out.output, Nat.le_trans KX.out.size h2.below.size, fun j hj => (h2.ro j hj).trans (KX.out.block j hj)⟩
    have KW := Lib.hid kw
    clear h2 hJ He kw
    go_wp2
    go_ret2
    exact ⟨rfl, KW.out⟩
set_option maxHeartbeats 1000000 in
theorem implIsOnly_any (q : List Int) (A : Option Addr) (c : Nat) (w : World) (hl : q.length ≤ 1048576) (hA : CRead w w.heap.size A (icells q)) :
    Calls Try.prog 17 #[.slice A q.length c] w fun e w' => e = .returned (.tuple #[.bool (resIsOnly q).1, .bool (resIsOnly q).2]) ∧ Below w.heap.size w w' := by
  have hg := implCountOfNumbers_any q A c w hl hA
  have e1 : (((resCountOfNumbers q).1 : Int) == 1) = (resIsOnly q).1 := by
    unfold resCountOfNumbers resIsOnly
    split <;> rfl
  have e2 : (resCountOfNumbers q).2 = (resIsOnly q).2 := by
    unfold resCountOfNumbers resIsOnly
    split <;> rfl
  obtain ⟨x, hx⟩ : ∃ x, (resCountOfNumbers q).1 = x := ⟨_, rfl⟩
  obtain ⟨b, hb⟩ : ∃ b, (resIsOnly q).1 = b := ⟨_, rfl⟩
  obtain ⟨d, hd⟩ : ∃ d, (resIsOnly q).2 = d := ⟨_, rfl⟩
  rw [e2, hx, hd] at hg
  rw [hx, hb] at e1
  rw [hb, hd]
  have Hg := Lib.hid hg
  clear hg hx hb hd e2
  go_enter Try.func17, Try.ntmps17
  go_wp2_with fail
  refine Hg.out.mono ?_
  rintro e w' ⟨rfl, hb2⟩
  go_wp2
  go_ret2
  exact ⟨rfl, hb2⟩
end Go.Proofs.Ytgnfkgnokhjmcaa
/-
  THE LAWS' COPY OF A LIST OF NUMBERS, by its contract.
-/
namespace Go.Proofs.Ytgnfkgnokhjmcaa
open Go.RowKit

set_option maxHeartbeats 1000000 in
set_option maxRecDepth 100000 in
theorem toIntS_any (l : List Int) (A : Option Addr) (c : Nat) (w : World) (hl : l.length ≤ 1048576) (hA : CRead w w.heap.size A (icells l)) :
    Calls Try.prog 7 #[.slice A l.length c] w fun e w' =>
      e = .returned (.slice (some ⟨w.heap.size, 0, none⟩) l.length l.length) ∧ w'.ownsRow w.heap.size 3 1 (.slice (some ⟨w.heap.size, 0, none⟩) l.length l.length) l.length (icells l) ∧ Below w.heap.size w w' := by
  obtain ⟨i0, hi, hz0, hz1, hz2⟩ := info_parts Try.infoInt
  generalize hn : l.length = n at *
  have Hn := Lib.hid hn
  clear hn
  generalize hg : w.heap.size = g at *
  have Hg := Lib.hid hg
  clear hg
  go_enter Try.func7, Try.ntmps7
  go_wp2_with (at_make; refine wpList_make_full _ rfl _ _ 22 rfl g 3 i0 _ 1 Try.underlying22 hi hz0 hz1 _ _ _ _ n rfl rfl (by omega) (by omega) (by rw [hz2]; omega) (by unfold maxLen; omega) (by rw [Hg.out]; exact Nat.le_refl _) ?_; rw [Hg.out]; intro w1 hown1 hgr1)
  have hs1 : g < w1.heap.size := (own_lt hown1).2
  have hb1 : Below g w w1 := (Below.refl _ _).grown hgr1 (by rw [Hg.out]; exact Nat.le_refl _) (by simp)
  rw [show Value.cells (.int .i64 0) = #[.int .i64 0] from rfl, made_ints] at hown1
  go_loopw [4] (fun i wr => ∃ k : Nat, k ≤ n ∧ i = .int .i64 k ∧ wr.ownsRow g 3 1 (.slice (some ⟨g, 0, none⟩) n n) n (icells (l.take k ++ List.replicate (n - k) 0)) ∧ Below g w wr) (fun i _ => n - (intOf i).toNat)
  case atStart => exact ⟨0, Nat.zero_le _, rfl, by simpa using hown1, hb1⟩
  case round =>
    obtain ⟨k, hk, rfl, hown, hb⟩ := hrel
    have hs := own_lt hown
    by_cases hlt : k < n
    · obtain ⟨x, hx⟩ := getSome l k (by rw [Hn.out]; exact hlt)
      obtain ⟨b, off, rfl, hbb, c0⟩ := (hA.below hb (Nat.le_refl _)).int hx
      have hlt' : (k : Int) < n := by omega
      have f0 := hown.frozenAt k
      have hz : (l.take k ++ List.replicate (n - k) 0)[k]? = some 0 := by
        rw [List.getElem?_append_right (by simp; omega)]
        have h1 : min k l.length = k := Nat.min_eq_left (by rw [Hn.out]; exact hk)
        simp only [List.length_take, h1, Nat.sub_self]
        rw [List.getElem?_replicate, if_pos (by omega)]
      have d0 := own_intAt hown hz
      clear hz
      have Hx := Lib.hid hx
      clear hx
      go_wp2
      go_roundw
      case rel =>
        refine ⟨k + 1, by omega, by go_num, ?_, hb.setCell (p := ⟨g, k, none⟩) (Nat.le_refl _) _⟩
        have h2 := own_setInt hown k x
        rwa [take_set_replicate l 0 n k x Hn.out Hx.out] at h2
      case measure => simp [intOf]; omega
    · have hkl : k = n := by omega
      subst hkl
      have hge : ¬ ((k : Int) < k) := by omega
      go_wp2
      go_ret
      refine ⟨rfl, ?_, hb⟩
      rwa [Nat.sub_self, List.replicate_zero, List.append_nil, List.take_of_length_le (by rw [Hn.out]; exact Nat.le_refl _)] at hown
theorem toIntS_got (l : List Int) (A : Option Addr) (c : Nat) (w : World) (hl : l.length ≤ 1048576) (hA : CRead w w.heap.size A (icells l)) :
    Calls Try.prog 7 #[.slice A l.length c] w fun e w' => ∃ A' c', e = .returned (.slice A' l.length c') ∧ w'.ownsRow w.heap.size 3 1 (.slice A' l.length c') l.length (icells l) ∧ Below w.heap.size w w' :=
  (toIntS_any l A c w hl hA).mono fun _ _ h => ⟨_, _, h⟩
end Go.Proofs.Ytgnfkgnokhjmcaa
/-
  LISTS OF PEOPLE WHO ARE TIED, TWO AND TWO, as plain lists; sets of people as numbers of sixteen bits. Nothing here speaks of the program.
-/
namespace Go.Proofs.Ytgnfkgnokhjmcaa
open Go.RowKit

/-- the lists of so many more of the candidates behind those told, in order; every candidate is tied to all told -/
def listsC (t : Nat → Nat → Bool) : Nat → List Int → List Nat → List (List Int)
  | 0, told, _ => [told]
  | _ + 1, _, [] => []
  | k + 1, told, a :: cs => listsC t k (told ++ [(a : Int)]) (cs.filter (t a)) ++ listsC t (k + 1) told cs
termination_by k _ cs => (k, cs.length)
theorem listsC_zero (t : Nat → Nat → Bool) (told : List Int) (cs : List Nat) : listsC t 0 told cs = [told] := by cases cs <;> simp [listsC]
theorem listsC_nil (t : Nat → Nat → Bool) (k : Nat) (told : List Int) : listsC t (k + 1) told [] = [] := by simp [listsC]
theorem listsC_cons (t : Nat → Nat → Bool) (k : Nat) (told : List Int) (a : Nat) (cs : List Nat) :
    listsC t (k + 1) told (a :: cs) = listsC t k (told ++ [(a : Int)]) (cs.filter (t a)) ++ listsC t (k + 1) told cs := by rw [listsC]

/-- a number's bits are those of a rising list -/
structure IsSet (J : Nat) (cs : List Nat) : Prop where
  up : cs.Pairwise (· < ·)
  lt : ∀ b ∈ cs, b < 16
  mem : ∀ b, J.testBit b = true ↔ b ∈ cs
theorem IsSet.small {J : Nat} {cs : List Nat} (h : IsSet J cs) : J < 65536 := by
  refine Nat.lt_pow_two_of_testBit (n := 16) J fun i hi => ?_
  cases e : J.testBit i with
  | false => rfl
  | true => have := h.lt i ((h.mem i).1 e); omega
theorem IsSet.zero {J : Nat} (h : IsSet J []) : J = 0 := by
  refine Nat.eq_of_testBit_eq fun i => ?_
  rw [Nat.zero_testBit]
  cases e : J.testBit i with
  | false => rfl
  | true => have := (h.mem i).1 e; simp at this
theorem IsSet.pos {J a : Nat} {cs : List Nat} (h : IsSet J (a :: cs)) : J ≠ 0 := by
  intro e
  have := (h.mem a).2 List.mem_cons_self
  rw [e, Nat.zero_testBit] at this
  cases this
theorem IsSet.least {J a : Nat} {cs : List Nat} (h : IsSet J (a :: cs)) : Lib.ctz 16 J = a := by
  have hp := h.pos
  have hs := h.small
  obtain ⟨m, hm, hk⟩ := Lib.ctzFrom_spec 16 J (by omega) hs
  have e : Lib.ctz 16 J = Lib.ctzFrom 16 J := by simp [Lib.ctz, hp]
  rw [e]
  generalize Lib.ctzFrom 16 J = c at *
  have hb : ∀ b, J.testBit b = (decide (c ≤ b) && (2 * m + 1).testBit (b - c)) := fun b => by rw [hm, Nat.testBit_two_pow_mul]
  have h1 : J.testBit c = true := by rw [hb]; simp
  have h2 := (h.mem c).1 h1
  have h3 := (h.mem a).2 List.mem_cons_self
  rw [hb] at h3
  have h4 : c ≤ a := by simp only [Bool.and_eq_true, decide_eq_true_eq] at h3; exact h3.1
  rcases List.mem_cons.1 h2 with h5 | h5
  · exact h5
  · have := (List.pairwise_cons.1 h.up).1 c h5
    omega
theorem bit_off : ∀ a : Fin 16, ∀ b : Fin 16, (65535 - 2 ^ a.val).testBit b.val = decide (b.val ≠ a.val) := by decide
theorem IsSet.tail {J a : Nat} {cs : List Nat} (h : IsSet J (a :: cs)) : IsSet (J &&& (65535 - 2 ^ a)) cs := by
  have ha := h.lt a List.mem_cons_self
  have hp := List.pairwise_cons.1 h.up
  refine ⟨hp.2, fun b hb => h.lt b (List.mem_cons_of_mem _ hb), fun b => ?_⟩
  rw [Nat.testBit_and, Bool.and_eq_true, h.mem, List.mem_cons]
  constructor
  · rintro ⟨h1, h2⟩
    rcases h1 with rfl | h1
    · have := bit_off ⟨b, ha⟩ ⟨b, ha⟩
      simp only [ne_eq, not_true_eq_false, decide_false] at this
      rw [this] at h2
      cases h2
    · exact h1
  · intro hb
    have hb16 := h.lt b (List.mem_cons_of_mem _ hb)
    have := hp.1 b hb
    refine ⟨.inr hb, ?_⟩
    rw [bit_off ⟨a, ha⟩ ⟨b, hb16⟩]
    simp only [ne_eq, decide_eq_true_eq]
    omega
theorem IsSet.inter {J T : Nat} {cs : List Nat} {f : Nat → Bool} (h : IsSet J cs) (hT : ∀ b, b < 16 → T.testBit b = f b) : IsSet (J &&& T) (cs.filter f) := by
  refine ⟨h.up.filter _, fun b hb => h.lt b (List.mem_filter.1 hb).1, fun b => ?_⟩
  rw [Nat.testBit_and, Bool.and_eq_true, h.mem, List.mem_filter]
  constructor
  · rintro ⟨h1, h2⟩
    rw [hT b (h.lt b h1)] at h2
    exact ⟨h1, h2⟩
  · rintro ⟨h1, h2⟩
    exact ⟨h1, by rw [hT b (h.lt b h1)]; exact h2⟩
theorem IsSet.people {n : Nat} (hn : n ≤ 16) : IsSet (2 ^ n - 1) (List.range n) := by
  refine ⟨List.pairwise_lt_range, fun b hb => by have := List.mem_range.1 hb; omega, fun b => ?_⟩
  rw [Nat.testBit_two_pow_sub_one, decide_eq_true_eq, List.mem_range]
end Go.Proofs.Ytgnfkgnokhjmcaa
/-
  THE MODEL's TABLE OF A PARTY, AND THE PARTY OF A TABLE, by their contracts.
-/
namespace Go.Proofs.Ytgnfkgnokhjmcaa
open Go.RowKit

end Go.Proofs.Ytgnfkgnokhjmcaa
/-
  LISTS OF NUMBERS UNDER ONE SLICE, each row in a block of the call's own; 'spec.l1Own' of any list; 'spec.trGroups' as a plain list.
-/
namespace Go.Proofs.Ytgnfkgnokhjmcaa
open Go.RowKit

structure LRows (w : World) (B : Nat) (v : Value) (LL : List (List Int)) (hs : List Value) : Prop where
  own : w.ownsRow B 22 1 v LL.length hs
  row : ∀ (i : Nat) (l : List Int), LL[i]? = some l → ∃ A c, hs[i]? = some (Value.slice A l.length c) ∧ w.ownsRow B 3 1 (Value.slice A l.length c) l.length (icells l)
  nil : LL = [] → v = Value.slice none 0 0
section
variable {w w' : World} {B B' : Nat} {v v' v2 : Value} {LL L2 : List (List Int)} {hs hs2 : List Value}
theorem LRows.none (w : World) (B : Nat) : LRows w B (Value.slice Option.none 0 0) [] [] := ⟨World.ownsRow_nil _ _ _ _, fun i l h => by simp at h, fun _ => rfl⟩
theorem LRows.below (h : LRows w B v LL hs) (hb : Below w.heap.size w w') : LRows w' B v LL hs :=
  ⟨own_below h.own hb (Nat.le_refl _), fun i l hi => by obtain ⟨A, c, e, o⟩ := h.row i l hi; exact ⟨A, c, e, own_below o hb (Nat.le_refl _)⟩, h.nil⟩
theorem LRows.lower (h : LRows w B v LL hs) (hB : B' ≤ B) : LRows w B' v LL hs :=
  ⟨own_lower h.own hB, fun i l hi => by obtain ⟨A, c, e, o⟩ := h.row i l hi; exact ⟨A, c, e, own_lower o hB⟩, h.nil⟩
theorem LRows.length (h : LRows w B v LL hs) : hs.length = LL.length := by have := h.own.1; omega
theorem LRows.one (h : LRows w B v LL hs) : ∀ u ∈ hs, u.oneCell' = true := by
  intro u hu
  obtain ⟨i, hi, rfl⟩ := List.getElem_of_mem hu
  have hl := h.length
  obtain ⟨A, c, e, _⟩ := h.row i LL[i] (List.getElem?_eq_getElem (by omega))
  rw [List.getElem?_eq_getElem hi] at e
  simp only [Option.some.injEq] at e
  rw [e]
  rfl
theorem blocks_apart {e e' : TypeId} {size size' n m : Nat} {xs ys : List Value} (h : w.ownsRow B e size v n xs) (h' : w.ownsRow B' e' size' v' m ys) (hne : e ≠ e') : v'.ownBlock = .none ∨ v'.ownBlock ≠ v.ownBlock := by
  rcases h'.2 with ⟨rfl, _⟩ | ⟨g, cap, cur, rfl, _, hg, _⟩
  · exact .inl rfl
  · refine .inr fun e => ?_
    rcases h.2 with ⟨rfl, _⟩ | ⟨g2, cap2, cur2, rfl, _, hg2, _⟩
    · simp [Value.ownBlock] at e
    · have : g = g2 := by simpa [Value.ownBlock] using e
      subst this
      rw [hg] at hg2
      simp only [Option.some.injEq, Obj.cells.injEq] at hg2
      exact hne hg2.2.1.symm
/-- rows appended to rows -/
theorem LRows.append (h : LRows w B v LL hs) (h2 : LRows w B v2 L2 hs2) (hown : w'.ownsRow B 22 1 v' (LL.length + L2.length) (hs ++ hs2)) (hg : w.grownBy w' v.ownBlock) (hn : L2 ≠ []) : LRows w' B v' (LL ++ L2) (hs ++ hs2) := by
  have keep : ∀ A c l, w.ownsRow B 3 1 (.slice A l.length c) l.length (icells l) → w'.ownsRow B 3 1 (.slice A l.length c) l.length (icells l) := fun A c l o => o.kept hg (blocks_apart h.own o (show (22 : TypeId) ≠ 3 by decide))
  refine ⟨by rw [List.length_append]; exact hown, fun i l hi => ?_, fun e => ?_⟩
  · have hl := h.length
    by_cases hlt : i < LL.length
    · rw [List.getElem?_append_left hlt] at hi
      obtain ⟨A, c, e, o⟩ := h.row i l hi
      exact ⟨A, c, by rw [List.getElem?_append_left (by omega)]; exact e, keep A c l o⟩
    · rw [List.getElem?_append_right (by omega)] at hi
      obtain ⟨A, c, e, o⟩ := h2.row _ l hi
      exact ⟨A, c, by rw [List.getElem?_append_right (by omega), hl]; exact e, keep A c l o⟩
  · simp at e
    exact absurd e.2 hn
end
/-- A call came back with lists of numbers. -/
def GotLL (w : World) (LL : List (List Int)) (e : Ending) (w' : World) : Prop := ∃ A c hs, e = .returned (.slice A LL.length c) ∧ LRows w' w.heap.size (.slice A LL.length c) LL hs ∧ Below w.heap.size w w'

set_option maxHeartbeats 1000000 in
set_option maxRecDepth 100000 in
theorem l1Own_all (q : List Int) (A : Option Addr) (c : Nat) (w : World) (hq : q.length ≤ 1048576) (hA : CRead w w.heap.size A (icells q)) (h0 : q = [] → A = none ∧ c = 0) :
    Calls Try.prog 30 #[.slice A q.length c] w fun e w' => ∃ A' c', e = .returned (.slice A' q.length c') ∧ w'.ownsRow w.heap.size 3 1 (.slice A' q.length c') q.length (icells q) ∧ Below w.heap.size w w' := by
  by_cases hz : q = []
  · obtain ⟨rfl, rfl⟩ := h0 hz
    subst hz
    obtain ⟨i0, hi, hz0, hz1, hz2⟩ := info_parts Try.infoInt
    have h1 : (w.alloc (.cells #[] 3)).ownsRow w.heap.size 3 1 (.slice (some ⟨w.heap.size, 0, none⟩) 0 0) 0 [] := World.ownsRow_made w #[] 0 (Nat.le_refl _) (Nat.zero_le _) rfl
    go_enter Try.func30, Try.ntmps30
    go_wp2_with (at_builtin; refine wpList_append_own_none rfl _ _ 22 rfl w.heap.size 3 i0 1 Try.underlying22 hi (.slice (some ⟨w.heap.size, 0, none⟩) 0 0) 0 [] rfl h1 rfl ?_)
    go_ret
    exact ⟨_, _, rfl, h1, by go_grown⟩
  · have hpos : 0 < q.length := by cases q with | nil => exact absurd rfl hz | cons x q => simp
    exact l1Own_any q A c w hq hpos hA

/-! ## The model's candidates -/
def fromQ (q : List Int) : Nat := match q.getLast? with | none => 0 | some x => x.toNat + 1
def candR (t : Nat → Nat → Bool) (n : Nat) (q : List Int) (a : Nat) : List Nat := (List.range' a (n - a)).filter fun b => q.all fun y => t b y.toNat
theorem candR_end (t : Nat → Nat → Bool) (n : Nat) (q : List Int) {a : Nat} (h : n ≤ a) : candR t n q a = [] := by unfold candR; rw [Nat.sub_eq_zero_of_le h]; rfl
theorem candR_no {t : Nat → Nat → Bool} {n : Nat} {q : List Int} {a : Nat} (h : a < n) (hk : (q.all fun y => t a y.toNat) = false) : candR t n q a = candR t n q (a + 1) := by
  unfold candR
  rw [show n - a = (n - (a + 1)) + 1 from by omega, List.range'_succ, List.filter_cons_of_neg (by simp [hk])]
theorem candR_yes {t : Nat → Nat → Bool} {n : Nat} {q : List Int} {a : Nat} (h : a < n) (hk : (q.all fun y => t a y.toNat) = true) : candR t n q a = a :: candR t n q (a + 1) := by
  unfold candR
  rw [show n - a = (n - (a + 1)) + 1 from by omega, List.range'_succ, List.filter_cons_of_pos (by simpa using hk)]
theorem candR_tied {t : Nat → Nat → Bool} (hs : ∀ i j, t i j = t j i) (n : Nat) (q : List Int) (a : Nat) : (candR t n q (a + 1)).filter (t a) = candR t n (q ++ [(a : Int)]) (fromQ (q ++ [(a : Int)])) := by
  unfold candR fromQ
  simp only [List.getLast?_append, List.getLast?_singleton, Option.some_or, Int.toNat_natCast]
  rw [List.filter_filter]
  refine List.filter_congr fun b _ => ?_
  rw [List.all_append]
  simp [hs a b, Bool.and_comm]
end Go.Proofs.Ytgnfkgnokhjmcaa
/-
  A COPY OF A LIST of any length, and what an own row's slice looks like.
-/
namespace Go.Proofs.Ytgnfkgnokhjmcaa
open Go.RowKit

theorem own_none {w : World} {B : Nat} {e : TypeId} {m c : Nat} {A : Option Addr} {xs : List Value} (h : w.ownsRow B e 1 (.slice A m c) m xs) : (A = none ∧ m = 0 ∧ c = 0) ∨ ∃ g, A = some ⟨g, 0, none⟩ := by
  rcases h.2 with ⟨h1, h2⟩ | ⟨g, cap, cur, hv, _⟩
  · simp only [Value.slice.injEq] at h1
    exact .inl ⟨h1.1, h2, h1.2.2⟩
  · simp only [Value.slice.injEq] at hv
    exact .inr ⟨g, hv.1⟩

theorem own_zero {w : World} {B : Nat} {e : TypeId} {m c : Nat} {A : Option Addr} {xs : List Value} (h : w.ownsRow B e 1 (.slice A m c) m xs) : A = none → c = 0 := by
  intro hA
  rcases own_none h with ⟨_, _, h3⟩ | ⟨g, h1⟩
  · exact h3
  · rw [hA] at h1; cases h1
set_option maxHeartbeats 4000000 in
set_option maxRecDepth 100000 in
theorem l1Own_row (q : List Int) (A : Option Addr) (c : Nat) (w : World) (hq : q.length ≤ 1048576) (hA : CRead w w.heap.size A (icells q)) (h0 : A = none → c = 0) :
    Calls Try.prog 30 #[.slice A q.length c] w fun e w' => ∃ A' c', e = .returned (.slice A' q.length c') ∧ w'.ownsRow w.heap.size 3 1 (.slice A' q.length c') q.length (icells q) ∧ Below w.heap.size w w' := by
  by_cases hz : q = []
  · cases A with
    | none => exact l1Own_all q none c w hq hA fun _ => ⟨rfl, h0 rfl⟩
    | some ad =>
      subst hz
      obtain ⟨i0, hi, hz0, hz1, hz2⟩ := info_parts Try.infoInt
      have h1 : (w.alloc (.cells #[] 3)).ownsRow w.heap.size 3 1 (.slice (some ⟨w.heap.size, 0, none⟩) 0 0) 0 [] := World.ownsRow_made w #[] 0 (Nat.le_refl _) (Nat.zero_le _) rfl
      go_enter Try.func30, Try.ntmps30
      go_wp2_with (at_builtin; refine wpList_append_own _ rfl _ _ 22 rfl w.heap.size 3 i0 _ 1 8 Try.underlying22 hi hz0 hz1 hz2 rfl (by decide) (.slice (some ⟨w.heap.size, 0, none⟩) 0 0) 0 [] rfl h1 ad 0 c [] rfl rfl (fun j u hj => by simp at hj) (by simp) (by unfold maxLen; omega) (by omega) (by simp) ?_; intro v1 w1 own1 gr1 _; have k1 : Below w.heap.size w w1 := ((Below.refl _ w).alloc (Nat.le_refl _) _).grown gr1 (by simp) (by intro m hm; simp [Value.ownBlock] at hm; omega); obtain ⟨A1, c1, rfl, _⟩ := own_shape own1)
      go_ret
      exact ⟨A1, c1, rfl, own1, k1⟩
  · exact l1Own_all q A c w hq hA fun e => absurd e hz
end Go.Proofs.Ytgnfkgnokhjmcaa
/-
  THE PROGRAM's HEAD, LOOKED AT ONCE: which make it is, and that a call may enter it. (The head's text is long: the kernel must not read it twice.)
-/
namespace Go.Proofs.Ytgnfkgnokhjmcaa

theorem make_of {P : Program} {rest : List (List Char)} (h : behindMainWord (wordsSigns P.initOrder.toList) = "cut".toList :: rest) : P.make = some .cut := by
  unfold Program.make
  rw [h]
  rfl
theorem strip_cut (rest : List (List Char)) : stripLifts liftWords ("cut".toList :: rest) = ([], "cut".toList :: rest) := rfl
theorem lifts_of {P : Program} {rest : List (List Char)} (h : behindMainWord (wordsSigns P.initOrder.toList) = "cut".toList :: rest) : P.headLifts = [] := by
  unfold Program.headLifts
  rw [h, strip_cut]
  rfl
theorem final_of {P : Program} {rest : List (List Char)} (h : behindMainWord (wordsSigns P.initOrder.toList) = "cut".toList :: rest) : P.liftsFinal = false := by
  unfold Program.liftsFinal
  rw [lifts_of h, h]
  rfl
theorem enter_of {P : Program} {rest : List (List Char)} (h : behindMainWord (wordsSigns P.initOrder.toList) = "cut".toList :: rest) (h1 : P.laysLater = false) (h2 : P.bearsReflect = false) (h3 : P.doorFits [] = true) : P.mayEnter = true := by
  unfold Program.mayEnter
  rw [h]
  show (_ || _ || _) = true
  rw [strip_cut, h1, h2, h3]
  rfl
end Go.Proofs.Ytgnfkgnokhjmcaa
/-
  THE PROGRAM's CLOSED FACTS, EACH ONCE; and how a row's facts are put together out of them.
-/
namespace Go.Proofs.Ytgnfkgnokhjmcaa
open Go.ChangeShapes Go.WideShapes Go.ChangeAt Go.RowKit

def headSigns : List Char := ([104, 97, 114, 110, 101, 115, 115, 32, 99, 101, 98, 97, 51, 56, 57, 102, 56, 101, 49, 53, 56, 57, 49, 98, 56, 57, 97, 101, 49, 53, 97, 50, 49, 54, 97, 51, 57, 52, 53, 50, 97, 52, 48, 100, 49, 97, 98, 99, 102, 101, 53, 56, 99, 57, 102, 56, 53, 102, 50, 48, 57, 49, 49, 49, 52, 48, 49, 50, 57, 57, 48, 53, 32, 99, 117, 116, 32, 97, 116, 32, 108, 111, 111, 112, 46, 101, 120, 97, 109, 112, 108, 101, 47, 103, 48, 49, 50, 53, 55, 47, 108, 97, 119, 115, 46, 70, 110, 69, 120, 97, 99, 116, 70, 105, 114, 115, 116, 79, 102, 78, 117, 109, 98, 101, 114, 115, 32, 108, 111, 111, 112, 46, 101, 120, 97, 109, 112, 108, 101, 47, 103, 48, 49, 50, 53, 55, 47, 108, 97, 119, 115, 46, 70, 110, 69, 120, 97, 99, 116, 67, 111, 117, 110, 116, 79, 102, 78, 117, 109, 98, 101, 114, 115, 32, 108, 111, 111, 112, 46, 101, 120, 97, 109, 112, 108, 101, 47, 103, 48, 49, 50, 53, 55, 47, 108, 97, 119, 115, 46, 70, 110, 69, 120, 97, 99, 116, 73, 115, 79, 110, 108, 121] : List Nat).map Char.ofNat
set_option maxRecDepth 100000 in
theorem Try.initOrder_is : Try.prog.initOrder = String.ofList headSigns := by kernel_rfl
theorem Try.initOrder_signs : Try.prog.initOrder.toList = headSigns := by rw [Try.initOrder_is]; exact String.toList_ofList
set_option maxRecDepth 100000 in
theorem head_words : (behindMainWord (wordsSigns headSigns)).take 1 = ["cut".toList] := by kernel_rfl
theorem Try.words : ∃ rest, behindMainWord (wordsSigns Try.prog.initOrder.toList) = "cut".toList :: rest := by
  rw [Try.initOrder_signs]
  have h := List.take_append_drop 1 (behindMainWord (wordsSigns headSigns))
  rw [head_words] at h
  exact ⟨_, h.symm⟩
theorem Try.make : Try.prog.make = some .cut := by obtain ⟨_, h⟩ := Try.words; exact make_of h
theorem Try.liftsFinal : Try.prog.liftsFinal = false := by obtain ⟨_, h⟩ := Try.words; exact final_of h
theorem Try.laysLater : Try.prog.laysLater = false := by kernel_rfl
theorem Try.bearsReflect : Try.prog.bearsReflect = false := by kernel_rfl
theorem Try.doorFits : Try.prog.doorFits [] = true := by kernel_rfl
theorem Try.mayEnter : Try.prog.mayEnter = true := by obtain ⟨_, h⟩ := Try.words; exact enter_of h Try.laysLater Try.bearsReflect Try.doorFits
theorem Try.mapsRowed : mapsRowed Try.prog = true := by kernel_rfl
theorem Try.stops : (Try.prog.stops == []) = true := by kernel_rfl
theorem Try.stopKnobs : (Try.prog.stopKnobs == []) = true := by kernel_rfl
theorem Try.plainKeys : Try.prog.plainKeys = true := by kernel_rfl
theorem Try.stopsHeard : Try.prog.stopsHeard = true := by kernel_rfl

/-- What the types of one law give: closed facts on its parameters and its result. -/
def typeFacts (P : Program) (fn : Func) (s : ChangeSpec) (c : OpenClaim) : Bool :=
  fn.params.all (P.readableRec ·) && namedTie P c.named s.vars && (c.stops == []) && (c.knobs == []) &&
  (c.maps == (fn.params.toList ++ s.plain.varTypes P).any (P.mapsRec ·)) && (c.ifaces == (fn.params.toList ++ s.plain.varTypes P).any (P.ifacesRec ·)) && (c.mapsOut == P.mapsAmong fn.resultTypes.toList) &&
  (c.loops == (fn.params.toList ++ s.plain.varTypes P).any (P.loopsFrom ·)) && (c.wideKeys == (fn.params.toList ++ s.plain.varTypes P ++ fn.resultTypes.toList).any (P.wideKeysFrom ·)) &&
  s.vars.all (P.varReadable ·) && fn.resultTypes.all (fun t => P.readableRec t && decide (t < P.types.size)) && (c.ifacesOut == fn.resultTypes.toList.any (P.ifacesRec ·)) && (c.loopsOut == fn.resultTypes.toList.any (P.loopsFrom ·)) && c.shortTexts.isNone &&
  (c.kinds == (if c.domain.isEmpty then [] else fn.params.toList.map fun t => match P.underlying t with | some (.int k) => some k | _ => none)) && (c.pinned == c.pinnedBy) &&
  (c.veiled == (fn.params.toList ++ s.plain.varTypes P ++ fn.resultTypes.toList).any (P.veiledRec ·)) && c.veiledFits P fn.params.toList (fn.params.toList ++ s.plain.varTypes P ++ fn.resultTypes.toList)
theorem joined_all {P : Program} {f : FuncId} {fn : Func} {s : ChangeSpec} {c : OpenClaim} (k1 : c.wf (OpenSpec.ofChange s) = true) (kt : typeFacts P fn s c = true)
    (k10 : (c.inPlace == P.inPlace f) = true) (k11 : (c.unfollowed == P.unfollowed f) = true) (k12 : (c.recurses == P.recurses f) = true) (k13 : (c.named == P.varsNamed f) = true)
    (e2 : laidOutB P = true) (e3 : mapsRowed P = true) (e7 : (P.stops == []) = true) (e9 : (P.stopKnobs == []) = true) (e22 : (c.plainKeys == P.plainKeys) = true) (e23 : P.stopsHeard = true) (e24 : P.mayEnter = true)
    (e24b : (c.lifted == P.liftsFinal) = true) (e24c : (P.make == some c.make) = true) : joinedFacts P f fn s c = true := by
  unfold typeFacts at kt
  unfold joinedFacts
  simp only [Bool.and_eq_true] at kt ⊢
  obtain ⟨⟨⟨⟨⟨⟨⟨⟨⟨⟨⟨⟨⟨⟨⟨⟨⟨t1, t2⟩, t3⟩, t4⟩, t5⟩, t6⟩, t7⟩, t8⟩, t9⟩, t10⟩, t11⟩, t12⟩, t13⟩, t14⟩, t15⟩, t16⟩, t17⟩, t18⟩ := kt
  exact ⟨⟨⟨⟨⟨⟨⟨⟨⟨⟨⟨⟨⟨⟨⟨⟨⟨⟨⟨⟨⟨⟨⟨⟨⟨⟨⟨⟨⟨⟨⟨k1, e2⟩, e3⟩, t1⟩, t2⟩, t3⟩, e7⟩, t4⟩, e9⟩, k10⟩, k11⟩, k12⟩, k13⟩, t5⟩, t6⟩, t7⟩, t8⟩, t9⟩, t10⟩, t11⟩, t12⟩, t13⟩, e22⟩, t14⟩, e23⟩, e24⟩, e24b⟩, e24c⟩, t15⟩, t16⟩, t17⟩, t18⟩
theorem joined_of {f : FuncId} {fn : Func} {s : ChangeSpec} {c : OpenClaim} (k1 : c.wf (OpenSpec.ofChange s) = true) (kt : typeFacts Try.prog fn s c = true)
    (k10 : (c.inPlace == Try.prog.inPlace f) = true) (k11 : (c.unfollowed == Try.prog.unfollowed f) = true) (k12 : (c.recurses == Try.prog.recurses f) = true) (k13 : (c.named == Try.prog.varsNamed f) = true)
    (k22 : c.plainKeys = true) (k24b : c.lifted = false) (k24c : c.make = .cut) : joinedFacts Try.prog f fn s c = true :=
  joined_all k1 kt k10 k11 k12 k13 Try.laidOut Try.mapsRowed Try.stops Try.stopKnobs (by rw [k22, Try.plainKeys]; rfl) Try.stopsHeard Try.mayEnter (by rw [k24b, Try.liftsFinal]; rfl) (by rw [k24c, Try.make]; rfl)
end Go.Proofs.Ytgnfkgnokhjmcaa
