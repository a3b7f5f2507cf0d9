/-
  Texts put together for the claims of 'FirstOfNumbers' (pack 4): EachD, EachW, EachO, Ints, TiedP, Table, LRows, OwnRow, LawFirstOfNumbers, Head, Facts.
-/
import Derived.Test.YthddlpghjkiioaaFirstOfNumbersP1
import Derived.Test.YthddlpghjkiioaaFirstOfNumbersP2
import Derived.Test.YthddlpghjkiioaaFirstOfNumbersP3
import Derived.Laws.BitsAllLaws
import Derived.Lib.TrailingZeros
import Derived.StillTailTactics
import Derived.Laws.AppendOwnNone
import Derived.Deep.RegionHeld3
import Derived.Test.YthddlpghjkiioaaRows
/-
  ALL PARTIES OF SOME NUMBERS: the model's 'deAll', 'CountOfNumbers', 'IsOnly', by their contracts.
-/
namespace Go.Proofs.Ythddlpghjkiioaa
open Go.RowKit

set_option maxHeartbeats 1000000 in
set_option maxRecDepth 100000 in
/-- a copy of no numbers -/
theorem l1Own_zero (A : Option Addr) (c : Nat) (w : World) (hz : A = none → c = 0) :
    Calls Try.prog 70 #[.slice A 0 c] w fun e w' => ∃ A' c', e = .returned (.slice A' 0 c') ∧ Below w.heap.size w w' := by
  obtain ⟨i0, hi, hz0, hz1, hz2⟩ := info_parts Try.infoInt
  have h1 : (w.alloc (.cells #[] 3)).ownsRow w.heap.size 3 1 (.slice (some ⟨w.heap.size, 0, none⟩) 0 0) 0 [] := World.ownsRow_made w #[] 0 (Nat.le_refl _) (Nat.zero_le _) rfl
  have kX : Below w.heap.size w (w.alloc (.cells #[] 3)) := by go_grown
  cases A with
  | none =>
    obtain rfl := hz rfl
    go_enter Try.func70, Try.ntmps70
    go_wp2_with (at_builtin; refine wpList_append_own_none rfl _ _ 22 rfl w.heap.size 3 i0 1 Try.underlying22 hi (.slice (some ⟨w.heap.size, 0, none⟩) 0 0) 0 [] rfl h1 rfl ?_)
    go_ret
    go_grown
  | some ad =>
    go_enter Try.func70, Try.ntmps70
    go_wp2_with (at_builtin; refine wpList_append_own _ rfl _ _ 22 rfl w.heap.size 3 i0 _ 1 8 Try.underlying22 hi hz0 hz1 hz2 rfl (by decide) (.slice (some ⟨w.heap.size, 0, none⟩) 0 0) 0 [] rfl h1 ad 0 c [] rfl rfl (fun j u hu => by simp at hu) (fun u hu => by cases hu) (by unfold maxLen; omega) (by omega) (by simp) ?_; intro v4 w4 own4 gr4 _; obtain ⟨A4, c4, rfl, _⟩ := own_shape own4)
    go_ret
    exact ⟨⟨_, _, rfl⟩, kX.grown gr4 (by simp) (by intro m hm; simp [Value.ownBlock] at hm; omega)⟩
set_option maxHeartbeats 8000000 in
set_option maxRecDepth 100000 in
/-- nobody: one party -/
theorem deLook_zero (pc pf B : Nat) (hcf : pc ≠ pf) (hcB : pc < B) (hfB : pf < B) (Al : Option Addr) (cl : Nat) (w : World) (hBw : B ≤ w.heap.size) (FA : Option Addr) (fc : Nat) (hP : CntAt w pc pf 0 [] B FA fc) :
    Calls Try.prog 69 #[.int .i64 0, .slice Al 0 cl, .int .i64 0, .int .i64 1, .slice none 0 0, .pointer (some ⟨pc, 0, none⟩), .pointer (some ⟨pf, 0, none⟩)] w fun e w' =>
      e = .returned (.tuple #[]) ∧ LookD pc pf 0 [] B [[]] w w' := by
  obtain ⟨i0, hi, hz0, hz1, hz2⟩ := info_parts Try.infoPair
  have lpc : pc < w.heap.size := by omega
  have lpf : pf < w.heap.size := by omega
  have HP := Lib.hid hP
  have cc := cell_in hP.cntc
  have fcz := frozen_of_row _ _ 0 _ _ hP.cntc
  have h1 : (w.alloc (.cells #[] 64)).ownsRow w.heap.size 64 2 (.slice (some ⟨w.heap.size, 0, none⟩) 0 0) 0 [] := World.ownsRow_made w #[] 0 (Nat.le_refl _) (Nat.zero_le _) rfl
  have kX : Below w.heap.size w (w.alloc (.cells #[] 64)) := by go_grown
  have P1 := (HP.out.below kX).firsts hcf hfB (l := []) (own_lower h1 hBw)
  have P2 := P1.counted hcf hcB
  have x1 := cell_in P1.cntc
  have x2 := frozen_of_row _ _ 0 _ _ P1.cntc
  have x3 := cell_in (HP.out.below kX).fstc
  have x4 := frozen_of_row _ _ 0 _ _ (HP.out.below kX).fstc
  have lpc2 : pc < (w.setCell ⟨pf, 0, none⟩ (.slice (some ⟨w.heap.size, 0, none⟩) 0 0)).heap.size := by simp; omega
  have ap := ((Apart.of_below (S := fun j => j = pc ∨ j = pf) kX).trans (Apart.setCell (S := fun j => j = pc ∨ j = pf) (p := ⟨pf, 0, none⟩) (.inr rfl) (.slice (some ⟨w.heap.size, 0, none⟩) 0 0)) (fun j hj => .inl hj)).trans (Apart.setCell (S := fun j => j = pc ∨ j = pf) (p := ⟨pc, 0, none⟩) (.inl rfl) (.int .i64 (((0 : Nat) : Int) + 1))) (fun j hj => .inl hj)
  have e1 := World.setCell_alloc_past (w := w) (.cells #[] 64) pf 0 (.slice (some ⟨w.heap.size, 0, none⟩) 0 0) lpf
  have e2 := World.setCell_alloc_past (w := w.setCell ⟨pf, 0, none⟩ (.slice (some ⟨w.heap.size, 0, none⟩) 0 0)) (.cells #[] 64) pc 0 (.int .i64 (((0 : Nat) : Int) + 1)) lpc2
  have e3 : ([] : PL).length = 0 := rfl
  rw [e3, e1, e2] at P2
  rw [e1, e2] at ap
  have HP2 := Lib.hid P2
  have Ap := Lib.hid ap
  clear P1 P2 ap e1 e2 e3 lpc2 hP
  go_enter Try.func69, Try.ntmps69
  go_wp2_with (at_builtin; refine wpList_append_own_none rfl _ _ 23 rfl w.heap.size 64 i0 2 Try.underlying23 hi _ _ _ rfl h1 rfl ?_)
  refine show _ = [] ∧ _ from ⟨rfl, .tuple #[], by simp [results, Try.results69, go_sem], ?_⟩
  exact ⟨rfl, Ap.out, _, _, HP2.out⟩
theorem fewN_of {q : List Int} (h7 : q.length ≤ 7) (h : isNums q = true) : FewN q := by
  intro j
  by_cases hj : j < q.length
  · obtain ⟨x, hx⟩ := getSome q j hj
    have := isNums_at h hx
    rw [getD_some hx]
    omega
  · rw [List.getD_eq_getElem?_getD, List.getElem?_eq_none (by omega)]
    simp
set_option maxHeartbeats 8000000 in
set_option maxRecDepth 100000 in
theorem deAll_any (q : List Int) (A : Option Addr) (c : Nat) (w : World) (h7 : q.length ≤ 7) (hn : isNums q = true) (hA : CRead w w.heap.size A (icells q)) (hz : A = none → c = 0) :
    Calls Try.prog 43 #[.slice A q.length c] w fun e w' => ∃ FA fc, e = .returned (.tuple #[.int .i64 ((partiesN q).length : Int), .slice FA (fstN [] 0 (partiesN q)).length fc]) ∧
      w'.ownsRow w.heap.size 64 2 (.slice FA (fstN [] 0 (partiesN q)).length fc) (fstN [] 0 (partiesN q)).length (pcells (fstN [] 0 (partiesN q))) ∧ Below w.heap.size w w' := by
  obtain ⟨X, hX⟩ : ∃ X, (w.alloc (Obj.cells #[Value.int IntKind.i64 0] 3)).alloc (Obj.cells #[Value.slice none 0 0] 23) = X := ⟨_, rfl⟩
  have kX : Below w.heap.size w X := by rw [← hX]; go_grown
  have sX : X.heap.size = w.heap.size + 2 := by rw [← hX]; simp
  have b1 : X.heap[w.heap.size]? = some (Obj.cells #[.int .i64 0] 3) := by
    rw [← hX]
    exact (Below.heap_alloc _ _ _ (by simp)).trans (World.alloc_heap_new w (Obj.cells #[.int .i64 0] 3))
  have b2 : X.heap[w.heap.size + 1]? = some (Obj.cells #[.slice none 0 0] 23) := by
    rw [← hX]
    have h := World.alloc_heap_new (w.alloc (Obj.cells #[Value.int IntKind.i64 0] 3)) (Obj.cells #[.slice none 0 0] 23)
    simpa only [World.size_alloc] using h
  have P0 : CntAt X w.heap.size (w.heap.size + 1) 0 [] (w.heap.size + 2) none 0 := ⟨b1, b2, World.ownsRow_nil _ _ _ _⟩
  have hAX : CRead X X.heap.size A (icells q) := (hA.below kX (Nat.le_refl _)).more kX.size
  have hlen := partiesN_len h7
  have hmain : ∃ (Q1 : Value → World → Prop), (Calls Try.prog 70 #[.slice A q.length c] X fun e w' => ∃ A' c', e = .returned (.slice A' q.length c') ∧ Q1 (.slice A' q.length c') w') ∧
      ∀ A' c' w', Q1 (.slice A' q.length c') w' → Below X.heap.size X w' ∧ Calls Try.prog 69 #[.int .i64 q.length, .slice A' q.length c', .int .i64 0, .int .i64 1, .slice none 0 0, .pointer (some ⟨w.heap.size, 0, none⟩), .pointer (some ⟨w.heap.size + 1, 0, none⟩)] w' fun e w2 => e = .returned (.tuple #[]) ∧ LookD w.heap.size (w.heap.size + 1) 0 [] (w.heap.size + 2) (partiesN q) w' w2 := by
    by_cases h0 : q = []
    · subst h0
      refine ⟨fun _ w' => Below X.heap.size X w', (l1Own_zero A c X hz).mono (fun e w' h => h), fun A' c' w' hb => ⟨hb, ?_⟩⟩
      exact deLook_zero w.heap.size (w.heap.size + 1) (w.heap.size + 2) (by omega) (by omega) (by omega) A' c' w' (by have := hb.size; omega) none 0 (P0.below hb)
    · have hpos : 0 < q.length := (by cases q with | nil => exact absurd rfl h0 | cons x q => simp)
      refine ⟨fun v w' => w'.ownsRow X.heap.size 3 1 v q.length (icells q) ∧ Below X.heap.size X w', (l1Own_any q A c X (by omega) hpos hAX).mono (fun e w' h => h), fun A' c' w' h => ⟨h.2, ?_⟩⟩
      obtain ⟨g, rfl⟩ := own_form h.1 hpos
      obtain ⟨k, hk⟩ : ∃ k, rowsN q.length = k + 1 := ⟨rowsN q.length - 1, by
        obtain ⟨m, hm⟩ : ∃ m, q.length = m + 1 := ⟨q.length - 1, by omega⟩
        rw [hm]; simp only [rowsN]; omega⟩
      have hk28 := rowsN_7 h7
      have h := deLook_any q.length h7 w.heap.size (w.heap.size + 1) (w.heap.size + 2) (by omega) (by omega) (by omega) k q 0 1 g c' [] none 0 0 [] none 0 w' (by rw [← hk]; exact StepN.first _) rfl (fewN_of h7 hn) (by simp; omega)
        (by rw [← hk]; have := Nat.pow_le_pow_right (show 0 < 2 by omega) hk28; have e60 : (2 : Nat) ^ 60 = 1152921504606846976 := by decide
            have e28 : (2 : Nat) ^ 28 = 268435456 := by decide
            omega) (by have := h.2.size; omega) (own_lower h.1 (by omega)) (P0.below h.2) (World.ownsRow_nil _ _ _ _)
      rw [← hk] at h
      exact h
  obtain ⟨Q1, hO, hL⟩ := hmain
  obtain ⟨R, hR⟩ : ∃ R, partiesN q = R := ⟨_, rfl⟩
  rw [hR] at hL ⊢
  have HO := Lib.hid hO
  have HL := Lib.hid hL
  have HX := Lib.hid hX
  have KX := Lib.hid kX
  clear hO hL hX kX P0 hA hAX hn hlen b1 b2 hR
  go_enter Try.func43, Try.ntmps43
  go_wp2_with fail
  rw [HX.out]
  refine HO.out.mono ?_
  rintro e w1 ⟨A1, c1, rfl, hq1⟩
  obtain ⟨hb1, hl1⟩ := HL.out A1 c1 w1 hq1
  have HL1 := Lib.hid hl1
  have HB1 := Lib.hid hb1
  clear hl1 hb1 hq1
  go_wp2_with fail
  refine HL1.out.mono ?_
  rintro e w2 ⟨rfl, ap, FA, fc, P⟩
  rw [Nat.zero_add] at P
  have q1 := cell_in P.cntc
  have q2 := cell_in P.fstc
  have own5 := own_lower P.row (base' := w.heap.size) (by omega)
  have s1 := HB1.out.size
  have kw : Below w.heap.size w w2 := by
    have k1 : Below w.heap.size w w1 := KX.out.trans (HB1.out.mono (by omega))
    exact ⟨ap.below.os.trans k1.os, ap.below.tape.trans k1.tape, ap.below.output.trans k1.output, Nat.le_trans k1.size ap.below.size, fun j hj => (ap.same j (by omega) (by omega)).trans (k1.block j hj)⟩
  have Own5 := Lib.hid own5
  have KW := Lib.hid kw
  clear P ap own5 kw HL HO HL1
  go_wp2_with fail
  go_quiet (fail)
  go_wp2_with fail
  go_ret2
  exact ⟨FA, fc, rfl, Own5.out, ⟨KW.out.os, KW.out.tape, KW.out.output, KW.out.size, KW.out.block⟩⟩
set_option maxHeartbeats 1000000 in
theorem deFew_any (q : List Int) (A : Option Addr) (c : Nat) (w : World) (hl : q.length ≤ 1048576) (hA : CRead w w.heap.size A (icells q)) :
    Calls Try.prog 42 #[.slice A q.length c] w fun e w' => e = .returned (.bool (fewI q)) ∧ w = w' := by
  have hg := deGood_any q A c w hl hA
  cases hn : isNums q with
  | false =>
    have e : fewI q = false := by unfold fewI; rw [hn, Bool.and_false]
    rw [e]
    rw [hn] at hg
    have Hg := Lib.hid hg
    clear hg hn e
    go_enter Try.func42, Try.ntmps42
    go_wp2_with fail
    refine Hg.out.mono ?_
    rintro e w' ⟨rfl, rfl⟩
    go_wp2
    go_ret
    first | exact ⟨rfl, rfl⟩ | exact ⟨by simp, rfl⟩
  | true =>
    have e : fewI q = decide ((q.length : Int) ≤ 7) := by unfold fewI; rw [hn, Bool.and_true]; exact decide_eq_decide.2 (by omega)
    rw [e]
    rw [hn] at hg
    have Hg := Lib.hid hg
    clear hg hn e
    go_enter Try.func42, Try.ntmps42
    go_wp2_with fail
    refine Hg.out.mono ?_
    rintro e w' ⟨rfl, rfl⟩
    go_wp2
    go_ret
    first | exact ⟨rfl, rfl⟩ | exact ⟨by simp, rfl⟩
theorem fewI_parts {q : List Int} (h : fewI q = true) : q.length ≤ 7 ∧ isNums q = true := by
  unfold fewI at h
  rw [Bool.and_eq_true, decide_eq_true_eq] at h
  exact h
end Go.Proofs.Ythddlpghjkiioaa
/-
  ALL PARTIES OF SOME NUMBERS: 'eachOfNumbers', 'CountOfNumbers', 'IsOnly' of the program, by their contracts.
-/
namespace Go.Proofs.Ythddlpghjkiioaa
open Go.RowKit

set_option maxHeartbeats 2000000 in
set_option maxRecDepth 100000 in
theorem leftOf_zero (A : Option Addr) (c : Nat) (w : World) :
    Calls Try.prog 73 #[.slice A 0 c] w fun e w' => e = .returned (.agg #[.int .i64 0, .int .i64 0, .int .i64 0, .int .i64 0, .int .i64 0, .int .i64 0, .int .i64 0, .int .i64 0, .int .i64 0, .int .i64 0, .int .i64 0, .int .i64 0]) ∧ Below w.heap.size w w' := by
  obtain ⟨i0, hi, hz0, hz1, hz2⟩ := info_parts Try.infoInt
  have hrun : ∀ ty, (Builtin.copy_ #[22, 22] ty #[.slice (some ⟨w.heap.size + 1, 0, none⟩) 12 12, .slice A 0 c]).run Try.prog ((w.alloc (Obj.cells #[.int .i64 0, .int .i64 0, .int .i64 0, .int .i64 0, .int .i64 0, .int .i64 0, .int .i64 0, .int .i64 0, .int .i64 0, .int .i64 0, .int .i64 0, .int .i64 0] 97)).alloc (Obj.cells #[.int .i64 0, .int .i64 0, .int .i64 0, .int .i64 0, .int .i64 0, .int .i64 0, .int .i64 0, .int .i64 0, .int .i64 0, .int .i64 0, .int .i64 0, .int .i64 0] 97)) = .ok (goInt 0) ((w.alloc (Obj.cells #[.int .i64 0, .int .i64 0, .int .i64 0, .int .i64 0, .int .i64 0, .int .i64 0, .int .i64 0, .int .i64 0, .int .i64 0, .int .i64 0, .int .i64 0, .int .i64 0] 97)).alloc (Obj.cells #[.int .i64 0, .int .i64 0, .int .i64 0, .int .i64 0, .int .i64 0, .int .i64 0, .int .i64 0, .int .i64 0, .int .i64 0, .int .i64 0, .int .i64 0, .int .i64 0] 97)) := fun ty =>
    run_copy_none (P := Try.prog) _ 22 22 ty 3 _ _ _ _ _ _ Try.underlying22 (by rw [hi]; simp [hz1]) (by rfl)
  go_enter Try.func73, Try.ntmps73
  go_wp2
  refine bodyPost_ret (v := .agg #[.int .i64 0, .int .i64 0, .int .i64 0, .int .i64 0, .int .i64 0, .int .i64 0, .int .i64 0, .int .i64 0, .int .i64 0, .int .i64 0, .int .i64 0, .int .i64 0]) (by simp [results, Try.results73, go_sem]) rfl ?_
  exact ⟨rfl, by go_grown⟩
set_option maxHeartbeats 1000000 in
theorem isCounted_any (q : List Int) (A : Option Addr) (c : Nat) (w : World) (hl : q.length ≤ 1048576) (hA : CRead w w.heap.size A (icells q)) :
    Calls Try.prog 44 #[.slice A q.length c] w fun e w' => e = .returned (.bool (fewI q)) ∧ w = w' := by
  have hg := isNumbers_any q A c w hl hA
  have Hg := Lib.hid hg
  clear hg
  by_cases h7 : (q.length : Int) ≤ 7
  · have e : fewI q = isNums q := by unfold fewI; rw [decide_eq_true (by omega), Bool.true_and]
    rw [e]
    go_enter Try.func44, Try.ntmps44
    go_wp2_with fail
    refine Hg.out.mono ?_
    rintro e w' ⟨rfl, rfl⟩
    go_wp2
    go_ret
    first | exact ⟨rfl, rfl⟩ | exact ⟨by simp, rfl⟩
  · have e : fewI q = false := by unfold fewI; rw [decide_eq_false (by omega), Bool.false_and]
    rw [e]
    go_enter Try.func44, Try.ntmps44
    go_wp2
    go_ret
    first | exact ⟨rfl, rfl⟩ | exact ⟨by simp, rfl⟩
end Go.Proofs.Ythddlpghjkiioaa
/-
  THE FIRST PARTY OF SOME NUMBERS: 'FirstOfNumbers' of both sides, by their contracts.
-/
namespace Go.Proofs.Ythddlpghjkiioaa
open Go.RowKit

theorem lookN_mem (n : Nat) : ∀ (k : Nat) (l : List Int) (a b : Nat) (t x : PL), x ∈ lookN n k l a b t → x.length ≤ t.length + k := by
  intro k
  induction k with
  | zero =>
    intro l a b t x hx
    have : x = t := by simpa [lookN] using hx
    rw [this]
    omega
  | succ k ih =>
    intro l a b t x hx
    unfold lookN at hx
    split at hx
    · rw [List.mem_append] at hx
      rcases hx with hx | hx
      · split at hx
        · have h := ih _ _ _ _ _ hx
          rw [List.length_append, List.length_singleton] at h
          omega
        · cases hx
      · have h := ih _ _ _ _ _ hx
        omega
    · split at hx
      · have h := ih _ _ _ _ _ hx
        omega
      · cases hx
def firstN (q : List Int) : List PL → Int × PL × Bool
  | [] => (0, [], false)
  | t :: _ => ((q.length : Int), t, true)
def resFirstOfNumbers (q : List Int) : Int × PL × Bool := if fewI q then firstN q (partiesN q) else (0, [], false)
theorem parties_short {q : List Int} (h : q.length ≤ 7) {x : PL} (hx : x ∈ partiesN q) : x.length ≤ 28 := by
  have h1 := lookN_mem _ _ _ _ _ _ _ hx
  have h2 := rowsN_7 h
  simp only [List.length_nil] at h1
  omega
theorem resFirstOfNumbers_len (q : List Int) : (resFirstOfNumbers q).2.1.length ≤ 1048576 := by
  unfold resFirstOfNumbers
  split
  · rename_i h
    have h7 : q.length ≤ 7 := by
      unfold fewI at h
      rw [Bool.and_eq_true, decide_eq_true_eq] at h
      exact h.1
    cases hL : partiesN q with
    | nil => simp [firstN]
    | cons t L =>
      have := parties_short h7 (x := t) (by rw [hL]; exact List.mem_cons_self)
      show t.length ≤ _
      omega
  · simp
theorem resRow {V : World} {b : Nat} (hV : V.heap[b]? = some (Obj.cells #[.int .i64 0, .slice none 0 0] 25)) :
    V.cell? ⟨b, 0, none⟩ = some (.int .i64 0) ∧ V.cell? ⟨b, 1, none⟩ = some (.slice none 0 0) ∧ V.frozen? ⟨b, 0, none⟩ = false ∧ V.frozen? ⟨b, 1, none⟩ = false :=
  ⟨by rw [cell_of_row _ _ _ _ _ _ hV]; rfl, by rw [cell_of_row _ _ _ _ _ _ hV]; rfl, frozen_of_row _ _ 0 _ _ hV, frozen_of_row _ _ 1 _ _ hV⟩
set_option maxHeartbeats 1000000 in
theorem specFirstOfNumbers_any (q : List Int) (A : Option Addr) (c : Nat) (w : World) (hl : q.length ≤ 1048576) (hA : CRead w w.heap.size A (icells q)) (hz : A = none → c = 0) :
    Calls Try.prog 11 #[.slice A q.length c] w (GotPartyOk w (resFirstOfNumbers q).1 (resFirstOfNumbers q).2.1 (resFirstOfNumbers q).2.2) := by
  obtain ⟨W, hW⟩ : ∃ W, w.alloc (Obj.cells #[.int .i64 0, .slice none 0 0] 25) = W := ⟨_, rfl⟩
  have hbk : W.heap[w.heap.size]? = some (Obj.cells #[.int .i64 0, .slice none 0 0] 25) := by rw [← hW]; exact World.alloc_heap_new w _
  have kW : Below w.heap.size w W := by rw [← hW]; go_grown
  have sW1 : W.heap.size = w.heap.size + 1 := by rw [← hW]; simp
  have rA := (hA.below kW (Nat.le_refl _)).more kW.size
  have hg := deFew_any q A c W hl rA
  have HW := Lib.hid hW
  have KW := Lib.hid kW
  have Hbk := Lib.hid hbk
  clear hW kW hbk
  unfold resFirstOfNumbers
  cases hn : fewI q with
  | false =>
    rw [hn] at hg
    simp only [Bool.false_eq_true, if_false]
    have Hg := Lib.hid hg
    clear hg hn hz
    go_enter Try.func11, Try.ntmps11
    go_wp2_with fail
    rw [HW.out]
    refine Hg.out.mono ?_
    rintro e w' ⟨rfl, rfl⟩
    obtain ⟨x0, x1, z0, z1⟩ := resRow Hbk.out
    go_wp2
    refine bodyPost_ret (v := .tuple #[.agg #[.int .i64 0, .slice none 0 0], .bool false]) (by simp [results, Try.results11, go_sem, x0, x1]) rfl ?_
    exact ⟨none, 0, rfl, World.ownsRow_nil _ _ _ _, (KW.out.setCell (p := ⟨w.heap.size, 0, none⟩) (by simp) _).setCell (p := ⟨w.heap.size, 1, none⟩) (by simp) _⟩
  | true =>
    have hd := deAll_any q A c W (fewI_parts hn).1 (fewI_parts hn).2 rA hz
    rw [hn] at hg
    simp only [if_true]
    obtain ⟨R, hR⟩ : ∃ R, partiesN q = R := ⟨_, rfl⟩
    rw [hR] at hd ⊢
    have Hg := Lib.hid hg
    have Hd := Lib.hid hd
    clear hg hn hz hd hR
    cases R with
    | nil =>
      have hlen : ((([] : List PL).length : Nat) : Int) = 0 := rfl
      rw [hlen] at Hd
      go_enter Try.func11, Try.ntmps11
      go_wp2_with fail
      rw [HW.out]
      refine Hg.out.mono ?_
      rintro e w' ⟨rfl, rfl⟩
      go_wp2_with fail
      refine Hd.out.mono ?_
      rintro e w2 ⟨FA, fc, rfl, _, hb2⟩
      obtain ⟨x0, x1, z0, z1⟩ := resRow ((hb2.block _ (by omega)).trans Hbk.out)
      have Hb2 := Lib.hid (KW.out.trans (hb2.mono (by omega)))
      clear hb2 Hd Hg
      go_wp2
      refine bodyPost_ret (v := .tuple #[.agg #[.int .i64 0, .slice none 0 0], .bool false]) (by simp [results, Try.results11, go_sem, x0, x1]) rfl ?_
      exact ⟨none, 0, rfl, World.ownsRow_nil _ _ _ _, (Hb2.out.setCell (p := ⟨w.heap.size, 0, none⟩) (by simp) _).setCell (p := ⟨w.heap.size, 1, none⟩) (by simp) _⟩
    | cons t L =>
      have e1 : fstN [] 0 (t :: L) = t := rfl
      rw [e1] at Hd
      obtain ⟨m, hm⟩ : ∃ m : Int, (((t :: L).length : Nat) : Int) = m := ⟨_, rfl⟩
      have hm0 : (m == 0) = false := by rw [← hm]; simp; omega
      have hm1 : ¬ m = 0 := by rw [← hm]; simp; omega
      rw [hm] at Hd
      clear hm
      go_enter Try.func11, Try.ntmps11
      go_wp2_with fail
      rw [HW.out]
      refine Hg.out.mono ?_
      rintro e w' ⟨rfl, rfl⟩
      go_wp2_with fail
      refine Hd.out.mono ?_
      rintro e w2 ⟨FA, fc, rfl, ho2, hb2⟩
      obtain ⟨x0, x1, z0, z1⟩ := resRow ((hb2.block _ (by omega)).trans Hbk.out)
      have Ho2 := Lib.hid ho2
      have Hb2 := Lib.hid (KW.out.trans (hb2.mono (by omega)))
      clear ho2 hb2 Hd Hg
      go_wp2
      refine bodyPost_ret (v := .tuple #[.agg #[.int .i64 q.length, .slice FA t.length fc], .bool true]) (by simp [results, Try.results11, go_sem, x0, x1]) rfl ?_
      exact ⟨FA, fc, rfl, own_lower (own_ap (S := fun j => j = w.heap.size) (own_ap (S := fun j => j = w.heap.size) Ho2.out (Apart.setCell (S := fun j => j = w.heap.size) (p := ⟨w.heap.size, 0, none⟩) rfl _) (fun j hj => by subst hj; omega)) (Apart.setCell (S := fun j => j = w.heap.size) (p := ⟨w.heap.size, 1, none⟩) rfl _) (fun j hj => by subst hj; omega)) (by omega), (Hb2.out.setCell (p := ⟨w.heap.size, 0, none⟩) (by simp) _).setCell (p := ⟨w.heap.size, 1, none⟩) (by simp) _⟩
set_option maxHeartbeats 4000000 in
set_option maxRecDepth 100000 in
theorem eachOfFirst_any (q : List Int) (A : Option Addr) (c : Nat) (o B0 : Nat) (w : World) (h7 : q.length ≤ 7) (hn : isNums q = true) (hA : CRead w w.heap.size A (icells q)) (ho : o < w.heap.size) (hB : B0 ≤ w.heap.size) (hJ : KeptF o (fun _ => False) [] w) :
    Calls Try.prog 45 #[.slice A q.length c, fstV o] w fun e w' => ∃ r, e = .returned (.bool r) ∧ PostF o B0 (fun _ => False) none 0 [] (partiesN q) w r w' := by
  have hlo : Calls Try.prog 73 #[.slice A q.length c] w fun e w' => e = .returned (.agg #[.int .i64 (leftF q 0), .int .i64 (leftF q 1), .int .i64 (leftF q 2), .int .i64 (leftF q 3), .int .i64 (leftF q 4), .int .i64 (leftF q 5), .int .i64 (leftF q 6), .int .i64 (leftF q 7), .int .i64 (leftF q 8), .int .i64 (leftF q 9), .int .i64 (leftF q 10), .int .i64 (leftF q 11)]) ∧ Below w.heap.size w w' := by
    by_cases h0 : q = []
    · subst h0
      exact leftOf_zero A c w
    · exact leftOf_any q A c w (by omega) (by cases q with | nil => exact absurd rfl h0 | cons x q => simp) hA
  have hr28 := rowsN_7 h7
  have hmain : ∀ Y, Below w.heap.size w Y → Calls Try.prog 72 #[.agg #[.int .i64 0, .int .i64 1], .int .i64 q.length, .agg #[.int .i64 (leftF q 0), .int .i64 (leftF q 1), .int .i64 (leftF q 2), .int .i64 (leftF q 3), .int .i64 (leftF q 4), .int .i64 (leftF q 5), .int .i64 (leftF q 6), .int .i64 (leftF q 7), .int .i64 (leftF q 8), .int .i64 (leftF q 9), .int .i64 (leftF q 10), .int .i64 (leftF q 11)], .slice none 0 0, fstV o] Y fun e w' => ∃ r, e = .returned (.bool r) ∧ PostF o B0 (fun _ => False) none 0 [] (partiesN q) w r w' := fun Y hY => by
    have h := eachFirst_any q.length h7 o B0 (rowsN q.length) q 0 1 [] none 0 (fun _ => False) Y (StepN.first _) rfl (fewN_of h7 hn) (by simp; omega) (by have := hY.size; omega) (keptF_held o _ _ _ _ _ hJ (Apart.of_below hY) (fun j hj => .inl hj)) (World.ownsRow_nil _ _ _ _) (fun k h => by cases h) (by have := hY.size; omega)
    refine h.mono ?_
    rintro e w' ⟨r, h1, h2⟩
    exact ⟨r, h1, h2.before hY ho⟩
  have HL := Lib.hid hlo
  have HM := Lib.hid hmain
  clear hlo hmain hJ hA hn
  go_enter Try.func45, Try.ntmps45
  go_wp2_with fail
  refine HL.out.mono ?_
  rintro e w1 ⟨rfl, hb1⟩
  go_wp2_with fail
  refine (HM.out w1 hb1).mono ?_
  rintro e w2 ⟨r, rfl, h2⟩
  go_wp2
  go_ret
  exact ⟨r, rfl, h2⟩
set_option maxHeartbeats 4000000 in
set_option maxRecDepth 100000 in
theorem implFirstOfNumbers_any (q : List Int) (A : Option Addr) (c : Nat) (w : World) (hl : q.length ≤ 1048576) (hA : CRead w w.heap.size A (icells q)) :
    Calls Try.prog 13 #[.slice A q.length c] w (GotPartyOk w (resFirstOfNumbers q).1 (resFirstOfNumbers q).2.1 (resFirstOfNumbers q).2.2) := by
  obtain ⟨W, hW⟩ : ∃ W, w.alloc (Obj.cells #[.int .i64 0, .slice none 0 0] 25) = W := ⟨_, rfl⟩
  have hbk : W.heap[w.heap.size]? = some (Obj.cells #[.int .i64 0, .slice none 0 0] 25) := by rw [← hW]; exact World.alloc_heap_new w _
  have kW : Below w.heap.size w W := by rw [← hW]; go_grown
  have sW1 : W.heap.size = w.heap.size + 1 := by rw [← hW]; simp
  have rA := (hA.below kW (Nat.le_refl _)).more kW.size
  have hg := isCounted_any q A c W hl rA
  have HW := Lib.hid hW
  have KW := Lib.hid kW
  have Hbk := Lib.hid hbk
  clear hW kW hbk
  unfold resFirstOfNumbers
  cases hn : fewI q with
  | false =>
    rw [hn] at hg
    simp only [Bool.false_eq_true, if_false]
    have Hg := Lib.hid hg
    clear hg hn
    go_enter Try.func13, Try.ntmps13
    go_wp2_with fail
    rw [HW.out]
    refine Hg.out.mono ?_
    rintro e w' ⟨rfl, rfl⟩
    obtain ⟨x0, x1, z0, z1⟩ := resRow Hbk.out
    go_wp2
    refine bodyPost_ret (v := .tuple #[.agg #[.int .i64 0, .slice none 0 0], .bool false]) (by simp [results, Try.results13, go_sem, x0, x1]) rfl ?_
    exact ⟨none, 0, rfl, World.ownsRow_nil _ _ _ _, (KW.out.setCell (p := ⟨w.heap.size, 0, none⟩) (by simp) _).setCell (p := ⟨w.heap.size, 1, none⟩) (by simp) _⟩
  | true =>
    rw [hn] at hg
    simp only [if_true]
    obtain ⟨X, hX⟩ : ∃ X, W.alloc (Obj.cells #[.slice none 0 0] 23) = X := ⟨_, rfl⟩
    have kX : Below W.heap.size W X := by rw [← hX]; go_grown
    have sX : X.heap.size = W.heap.size + 1 := by rw [← hX]; simp
    have JX : KeptF (w.heap.size + 1) (fun _ => False) [] X := ⟨fun _ h => h.elim, by rw [← hX, ← sW1]; exact World.alloc_heap_new W _⟩
    have he := eachOfFirst_any q A c (w.heap.size + 1) (w.heap.size + 1) X (fewI_parts hn).1 (fewI_parts hn).2 ((rA.below kX (Nat.le_refl _)).more kX.size) (by omega) (by omega) JX
    obtain ⟨R, hR⟩ : ∃ R, partiesN q = R := ⟨_, rfl⟩
    rw [hR] at he ⊢
    have Hg := Lib.hid hg
    have He := Lib.hid he
    have HX := Lib.hid hX
    have KX := Lib.hid kX
    clear hg he hX kX hn hR JX hA rA
    go_enter Try.func13, Try.ntmps13
    go_wp2_with fail
    rw [HW.out]
    refine Hg.out.mono ?_
    rintro e w' ⟨rfl, rfl⟩
    go_wp2_with fail
    rw [HX.out]
    refine He.out.mono ?_
    rintro e w2 ⟨r, rfl, h2⟩
    clear He
    cases r with
    | true =>
      obtain ⟨rfl, h2⟩ := h2
      have kw : Below (w.heap.size + 1) W w2 := ⟨h2.below.os.trans KX.out.os, h2.below.tape.trans KX.out.tape, h2.below.output.trans KX.out.output, Nat.le_trans KX.out.size h2.below.size, fun j hj => (h2.ro j hj).trans (KX.out.block j (by omega))⟩
      obtain ⟨x0, x1, z0, z1⟩ := resRow ((kw.block _ (by omega)).trans Hbk.out)
      have Kw := Lib.hid (KW.out.trans (kw.mono (by omega)))
      clear h2 kw
      go_wp2
      refine bodyPost_ret (v := .tuple #[.agg #[.int .i64 0, .slice none 0 0], .bool false]) (by simp [results, Try.results13, go_sem, x0, x1]) rfl ?_
      exact ⟨none, 0, rfl, World.ownsRow_nil _ _ _ _, (Kw.out.setCell (p := ⟨w.heap.size, 0, none⟩) (by simp) _).setCell (p := ⟨w.heap.size, 1, none⟩) (by simp) _⟩
    | false =>
      obtain ⟨t, M, rfl, h2⟩ := h2
      obtain ⟨S', ⟨A2, c2, hb, hown⟩, _, _⟩ := h2.ex
      have cc := cell_in hb
      have kw : Below (w.heap.size + 1) W w2 := ⟨h2.below.os.trans KX.out.os, h2.below.tape.trans KX.out.tape, h2.below.output.trans KX.out.output, Nat.le_trans KX.out.size h2.below.size, fun j hj => (h2.ro j hj).trans (KX.out.block j (by omega))⟩
      obtain ⟨x0, x1, z0, z1⟩ := resRow ((kw.block _ (by omega)).trans Hbk.out)
      have Kw := Lib.hid (KW.out.trans (kw.mono (by omega)))
      have Hown := Lib.hid hown
      clear h2 kw hown hb
      go_wp2
      refine bodyPost_ret (v := .tuple #[.agg #[.int .i64 q.length, .slice A2 t.length c2], .bool true]) (by simp [results, Try.results13, go_sem, x0, x1]) rfl ?_
      exact ⟨A2, c2, rfl, own_lower (own_ap (S := fun j => j = w.heap.size) (own_ap (S := fun j => j = w.heap.size) Hown.out (Apart.setCell (S := fun j => j = w.heap.size) (p := ⟨w.heap.size, 0, none⟩) rfl _) (fun j hj => by subst hj; omega)) (Apart.setCell (S := fun j => j = w.heap.size) (p := ⟨w.heap.size, 1, none⟩) rfl _) (fun j hj => by subst hj; omega)) (by omega), (Kw.out.setCell (p := ⟨w.heap.size, 0, none⟩) (by simp) _).setCell (p := ⟨w.heap.size, 1, none⟩) (by simp) _⟩
end Go.Proofs.Ythddlpghjkiioaa
/-
  THE LAWS' COPY OF A LIST OF NUMBERS, by its contract.
-/
namespace Go.Proofs.Ythddlpghjkiioaa
open Go.RowKit

set_option maxHeartbeats 1000000 in
set_option maxRecDepth 100000 in
theorem toIntS_any (l : List Int) (A : Option Addr) (c : Nat) (w : World) (hl : l.length ≤ 1048576) (hA : CRead w w.heap.size A (icells l)) :
    Calls Try.prog 12 #[.slice A l.length c] w fun e w' =>
      e = .returned (.slice (some ⟨w.heap.size, 0, none⟩) l.length l.length) ∧ w'.ownsRow w.heap.size 3 1 (.slice (some ⟨w.heap.size, 0, none⟩) l.length l.length) l.length (icells l) ∧ Below w.heap.size w w' := by
  obtain ⟨i0, hi, hz0, hz1, hz2⟩ := info_parts Try.infoInt
  generalize hn : l.length = n at *
  have Hn := Lib.hid hn
  clear hn
  generalize hg : w.heap.size = g at *
  have Hg := Lib.hid hg
  clear hg
  go_enter Try.func12, Try.ntmps12
  go_wp2_with (at_make; refine wpList_make_full _ rfl _ _ 22 rfl g 3 i0 _ 1 Try.underlying22 hi hz0 hz1 _ _ _ _ n rfl rfl (by omega) (by omega) (by rw [hz2]; omega) (by unfold maxLen; omega) (by rw [Hg.out]; exact Nat.le_refl _) ?_; rw [Hg.out]; intro w1 hown1 hgr1)
  have hs1 : g < w1.heap.size := (own_lt hown1).2
  have hb1 : Below g w w1 := (Below.refl _ _).grown hgr1 (by rw [Hg.out]; exact Nat.le_refl _) (by simp)
  rw [show Value.cells (.int .i64 0) = #[.int .i64 0] from rfl, made_ints] at hown1
  go_loopw [4] (fun i wr => ∃ k : Nat, k ≤ n ∧ i = .int .i64 k ∧ wr.ownsRow g 3 1 (.slice (some ⟨g, 0, none⟩) n n) n (icells (l.take k ++ List.replicate (n - k) 0)) ∧ Below g w wr) (fun i _ => n - (intOf i).toNat)
  case atStart => exact ⟨0, Nat.zero_le _, rfl, by simpa using hown1, hb1⟩
  case round =>
    obtain ⟨k, hk, rfl, hown, hb⟩ := hrel
    have hs := own_lt hown
    by_cases hlt : k < n
    · obtain ⟨x, hx⟩ := getSome l k (by rw [Hn.out]; exact hlt)
      obtain ⟨b, off, rfl, hbb, c0⟩ := (hA.below hb (Nat.le_refl _)).int hx
      have hlt' : (k : Int) < n := by omega
      have f0 := hown.frozenAt k
      have hz : (l.take k ++ List.replicate (n - k) 0)[k]? = some 0 := by
        rw [List.getElem?_append_right (by simp; omega)]
        have h1 : min k l.length = k := Nat.min_eq_left (by rw [Hn.out]; exact hk)
        simp only [List.length_take, h1, Nat.sub_self]
        rw [List.getElem?_replicate, if_pos (by omega)]
      have d0 := own_intAt hown hz
      clear hz
      have Hx := Lib.hid hx
      clear hx
      go_wp2
      go_roundw
      case rel =>
        refine ⟨k + 1, by omega, by go_num, ?_, hb.setCell (p := ⟨g, k, none⟩) (Nat.le_refl _) _⟩
        have h2 := own_setInt hown k x
        rwa [take_set_replicate l 0 n k x Hn.out Hx.out] at h2
      case measure => simp [intOf]; omega
    · have hkl : k = n := by omega
      subst hkl
      have hge : ¬ ((k : Int) < k) := by omega
      go_wp2
      go_ret
      refine ⟨rfl, ?_, hb⟩
      rwa [Nat.sub_self, List.replicate_zero, List.append_nil, List.take_of_length_le (by rw [Hn.out]; exact Nat.le_refl _)] at hown
theorem toIntS_got (l : List Int) (A : Option Addr) (c : Nat) (w : World) (hl : l.length ≤ 1048576) (hA : CRead w w.heap.size A (icells l)) :
    Calls Try.prog 12 #[.slice A l.length c] w fun e w' => ∃ A' c', e = .returned (.slice A' l.length c') ∧ w'.ownsRow w.heap.size 3 1 (.slice A' l.length c') l.length (icells l) ∧ Below w.heap.size w w' :=
  (toIntS_any l A c w hl hA).mono fun _ _ h => ⟨_, _, h⟩
end Go.Proofs.Ythddlpghjkiioaa
/-
  LISTS OF PEOPLE WHO ARE TIED, TWO AND TWO, as plain lists; sets of people as numbers of sixteen bits. Nothing here speaks of the program.
-/
namespace Go.Proofs.Ythddlpghjkiioaa
open Go.RowKit

/-- the lists of so many more of the candidates behind those told, in order; every candidate is tied to all told -/
def listsC (t : Nat → Nat → Bool) : Nat → List Int → List Nat → List (List Int)
  | 0, told, _ => [told]
  | _ + 1, _, [] => []
  | k + 1, told, a :: cs => listsC t k (told ++ [(a : Int)]) (cs.filter (t a)) ++ listsC t (k + 1) told cs
termination_by k _ cs => (k, cs.length)
theorem listsC_zero (t : Nat → Nat → Bool) (told : List Int) (cs : List Nat) : listsC t 0 told cs = [told] := by cases cs <;> simp [listsC]
theorem listsC_nil (t : Nat → Nat → Bool) (k : Nat) (told : List Int) : listsC t (k + 1) told [] = [] := by simp [listsC]
theorem listsC_cons (t : Nat → Nat → Bool) (k : Nat) (told : List Int) (a : Nat) (cs : List Nat) :
    listsC t (k + 1) told (a :: cs) = listsC t k (told ++ [(a : Int)]) (cs.filter (t a)) ++ listsC t (k + 1) told cs := by rw [listsC]

/-- a number's bits are those of a rising list -/
structure IsSet (J : Nat) (cs : List Nat) : Prop where
  up : cs.Pairwise (· < ·)
  lt : ∀ b ∈ cs, b < 16
  mem : ∀ b, J.testBit b = true ↔ b ∈ cs
theorem IsSet.small {J : Nat} {cs : List Nat} (h : IsSet J cs) : J < 65536 := by
  refine Nat.lt_pow_two_of_testBit (n := 16) J fun i hi => ?_
  cases e : J.testBit i with
  | false => rfl
  | true => have := h.lt i ((h.mem i).1 e); omega
theorem IsSet.zero {J : Nat} (h : IsSet J []) : J = 0 := by
  refine Nat.eq_of_testBit_eq fun i => ?_
  rw [Nat.zero_testBit]
  cases e : J.testBit i with
  | false => rfl
  | true => have := (h.mem i).1 e; simp at this
theorem IsSet.pos {J a : Nat} {cs : List Nat} (h : IsSet J (a :: cs)) : J ≠ 0 := by
  intro e
  have := (h.mem a).2 List.mem_cons_self
  rw [e, Nat.zero_testBit] at this
  cases this
theorem IsSet.least {J a : Nat} {cs : List Nat} (h : IsSet J (a :: cs)) : Lib.ctz 16 J = a := by
  have hp := h.pos
  have hs := h.small
  obtain ⟨m, hm, hk⟩ := Lib.ctzFrom_spec 16 J (by omega) hs
  have e : Lib.ctz 16 J = Lib.ctzFrom 16 J := by simp [Lib.ctz, hp]
  rw [e]
  generalize Lib.ctzFrom 16 J = c at *
  have hb : ∀ b, J.testBit b = (decide (c ≤ b) && (2 * m + 1).testBit (b - c)) := fun b => by rw [hm, Nat.testBit_two_pow_mul]
  have h1 : J.testBit c = true := by rw [hb]; simp
  have h2 := (h.mem c).1 h1
  have h3 := (h.mem a).2 List.mem_cons_self
  rw [hb] at h3
  have h4 : c ≤ a := by simp only [Bool.and_eq_true, decide_eq_true_eq] at h3; exact h3.1
  rcases List.mem_cons.1 h2 with h5 | h5
  · exact h5
  · have := (List.pairwise_cons.1 h.up).1 c h5
    omega
theorem bit_off : ∀ a : Fin 16, ∀ b : Fin 16, (65535 - 2 ^ a.val).testBit b.val = decide (b.val ≠ a.val) := by decide
theorem IsSet.tail {J a : Nat} {cs : List Nat} (h : IsSet J (a :: cs)) : IsSet (J &&& (65535 - 2 ^ a)) cs := by
  have ha := h.lt a List.mem_cons_self
  have hp := List.pairwise_cons.1 h.up
  refine ⟨hp.2, fun b hb => h.lt b (List.mem_cons_of_mem _ hb), fun b => ?_⟩
  rw [Nat.testBit_and, Bool.and_eq_true, h.mem, List.mem_cons]
  constructor
  · rintro ⟨h1, h2⟩
    rcases h1 with rfl | h1
    · have := bit_off ⟨b, ha⟩ ⟨b, ha⟩
      simp only [ne_eq, not_true_eq_false, decide_false] at this
      rw [this] at h2
      cases h2
    · exact h1
  · intro hb
    have hb16 := h.lt b (List.mem_cons_of_mem _ hb)
    have := hp.1 b hb
    refine ⟨.inr hb, ?_⟩
    rw [bit_off ⟨a, ha⟩ ⟨b, hb16⟩]
    simp only [ne_eq, decide_eq_true_eq]
    omega
theorem IsSet.inter {J T : Nat} {cs : List Nat} {f : Nat → Bool} (h : IsSet J cs) (hT : ∀ b, b < 16 → T.testBit b = f b) : IsSet (J &&& T) (cs.filter f) := by
  refine ⟨h.up.filter _, fun b hb => h.lt b (List.mem_filter.1 hb).1, fun b => ?_⟩
  rw [Nat.testBit_and, Bool.and_eq_true, h.mem, List.mem_filter]
  constructor
  · rintro ⟨h1, h2⟩
    rw [hT b (h.lt b h1)] at h2
    exact ⟨h1, h2⟩
  · rintro ⟨h1, h2⟩
    exact ⟨h1, by rw [hT b (h.lt b h1)]; exact h2⟩
theorem IsSet.people {n : Nat} (hn : n ≤ 16) : IsSet (2 ^ n - 1) (List.range n) := by
  refine ⟨List.pairwise_lt_range, fun b hb => by have := List.mem_range.1 hb; omega, fun b => ?_⟩
  rw [Nat.testBit_two_pow_sub_one, decide_eq_true_eq, List.mem_range]
end Go.Proofs.Ythddlpghjkiioaa
/-
  THE MODEL's TABLE OF A PARTY, AND THE PARTY OF A TABLE, by their contracts.
-/
namespace Go.Proofs.Ythddlpghjkiioaa
open Go.RowKit

theorem Try.infoRow : (Try.prog.info? 103).map (fun i => (i.zero, i.size, i.bytes)) = some (some (.slice none 0 0), 1, 24) := by kernel_rfl

set_option maxHeartbeats 2000000 in
set_option maxRecDepth 100000 in
theorem paTable_any (p : Int) (l : PL) (A : Option Addr) (c : Nat) (w : World) (hp : isP p l = true) (hA : CRead w w.heap.size A (pcells l)) :
    Calls Try.prog 59 #[.agg #[.int .i64 p, .slice A l.length c]] w (GotTab w p.toNat (adj l)) := by
  obtain ⟨i0, hi, hz0, hz1, hz2⟩ := info_parts Try.infoRow
  obtain ⟨i1, hj, hy0, hy1, hy2⟩ := info_parts Try.infoBool
  obtain ⟨n, rfl⟩ : ∃ n : Nat, p = n := ⟨p.toNat, by have := isP_range hp; omega⟩
  have hn := isP_range hp
  have hlen : l.length ≤ 66 := by have h1 := isP_length hp; have h2 := people_sq hn.1 hn.2; omega
  simp only [Int.toNat_natCast]
  have Hp := Lib.hid hp
  clear hp
  generalize hB : w.heap.size + 1 = B
  have hBw : w.heap.size < B := by omega
  have HB := Lib.hid hB
  have hB0 : w.heap.size + 1 ≤ B := by omega
  have hB1 : B ≤ w.heap.size + 1 := by omega
  clear hB
  go_enter Try.func59, Try.ntmps59
  go_wp2
  go_loopw [3, 4] (fun v i wr => ∃ k : Nat, ∃ G, k ≤ n ∧ i = .int .i64 k ∧ TabG wr B v k n G (fun _ _ => false) ∧ Below B (w.alloc (Obj.cells #[.int .i64 (n : Int), .slice A l.length c] 25)) wr) (fun _ i _ => n - (intOf i).toNat)
  case atStart => exact ⟨0, fun _ => 0, Nat.zero_le _, rfl, TabG.nil _ _ _ _ _, Below.refl _ _⟩
  case round =>
    obtain ⟨k, G, hk, rfl, htab, hb⟩ := hrel
    have hs := hb.size
    simp only [World.size_alloc] at hs
    have u0 : wr.cell? ⟨w.heap.size, 0, none⟩ = some (.int .i64 n) := carry hb (by simp) hBw
    have u1 : wr.cell? ⟨w.heap.size, 1, none⟩ = some (.slice A l.length c) := carry hb (by simp) hBw
    by_cases hlt : k < n
    · have hki : (k : Int) < n := by omega
      go_wp2_with (first
        | (at_make; refine wpList_make_row _ rfl _ _ 103 rfl 4 i1 (.bool false) Try.underlying103 hj hy0 hy1 rfl _ _ n rfl rfl (by rw [hy2]; omega) (by omega) ?_)
        | (at_builtin; refine wpList_append_own _ rfl _ _ 75 rfl B 103 i0 (.slice none 0 0) 1 24 Try.underlying75 hi hz0 hz1 hz2 rfl (by decide) _ _ _ rfl ((htab.own.alloc _).alloc _) ⟨wr.heap.size + 1, 0, none⟩ 1 1 [.slice (some ⟨wr.heap.size, 0, none⟩) n n] rfl rfl (one_cell (by simp)) (one_one rfl) (by unfold maxLen; omega) (by omega) (by simp; omega) ?_; intro v' w1 hown' hgrow _; have htab' := htab.push (by omega) hgrow hown'))
      have hb1 : Below B (w.alloc (Obj.cells #[.int .i64 (n : Int), .slice A l.length c] 25)) w1 := ((hb.alloc (by omega) _).alloc (by simp; omega) _).grown hgrow (by simp; omega) (fun b hb => (htab.own.lt b hb).1)
      clear hown' hgrow
      go_roundw
      case rel => exact ⟨k + 1, _, by omega, by go_num, htab', hb1⟩
      case measure => simp [intOf]; omega
    · have hkl : n = k := by omega
      subst hkl
      have hge : ¬ ((n : Int) < n) := by omega
      obtain ⟨A', c', rfl, _⟩ := own_shape htab.own
      go_wp2
      go_loopw [22] (fun i wx => ∃ m : Nat, m ≤ l.length ∧ i = .int .i64 m ∧ TabG wx B (.slice A' n c') n n G (adj (l.take m)) ∧ Below B (w.alloc (Obj.cells #[.int .i64 (n : Int), .slice A l.length c] 25)) wx) (fun i _ => l.length - (intOf i).toNat)
      case atStart => exact ⟨0, Nat.zero_le _, rfl, by simpa [adj_nil] using htab, hb⟩
      case round =>
        clear htab hb u0 u1 hs
        obtain ⟨m, hm, rfl, htab, hb⟩ := hrel
        have hs := hb.size
        simp only [World.size_alloc] at hs
        have hbw : Below w.heap.size w wr := Below.trans (b := _) (by go_grown) (hb.mono (by omega))
        by_cases hmt : m < l.length
        · obtain ⟨⟨x, y⟩, hx⟩ := getSome l m hmt
          obtain ⟨h0, h1, h2⟩ := goodAt_pair (isP_good Hp.out hmt) hx
          obtain ⟨a, rfl⟩ : ∃ a : Nat, x = a := ⟨x.toNat, by omega⟩
          obtain ⟨b, rfl⟩ : ∃ b : Nat, y = b := ⟨y.toNat, by omega⟩
          obtain ⟨bb, off, rfl, hbb, c0, c1⟩ := (hA.below hbw (Nat.le_refl _)).pair hx
          obtain ⟨g, rfl⟩ := own_form htab.own (by omega)
          have hmi : (m : Int) < (l.length : Int) := by omega
          have han : a < n := by omega
          have hbn : b < n := by omega
          have ha : (a : Int) < n := by omega
          have hb' : (b : Int) < n := h2
          have hGa := htab.blk han
          have hGb := htab.blk hbn
          have Hx := Lib.hid hx
          clear hx
          go_wp2
          generalize hW : wr.alloc (Obj.cells #[.int .i64 (a : Int), .int .i64 (b : Int)] 64) = W
          have tW : TabG W B (.slice (some ⟨g, 0, none⟩) n c') n n G (adj (l.take m)) := by rw [← hW]; exact htab.alloc _
          have bW : Below B (w.alloc (Obj.cells #[.int .i64 (n : Int), .slice (some ⟨bb, off, none⟩) l.length c] 25)) W := by rw [← hW]; exact hb.alloc (by omega) _
          have e0 : W.cell? ⟨wr.heap.size, 0, none⟩ = some (.int .i64 a) := by rw [← hW]; simp
          have e1 : W.cell? ⟨wr.heap.size, 1, none⟩ = some (.int .i64 b) := by rw [← hW]; simp
          clear hW
          have t1 := tW.set (b := b) han true
          have t2 := t1.set (b := a) hbn true
          rw [← adj_snoc] at t2
          have d0 := tW.outer han
          have d1 := tW.cell han hbn
          have d2 := tW.frozen han b
          have d3 := t1.outer hbn
          have d4 := t1.cell hbn han
          have d5 := t1.frozen hbn a
          have e2 : (W.setCell ⟨G a, b, none⟩ (.bool true)).cell? ⟨wr.heap.size, 0, none⟩ = some (.int .i64 a) := by rw [World.cell?_setCell_other _ _ _ _ (by simp)]; exact e0
          have e3 : (W.setCell ⟨G a, b, none⟩ (.bool true)).cell? ⟨wr.heap.size, 1, none⟩ = some (.int .i64 b) := by rw [World.cell?_setCell_other _ _ _ _ (by simp)]; exact e1
          have T2 := Lib.hid t2
          clear t1 t2 tW htab
          refine wp_region_still_tail 8 (by kernel_rfl) (by kernel_rfl) ?_
          simp only [List.take_succ_cons, List.take_zero, List.drop_succ_cons, List.drop_zero]
          repeat still_step
          refine wpStill_nil ?_
          change wpList _ _ _ _ _ (World.drew _)
          go_wp2
          generalize hW2 : (W.setCell ⟨G a, b, none⟩ (.bool true)).drew = W2
          have f0 : W2.cell? ⟨wr.heap.size, 0, none⟩ = some (.int .i64 a) := by rw [← hW2]; exact e2
          have f1 : W2.cell? ⟨wr.heap.size, 1, none⟩ = some (.int .i64 b) := by rw [← hW2]; exact e3
          have f3 : W2.cell? ⟨g, b, none⟩ = some (.slice (some ⟨G b, 0, none⟩) n n) := by rw [← hW2]; exact d3
          have f4 : W2.cell? ⟨G b, a, none⟩ = some (.bool (upd (adj (l.take m)) a b true b a)) := by rw [← hW2]; exact d4
          have f5 : W2.frozen? ⟨G b, a, none⟩ = false := by rw [← hW2]; exact d5
          have b2 : Below B (w.alloc (Obj.cells #[.int .i64 (n : Int), .slice (some ⟨bb, off, none⟩) l.length c] 25)) (W2.setCell ⟨G b, a, none⟩ (.bool true)).drew := by
            rw [← hW2]
            exact (((bW.setCell (p := ⟨G a, b, none⟩) hGa.1 _).drew).setCell (p := ⟨G b, a, none⟩) hGb.1 _).drew
          have t3 : TabG (W2.setCell ⟨G b, a, none⟩ (.bool true)).drew B (.slice (some ⟨g, 0, none⟩) n c') n n G (adj (l.take m ++ [((a : Int), (b : Int))])) := by
            rw [← hW2]
            exact T2.out.of_blocks ⟨rfl, rfl, rfl, Nat.le_refl _, fun _ _ _ => rfl⟩
          have B2 := Lib.hid b2
          have T3 := Lib.hid t3
          clear hW2 d0 d1 d2 d3 d4 d5 e0 e1 e2 e3 T2 bW b2 t3
          refine wp_region_still_tail 8 (by kernel_rfl) (by kernel_rfl) ?_
          simp only [List.take_succ_cons, List.take_zero, List.drop_succ_cons, List.drop_zero]
          repeat still_step
          refine wpStill_nil ?_
          change wpList _ _ _ _ _ (World.drew _)
          go_wp2
          go_roundw
          case rel =>
            refine ⟨m + 1, by omega, by go_num, ?_, B2.out⟩
            rw [List.take_add_one, Hx.out, Option.toList_some]
            exact T3.out
          case measure => simp [intOf]; omega
        · have hml : m = l.length := by omega
          subst hml
          have hgm : ¬ ((l.length : Int) < l.length) := by omega
          go_wp2
          go_ret
          rw [List.take_length] at htab
          exact ⟨A', c', G, rfl, htab.lower (by omega), hbw⟩
end Go.Proofs.Ythddlpghjkiioaa
/-
  LISTS OF NUMBERS UNDER ONE SLICE, each row in a block of the call's own; 'spec.l1Own' of any list; 'spec.trGroups' as a plain list.
-/
namespace Go.Proofs.Ythddlpghjkiioaa
open Go.RowKit

structure LRows (w : World) (B : Nat) (v : Value) (LL : List (List Int)) (hs : List Value) : Prop where
  own : w.ownsRow B 22 1 v LL.length hs
  row : ∀ (i : Nat) (l : List Int), LL[i]? = some l → ∃ A c, hs[i]? = some (Value.slice A l.length c) ∧ w.ownsRow B 3 1 (Value.slice A l.length c) l.length (icells l)
  nil : LL = [] → v = Value.slice none 0 0
section
variable {w w' : World} {B B' : Nat} {v v' v2 : Value} {LL L2 : List (List Int)} {hs hs2 : List Value}
theorem LRows.none (w : World) (B : Nat) : LRows w B (Value.slice Option.none 0 0) [] [] := ⟨World.ownsRow_nil _ _ _ _, fun i l h => by simp at h, fun _ => rfl⟩
theorem LRows.below (h : LRows w B v LL hs) (hb : Below w.heap.size w w') : LRows w' B v LL hs :=
  ⟨own_below h.own hb (Nat.le_refl _), fun i l hi => by obtain ⟨A, c, e, o⟩ := h.row i l hi; exact ⟨A, c, e, own_below o hb (Nat.le_refl _)⟩, h.nil⟩
theorem LRows.lower (h : LRows w B v LL hs) (hB : B' ≤ B) : LRows w B' v LL hs :=
  ⟨own_lower h.own hB, fun i l hi => by obtain ⟨A, c, e, o⟩ := h.row i l hi; exact ⟨A, c, e, own_lower o hB⟩, h.nil⟩
theorem LRows.length (h : LRows w B v LL hs) : hs.length = LL.length := by have := h.own.1; omega
theorem LRows.one (h : LRows w B v LL hs) : ∀ u ∈ hs, u.oneCell' = true := by
  intro u hu
  obtain ⟨i, hi, rfl⟩ := List.getElem_of_mem hu
  have hl := h.length
  obtain ⟨A, c, e, _⟩ := h.row i LL[i] (List.getElem?_eq_getElem (by omega))
  rw [List.getElem?_eq_getElem hi] at e
  simp only [Option.some.injEq] at e
  rw [e]
  rfl
theorem blocks_apart {e e' : TypeId} {size size' n m : Nat} {xs ys : List Value} (h : w.ownsRow B e size v n xs) (h' : w.ownsRow B' e' size' v' m ys) (hne : e ≠ e') : v'.ownBlock = .none ∨ v'.ownBlock ≠ v.ownBlock := by
  rcases h'.2 with ⟨rfl, _⟩ | ⟨g, cap, cur, rfl, _, hg, _⟩
  · exact .inl rfl
  · refine .inr fun e => ?_
    rcases h.2 with ⟨rfl, _⟩ | ⟨g2, cap2, cur2, rfl, _, hg2, _⟩
    · simp [Value.ownBlock] at e
    · have : g = g2 := by simpa [Value.ownBlock] using e
      subst this
      rw [hg] at hg2
      simp only [Option.some.injEq, Obj.cells.injEq] at hg2
      exact hne hg2.2.1.symm
/-- rows appended to rows -/
theorem LRows.append (h : LRows w B v LL hs) (h2 : LRows w B v2 L2 hs2) (hown : w'.ownsRow B 22 1 v' (LL.length + L2.length) (hs ++ hs2)) (hg : w.grownBy w' v.ownBlock) (hn : L2 ≠ []) : LRows w' B v' (LL ++ L2) (hs ++ hs2) := by
  have keep : ∀ A c l, w.ownsRow B 3 1 (.slice A l.length c) l.length (icells l) → w'.ownsRow B 3 1 (.slice A l.length c) l.length (icells l) := fun A c l o => o.kept hg (blocks_apart h.own o (show (22 : TypeId) ≠ 3 by decide))
  refine ⟨by rw [List.length_append]; exact hown, fun i l hi => ?_, fun e => ?_⟩
  · have hl := h.length
    by_cases hlt : i < LL.length
    · rw [List.getElem?_append_left hlt] at hi
      obtain ⟨A, c, e, o⟩ := h.row i l hi
      exact ⟨A, c, by rw [List.getElem?_append_left (by omega)]; exact e, keep A c l o⟩
    · rw [List.getElem?_append_right (by omega)] at hi
      obtain ⟨A, c, e, o⟩ := h2.row _ l hi
      exact ⟨A, c, by rw [List.getElem?_append_right (by omega), hl]; exact e, keep A c l o⟩
  · simp at e
    exact absurd e.2 hn
end
/-- A call came back with lists of numbers. -/
def GotLL (w : World) (LL : List (List Int)) (e : Ending) (w' : World) : Prop := ∃ A c hs, e = .returned (.slice A LL.length c) ∧ LRows w' w.heap.size (.slice A LL.length c) LL hs ∧ Below w.heap.size w w'

set_option maxHeartbeats 1000000 in
set_option maxRecDepth 100000 in
theorem l1Own_all (q : List Int) (A : Option Addr) (c : Nat) (w : World) (hq : q.length ≤ 1048576) (hA : CRead w w.heap.size A (icells q)) (h0 : q = [] → A = none ∧ c = 0) :
    Calls Try.prog 70 #[.slice A q.length c] w fun e w' => ∃ A' c', e = .returned (.slice A' q.length c') ∧ w'.ownsRow w.heap.size 3 1 (.slice A' q.length c') q.length (icells q) ∧ Below w.heap.size w w' := by
  by_cases hz : q = []
  · obtain ⟨rfl, rfl⟩ := h0 hz
    subst hz
    obtain ⟨i0, hi, hz0, hz1, hz2⟩ := info_parts Try.infoInt
    have h1 : (w.alloc (.cells #[] 3)).ownsRow w.heap.size 3 1 (.slice (some ⟨w.heap.size, 0, none⟩) 0 0) 0 [] := World.ownsRow_made w #[] 0 (Nat.le_refl _) (Nat.zero_le _) rfl
    go_enter Try.func70, Try.ntmps70
    go_wp2_with (at_builtin; refine wpList_append_own_none rfl _ _ 22 rfl w.heap.size 3 i0 1 Try.underlying22 hi (.slice (some ⟨w.heap.size, 0, none⟩) 0 0) 0 [] rfl h1 rfl ?_)
    go_ret
    exact ⟨_, _, rfl, h1, by go_grown⟩
  · have hpos : 0 < q.length := by cases q with | nil => exact absurd rfl hz | cons x q => simp
    exact l1Own_any q A c w hq hpos hA

/-! ## The model's candidates -/
def fromQ (q : List Int) : Nat := match q.getLast? with | none => 0 | some x => x.toNat + 1
def candR (t : Nat → Nat → Bool) (n : Nat) (q : List Int) (a : Nat) : List Nat := (List.range' a (n - a)).filter fun b => q.all fun y => t b y.toNat
theorem candR_end (t : Nat → Nat → Bool) (n : Nat) (q : List Int) {a : Nat} (h : n ≤ a) : candR t n q a = [] := by unfold candR; rw [Nat.sub_eq_zero_of_le h]; rfl
theorem candR_no {t : Nat → Nat → Bool} {n : Nat} {q : List Int} {a : Nat} (h : a < n) (hk : (q.all fun y => t a y.toNat) = false) : candR t n q a = candR t n q (a + 1) := by
  unfold candR
  rw [show n - a = (n - (a + 1)) + 1 from by omega, List.range'_succ, List.filter_cons_of_neg (by simp [hk])]
theorem candR_yes {t : Nat → Nat → Bool} {n : Nat} {q : List Int} {a : Nat} (h : a < n) (hk : (q.all fun y => t a y.toNat) = true) : candR t n q a = a :: candR t n q (a + 1) := by
  unfold candR
  rw [show n - a = (n - (a + 1)) + 1 from by omega, List.range'_succ, List.filter_cons_of_pos (by simpa using hk)]
theorem candR_tied {t : Nat → Nat → Bool} (hs : ∀ i j, t i j = t j i) (n : Nat) (q : List Int) (a : Nat) : (candR t n q (a + 1)).filter (t a) = candR t n (q ++ [(a : Int)]) (fromQ (q ++ [(a : Int)])) := by
  unfold candR fromQ
  simp only [List.getLast?_append, List.getLast?_singleton, Option.some_or, Int.toNat_natCast]
  rw [List.filter_filter]
  refine List.filter_congr fun b _ => ?_
  rw [List.all_append]
  simp [hs a b, Bool.and_comm]
end Go.Proofs.Ythddlpghjkiioaa
/-
  A COPY OF A LIST of any length, and what an own row's slice looks like.
-/
namespace Go.Proofs.Ythddlpghjkiioaa
open Go.RowKit

theorem own_none {w : World} {B : Nat} {e : TypeId} {m c : Nat} {A : Option Addr} {xs : List Value} (h : w.ownsRow B e 1 (.slice A m c) m xs) : (A = none ∧ m = 0 ∧ c = 0) ∨ ∃ g, A = some ⟨g, 0, none⟩ := by
  rcases h.2 with ⟨h1, h2⟩ | ⟨g, cap, cur, hv, _⟩
  · simp only [Value.slice.injEq] at h1
    exact .inl ⟨h1.1, h2, h1.2.2⟩
  · simp only [Value.slice.injEq] at hv
    exact .inr ⟨g, hv.1⟩

theorem own_zero {w : World} {B : Nat} {e : TypeId} {m c : Nat} {A : Option Addr} {xs : List Value} (h : w.ownsRow B e 1 (.slice A m c) m xs) : A = none → c = 0 := by
  intro hA
  rcases own_none h with ⟨_, _, h3⟩ | ⟨g, h1⟩
  · exact h3
  · rw [hA] at h1; cases h1
set_option maxHeartbeats 4000000 in
set_option maxRecDepth 100000 in
theorem l1Own_row (q : List Int) (A : Option Addr) (c : Nat) (w : World) (hq : q.length ≤ 1048576) (hA : CRead w w.heap.size A (icells q)) (h0 : A = none → c = 0) :
    Calls Try.prog 70 #[.slice A q.length c] w fun e w' => ∃ A' c', e = .returned (.slice A' q.length c') ∧ w'.ownsRow w.heap.size 3 1 (.slice A' q.length c') q.length (icells q) ∧ Below w.heap.size w w' := by
  by_cases hz : q = []
  · cases A with
    | none => exact l1Own_all q none c w hq hA fun _ => ⟨rfl, h0 rfl⟩
    | some ad =>
      subst hz
      obtain ⟨i0, hi, hz0, hz1, hz2⟩ := info_parts Try.infoInt
      have h1 : (w.alloc (.cells #[] 3)).ownsRow w.heap.size 3 1 (.slice (some ⟨w.heap.size, 0, none⟩) 0 0) 0 [] := World.ownsRow_made w #[] 0 (Nat.le_refl _) (Nat.zero_le _) rfl
      go_enter Try.func70, Try.ntmps70
      go_wp2_with (at_builtin; refine wpList_append_own _ rfl _ _ 22 rfl w.heap.size 3 i0 _ 1 8 Try.underlying22 hi hz0 hz1 hz2 rfl (by decide) (.slice (some ⟨w.heap.size, 0, none⟩) 0 0) 0 [] rfl h1 ad 0 c [] rfl rfl (fun j u hj => by simp at hj) (by simp) (by unfold maxLen; omega) (by omega) (by simp) ?_; intro v1 w1 own1 gr1 _; have k1 : Below w.heap.size w w1 := ((Below.refl _ w).alloc (Nat.le_refl _) _).grown gr1 (by simp) (by intro m hm; simp [Value.ownBlock] at hm; omega); obtain ⟨A1, c1, rfl, _⟩ := own_shape own1)
      go_ret
      exact ⟨A1, c1, rfl, own1, k1⟩
  · exact l1Own_all q A c w hq hA fun e => absurd e hz
end Go.Proofs.Ythddlpghjkiioaa
/-
  'laws.FnExactFirstOfNumbers' returns true, whatever its arguments: out of the contracts of the model's function and of the program's.
-/
namespace Go.Proofs.Ythddlpghjkiioaa
open Go.RowKit

set_option maxHeartbeats 4000000 in
set_option maxRecDepth 100000 in
theorem lawFirstOfNumbers_any (q0 : List Int) (A0 : Option Addr) (c0 : Nat) (W : World) (hl0 : q0.length ≤ maxLen) (hA0 : CRead W W.heap.size A0 (icells q0)) :
    Calls Try.prog 3 #[.slice A0 q0.length c0] W fun e w' => e = .returned (.bool true) ∧ Below W.heap.size W w' := by
  have hone : (0 : Int) ≤ 1 ∧ (1 : Int) ≤ 16777216 := by omega
  by_cases hq0 : (1048576 : Int) < (q0.length : Int)
  · unfold maxLen at *
    go_enter Try.func3, Try.ntmps3
    go_wp2
    go_ret
    exact ⟨rfl, by go_grown⟩
  have hn0 : q0.length ≤ 1048576 := by omega
  obtain ⟨⟨rq, rm, rok⟩, hres⟩ : ∃ r, resFirstOfNumbers q0 = r := ⟨_, rfl⟩
  have hrn : rm.length ≤ 1048576 := by have h := resFirstOfNumbers_len q0; rw [hres] at h; exact h
  have hrl : rm.length ≤ maxLen := by unfold maxLen; omega
  have Hres := Lib.hid hres
  clear hres
  go_enter Try.func3, Try.ntmps3
  go_wp2_with fail
  refine (toIntS_got q0 A0 c0 _ hn0 hA0).mono ?_
  rintro e w1 ⟨T1, d1, rfl, n1, hb1⟩
  have g1 : Below W.heap.size W w1 := hb1
  have s1 := hb1.size
  have k1 : Below W.heap.size W w1 := g1
  have r1 : Lies (.slice T1 q0.length d1) (W.heap.size) w1.heap.size := own_lies n1
  go_wp2_with fail
  refine (specFirstOfNumbers_any q0 _ _ _ hn0 (CRead.of_own n1) (own_zero n1)).mono ?_
  rw [Hres.out]
  rintro e w2 ⟨T2, d2, rfl, n2, hb2⟩
  have g2 : Below w1.heap.size w1 w2 := hb2
  have s2 := hb2.size
  have o2_0 := own_below n1 g2 (Nat.le_refl _)
  have k2 := k1.trans (g2.mono k1.size)
  clear n1
  have r2 : Lies (.slice T2 rm.length d2) (w1.heap.size) w2.heap.size := own_lies n2
  clear o2_0 r1
  go_wp2_with fail
  refine (toIntS_got q0 A0 c0 _ hn0 ((hA0.below (B' := W.heap.size) (Below.trans k2 (by go_grown)) (Nat.le_refl _)).more (by go_size))).mono ?_
  rintro e w4 ⟨T4, d4, rfl, n4, hb4⟩
  simp only [World.size_alloc] at n4
  simp only [World.size_alloc] at hb4
  have g4 : Below w2.heap.size w2 w4 := Below.trans (b := _) (by go_grown) (hb4.mono (by omega))
  have s4 := hb4.size
  simp only [World.size_alloc] at s4
  have f4_0 : w4.cell? ⟨w2.heap.size, 0, none⟩ = some (.int .i64 rq) := carry hb4 (by simp) (by omega)
  have f4_1 : w4.cell? ⟨w2.heap.size, 1, none⟩ = some (.slice T2 rm.length d2) := carry hb4 (by simp) (by omega)
  have o4_0 := own_below n2 g4 (Nat.le_refl _)
  have k4 := k2.trans (g4.mono k2.size)
  clear n2
  have r4 : Lies (.slice T4 q0.length d4) (w2.heap.size + 1) w4.heap.size := own_lies n4
  go_wp2_with fail
  refine (implFirstOfNumbers_any q0 _ _ _ hn0 (CRead.of_own n4)).mono ?_
  rw [Hres.out]
  rintro e w5 ⟨T5, d5, rfl, n5, hb5⟩
  have g5 : Below w4.heap.size w4 w5 := hb5
  have s5 := hb5.size
  have f5_0 := carry g5 f4_0 (by omega)
  have f5_1 := carry g5 f4_1 (by omega)
  have o5_0 := own_below o4_0 g5 (Nat.le_refl _)
  have o5_1 := own_below n4 g5 (Nat.le_refl _)
  have k5 := k4.trans (g5.mono k4.size)
  clear f4_0 f4_1 o4_0 n4
  have r5 : Lies (.slice T5 rm.length d5) (w4.heap.size) w5.heap.size := own_lies n5
  have q6_0 : (w5.alloc (Obj.cells #[.int .i64 rq, .slice T5 rm.length d5] 25)).cell? ⟨w2.heap.size, 0, none⟩ = some (.int .i64 rq) := (World.cell?_alloc_lt _ _ _ (show w2.heap.size < w5.heap.size by omega)).trans f5_0
  have q6_1 : (w5.alloc (Obj.cells #[.int .i64 rq, .slice T5 rm.length d5] 25)).cell? ⟨w2.heap.size, 1, none⟩ = some (.slice T2 rm.length d2) := (World.cell?_alloc_lt _ _ _ (show w2.heap.size < w5.heap.size by omega)).trans f5_1
  go_wp2_with fail
  refine (eqParty_any rq rq rm rm _ _ _ _ _ hrl hrl ((((CRead.of_own n5).below (B' := w5.heap.size) (by go_grown) (Nat.le_refl _)).more (by go_size))) ((((CRead.of_own o5_0).below (B' := w5.heap.size) (by go_grown) (Nat.le_refl _)).more (by go_size)))).mono ?_
  rw [decide_eq_true ⟨rfl, rfl⟩]
  rintro e w7 ⟨rfl, hb7⟩
  simp only [World.size_alloc] at hb7
  have g7 : Below w5.heap.size w5 w7 := Below.trans (b := _) (by go_grown) (hb7.mono (by omega))
  have s7 := hb7.size
  simp only [World.size_alloc] at s7
  have f7_0 := carry g7 f5_0 (by omega)
  have f7_1 := carry g7 f5_1 (by omega)
  have f7_2 : w7.cell? ⟨w5.heap.size, 0, none⟩ = some (.int .i64 rq) := carry hb7 (by simp) (by omega)
  have f7_3 : w7.cell? ⟨w5.heap.size, 1, none⟩ = some (.slice T5 rm.length d5) := carry hb7 (by simp) (by omega)
  have o7_0 := own_below o5_0 g7 (Nat.le_refl _)
  have o7_1 := own_below o5_1 g7 (Nat.le_refl _)
  have o7_2 := own_below n5 g7 (Nat.le_refl _)
  have k7 := k5.trans (g7.mono k5.size)
  clear f5_0 f5_1 o5_0 o5_1 n5 q6_0 q6_1
  go_wp2_with fail
  refine (toIntS_got q0 A0 c0 _ hn0 ((hA0.below k7 (Nat.le_refl _)).more k7.size)).mono ?_
  rintro e w8 ⟨T8, d8, rfl, n8, hb8⟩
  have g8 : Below w7.heap.size w7 w8 := hb8
  have s8 := hb8.size
  have f8_0 := carry g8 f7_0 (by omega)
  have f8_1 := carry g8 f7_1 (by omega)
  have f8_2 := carry g8 f7_2 (by omega)
  have f8_3 := carry g8 f7_3 (by omega)
  have o8_0 := own_below o7_0 g8 (Nat.le_refl _)
  have o8_1 := own_below o7_1 g8 (Nat.le_refl _)
  have o8_2 := own_below o7_2 g8 (Nat.le_refl _)
  have k8 := k7.trans (g8.mono k7.size)
  clear f7_0 f7_1 f7_2 f7_3 o7_0 o7_1 o7_2
  have r8 : Lies (.slice T8 q0.length d8) (w7.heap.size) w8.heap.size := own_lies n8
  go_wp2_with fail
  refine (eqIntS_any q0 q0 _ _ _ _ _ hl0 hl0 (CRead.of_own o8_1) (CRead.of_own n8)).mono ?_
  rw [decide_eq_true rfl]
  rintro e w9 ⟨rfl, hb9⟩
  have g9 : Below w8.heap.size w8 w9 := hb9
  have s9 := hb9.size
  have f9_0 := carry g9 f8_0 (by omega)
  have f9_1 := carry g9 f8_1 (by omega)
  have f9_2 := carry g9 f8_2 (by omega)
  have f9_3 := carry g9 f8_3 (by omega)
  have o9_0 := own_below o8_0 g9 (Nat.le_refl _)
  have o9_1 := own_below o8_1 g9 (Nat.le_refl _)
  have o9_2 := own_below o8_2 g9 (Nat.le_refl _)
  have o9_3 := own_below n8 g9 (Nat.le_refl _)
  have k9 := k8.trans (g9.mono k8.size)
  clear f8_0 f8_1 f8_2 f8_3 o8_0 o8_1 o8_2 n8
  clear o9_3 r8
  go_wp2_with fail
  refine (markIntS_any q0 _ _ _ (1) _ _ rfl hn0 (by omega) o9_1).mono ?_
  rintro e w10 ⟨rfl, n10, hg10⟩
  have s10 := hg10.size
  have f10_0 := carryG hg10 r4 f9_0 (by omega)
  have f10_1 := carryG hg10 r4 f9_1 (by omega)
  have f10_2 := carryG hg10 r4 f9_2 (by omega)
  have f10_3 := carryG hg10 r4 f9_3 (by omega)
  have o10_0 := keptG hg10 r4 o9_0 r2 (by omega)
  have o10_2 := keptG hg10 r4 o9_2 r5 (by omega)
  have k10 := belowG k9 hg10 r4 k9.size (by omega)
  clear f9_0 f9_1 f9_2 f9_3 o9_0 o9_1 o9_2
  have hmk : ¬ (1 + (q0.length : Int) < 0) := by omega
  go_wp2_with fail
  refine (eqParty_any rq rq rm rm _ _ _ _ _ hrl hrl (CRead.of_own o10_2) (CRead.of_own o10_0)).mono ?_
  rw [decide_eq_true ⟨rfl, rfl⟩]
  rintro e w11 ⟨rfl, hb11⟩
  have g11 : Below w10.heap.size w10 w11 := hb11
  have s11 := hb11.size
  have f11_0 := carry g11 f10_0 (by omega)
  have f11_1 := carry g11 f10_1 (by omega)
  have f11_2 := carry g11 f10_2 (by omega)
  have f11_3 := carry g11 f10_3 (by omega)
  have o11_0 := own_below o10_0 g11 (Nat.le_refl _)
  have o11_1 := own_below n10 g11 (Nat.le_refl _)
  have o11_2 := own_below o10_2 g11 (Nat.le_refl _)
  have k11 := k10.trans (g11.mono k10.size)
  clear f10_0 f10_1 f10_2 f10_3 o10_0 n10 o10_2
  clear o11_1 r4
  go_wp2_with fail
  refine (markParty_any rq rm _ _ _ 1 _ _ rfl hrn hone o11_2).mono ?_
  rintro e w12 ⟨rfl, n12, hg12⟩
  have s12 := hg12.size
  have f12_0 := carryG hg12 r5 f11_0 (by omega)
  have f12_1 := carryG hg12 r5 f11_1 (by omega)
  have f12_2 := carryG hg12 r5 f11_2 (by omega)
  have f12_3 := carryG hg12 r5 f11_3 (by omega)
  have o12_0 := keptG hg12 r5 o11_0 r2 (by omega)
  have k12 := belowG k11 hg12 r5 k11.size (by omega)
  clear f11_0 f11_1 f11_2 f11_3 o11_0 o11_2
  have hmr : ¬ (1 + 2 * (rm.length : Int) < 0) := by omega
  go_wp2_with fail
  refine (heldParty_any _ _ _ _ 1 _ hrn hone (CRead.of_own n12)).mono ?_
  rintro e w13 ⟨rfl, hb13⟩
  have g13 : Below w12.heap.size w12 w13 := hb13
  have s13 := hb13.size
  have f13_0 := carry g13 f12_0 (by omega)
  have f13_1 := carry g13 f12_1 (by omega)
  have f13_2 := carry g13 f12_2 (by omega)
  have f13_3 := carry g13 f12_3 (by omega)
  have o13_0 := own_below o12_0 g13 (Nat.le_refl _)
  have o13_1 := own_below n12 g13 (Nat.le_refl _)
  have k13 := k12.trans (g13.mono k12.size)
  clear f12_0 f12_1 f12_2 f12_3 o12_0 n12
  go_wp2_with fail
  refine (toIntS_got q0 A0 c0 _ hn0 ((hA0.below k13 (Nat.le_refl _)).more k13.size)).mono ?_
  rintro e w14 ⟨T14, d14, rfl, n14, hb14⟩
  have g14 : Below w13.heap.size w13 w14 := hb14
  have s14 := hb14.size
  have f14_0 := carry g14 f13_0 (by omega)
  have f14_1 := carry g14 f13_1 (by omega)
  have f14_2 := carry g14 f13_2 (by omega)
  have f14_3 := carry g14 f13_3 (by omega)
  have o14_0 := own_below o13_0 g14 (Nat.le_refl _)
  have o14_1 := own_below o13_1 g14 (Nat.le_refl _)
  have k14 := k13.trans (g14.mono k13.size)
  clear f13_0 f13_1 f13_2 f13_3 o13_0 o13_1
  have r14 : Lies (.slice T14 q0.length d14) (w13.heap.size) w14.heap.size := own_lies n14
  go_wp2_with fail
  refine (implFirstOfNumbers_any q0 _ _ _ hn0 (CRead.of_own n14)).mono ?_
  rw [Hres.out]
  rintro e w15 ⟨T15, d15, rfl, n15, hb15⟩
  have g15 : Below w14.heap.size w14 w15 := hb15
  have s15 := hb15.size
  have f15_0 := carry g15 f14_0 (by omega)
  have f15_1 := carry g15 f14_1 (by omega)
  have f15_2 := carry g15 f14_2 (by omega)
  have f15_3 := carry g15 f14_3 (by omega)
  have o15_0 := own_below o14_0 g15 (Nat.le_refl _)
  have o15_1 := own_below o14_1 g15 (Nat.le_refl _)
  have o15_2 := own_below n14 g15 (Nat.le_refl _)
  have k15 := k14.trans (g15.mono k14.size)
  clear f14_0 f14_1 f14_2 f14_3 o14_0 o14_1 n14
  have r15 : Lies (.slice T15 rm.length d15) (w14.heap.size) w15.heap.size := own_lies n15
  have q16_0 : (w15.alloc (Obj.cells #[.int .i64 rq, .slice T15 rm.length d15] 25)).cell? ⟨w2.heap.size, 0, none⟩ = some (.int .i64 rq) := (World.cell?_alloc_lt _ _ _ (show w2.heap.size < w15.heap.size by omega)).trans f15_0
  have q16_1 : (w15.alloc (Obj.cells #[.int .i64 rq, .slice T15 rm.length d15] 25)).cell? ⟨w2.heap.size, 1, none⟩ = some (.slice T2 rm.length d2) := (World.cell?_alloc_lt _ _ _ (show w2.heap.size < w15.heap.size by omega)).trans f15_1
  have q16_2 : (w15.alloc (Obj.cells #[.int .i64 rq, .slice T15 rm.length d15] 25)).cell? ⟨w5.heap.size, 0, none⟩ = some (.int .i64 rq) := (World.cell?_alloc_lt _ _ _ (show w5.heap.size < w15.heap.size by omega)).trans f15_2
  have q16_3 : (w15.alloc (Obj.cells #[.int .i64 rq, .slice T15 rm.length d15] 25)).cell? ⟨w5.heap.size, 1, none⟩ = some (.slice T5 rm.length d5) := (World.cell?_alloc_lt _ _ _ (show w5.heap.size < w15.heap.size by omega)).trans f15_3
  clear o15_2 r14
  go_wp2_with fail
  refine (eqParty_any rq rq rm rm _ _ _ _ _ hrl hrl ((((CRead.of_own n15).below (B' := w15.heap.size) (by go_grown) (Nat.le_refl _)).more (by go_size))) ((((CRead.of_own o15_0).below (B' := w15.heap.size) (by go_grown) (Nat.le_refl _)).more (by go_size)))).mono ?_
  rw [decide_eq_true ⟨rfl, rfl⟩]
  rintro e w17 ⟨rfl, hb17⟩
  simp only [World.size_alloc] at hb17
  have g17 : Below w15.heap.size w15 w17 := Below.trans (b := _) (by go_grown) (hb17.mono (by omega))
  have s17 := hb17.size
  simp only [World.size_alloc] at s17
  have f17_0 := carry g17 f15_0 (by omega)
  have f17_1 := carry g17 f15_1 (by omega)
  have f17_2 := carry g17 f15_2 (by omega)
  have f17_3 := carry g17 f15_3 (by omega)
  have f17_4 : w17.cell? ⟨w15.heap.size, 0, none⟩ = some (.int .i64 rq) := carry hb17 (by simp) (by omega)
  have f17_5 : w17.cell? ⟨w15.heap.size, 1, none⟩ = some (.slice T15 rm.length d15) := carry hb17 (by simp) (by omega)
  have o17_0 := own_below o15_0 g17 (Nat.le_refl _)
  have o17_1 := own_below o15_1 g17 (Nat.le_refl _)
  have o17_2 := own_below n15 g17 (Nat.le_refl _)
  have k17 := k15.trans (g17.mono k15.size)
  clear f15_0 f15_1 f15_2 f15_3 o15_0 o15_1 n15 q16_0 q16_1 q16_2 q16_3
  go_wp2_with fail
  refine (heldParty_any _ _ _ _ 1 _ hrn hone (CRead.of_own o17_1)).mono ?_
  rintro e w18 ⟨rfl, hb18⟩
  have g18 : Below w17.heap.size w17 w18 := hb18
  have s18 := hb18.size
  have f18_0 := carry g18 f17_0 (by omega)
  have f18_1 := carry g18 f17_1 (by omega)
  have f18_2 := carry g18 f17_2 (by omega)
  have f18_3 := carry g18 f17_3 (by omega)
  have f18_4 := carry g18 f17_4 (by omega)
  have f18_5 := carry g18 f17_5 (by omega)
  have o18_0 := own_below o17_0 g18 (Nat.le_refl _)
  have o18_1 := own_below o17_1 g18 (Nat.le_refl _)
  have o18_2 := own_below o17_2 g18 (Nat.le_refl _)
  have k18 := k17.trans (g18.mono k17.size)
  clear f17_0 f17_1 f17_2 f17_3 f17_4 f17_5 o17_0 o17_1 o17_2
  go_wp2
  go_ret
  exact ⟨rfl, k18⟩
end Go.Proofs.Ythddlpghjkiioaa
/-
  THE PROGRAM's HEAD, LOOKED AT ONCE: which make it is, and that a call may enter it. (The head's text is long: the kernel must not read it twice.)
-/
namespace Go.Proofs.Ythddlpghjkiioaa

theorem make_of {P : Program} {rest : List (List Char)} (h : behindMainWord (wordsSigns P.initOrder.toList) = "cut".toList :: rest) : P.make = some .cut := by
  unfold Program.make
  rw [h]
  rfl
theorem strip_cut (rest : List (List Char)) : stripLifts liftWords ("cut".toList :: rest) = ([], "cut".toList :: rest) := rfl
theorem lifts_of {P : Program} {rest : List (List Char)} (h : behindMainWord (wordsSigns P.initOrder.toList) = "cut".toList :: rest) : P.headLifts = [] := by
  unfold Program.headLifts
  rw [h, strip_cut]
  rfl
theorem final_of {P : Program} {rest : List (List Char)} (h : behindMainWord (wordsSigns P.initOrder.toList) = "cut".toList :: rest) : P.liftsFinal = false := by
  unfold Program.liftsFinal
  rw [lifts_of h, h]
  rfl
theorem enter_of {P : Program} {rest : List (List Char)} (h : behindMainWord (wordsSigns P.initOrder.toList) = "cut".toList :: rest) (h1 : P.laysLater = false) (h2 : P.bearsReflect = false) (h3 : P.doorFits [] = true) : P.mayEnter = true := by
  unfold Program.mayEnter
  rw [h]
  show (_ || _ || _) = true
  rw [strip_cut, h1, h2, h3]
  rfl
end Go.Proofs.Ythddlpghjkiioaa
/-
  THE PROGRAM's CLOSED FACTS, EACH ONCE; and how a row's facts are put together out of them.
-/
namespace Go.Proofs.Ythddlpghjkiioaa
open Go.ChangeShapes Go.WideShapes Go.ChangeAt Go.RowKit

def headSigns : List Char := ([104, 97, 114, 110, 101, 115, 115, 32, 56, 99, 49, 98, 48, 55, 52, 50, 97, 97, 50, 57, 102, 50, 97, 52, 101, 54, 98, 49, 51, 53, 52, 100, 54, 51, 51, 102, 101, 97, 54, 55, 101, 51, 48, 54, 97, 53, 49, 97, 51, 100, 49, 99, 52, 54, 99, 54, 48, 52, 50, 48, 53, 48, 53, 52, 48, 54, 50, 50, 54, 102, 54, 54, 32, 99, 117, 116, 32, 97, 116, 32, 108, 111, 111, 112, 46, 101, 120, 97, 109, 112, 108, 101, 47, 103, 48, 49, 50, 53, 55, 47, 108, 97, 119, 115, 46, 70, 110, 69, 120, 97, 99, 116, 70, 105, 114, 115, 116, 79, 102, 78, 117, 109, 98, 101, 114, 115, 32, 108, 111, 111, 112, 46, 101, 120, 97, 109, 112, 108, 101, 47, 103, 48, 49, 50, 53, 55, 47, 108, 97, 119, 115, 46, 70, 110, 69, 120, 97, 99, 116, 70, 101, 119, 101, 115, 116, 67, 111, 108, 111, 117, 114, 115, 32, 108, 111, 111, 112, 46, 101, 120, 97, 109, 112, 108, 101, 47, 103, 48, 49, 50, 53, 55, 47, 108, 97, 119, 115, 46, 70, 110, 69, 120, 97, 99, 116, 70, 105, 114, 115, 116, 67, 111, 108, 111, 117, 114, 105, 110, 103, 32, 108, 111, 111, 112, 46, 101, 120, 97, 109, 112, 108, 101, 47, 103, 48, 49, 50, 53, 55, 47, 108, 97, 119, 115, 46, 70, 110, 69, 120, 97, 99, 116, 67, 111, 117, 110, 116, 67, 111, 108, 111, 117, 114, 105, 110, 103, 115, 32, 108, 111, 111, 112, 46, 101, 120, 97, 109, 112, 108, 101, 47, 103, 48, 49, 50, 53, 55, 47, 108, 97, 119, 115, 46, 70, 110, 69, 120, 97, 99, 116, 70, 101, 119, 101, 115, 116, 71, 114, 111, 117, 112, 115, 32, 108, 111, 111, 112, 46, 101, 120, 97, 109, 112, 108, 101, 47, 103, 48, 49, 50, 53, 55, 47, 108, 97, 119, 115, 46, 70, 110, 69, 120, 97, 99, 116, 71, 114, 111, 117, 112, 115, 79, 102, 80, 97, 114, 116, 121, 32, 108, 111, 111, 112, 46, 101, 120, 97, 109, 112, 108, 101, 47, 103, 48, 49, 50, 53, 55, 47, 108, 97, 119, 115, 46, 70, 110, 69, 120, 97, 99, 116, 70, 105, 114, 115, 116, 65, 118, 111, 105, 100, 105, 110, 103, 32, 108, 111, 111, 112, 46, 101, 120, 97, 109, 112, 108, 101, 47, 103, 48, 49, 50, 53, 55, 47, 108, 97, 119, 115, 46, 70, 110, 69, 120, 97, 99, 116, 67, 111, 117, 110, 116, 65, 118, 111, 105, 100, 105, 110, 103] : List Nat).map Char.ofNat
set_option maxRecDepth 100000 in
theorem Try.initOrder_is : Try.prog.initOrder = String.ofList headSigns := by kernel_rfl
theorem Try.initOrder_signs : Try.prog.initOrder.toList = headSigns := by rw [Try.initOrder_is]; exact String.toList_ofList
set_option maxRecDepth 100000 in
theorem head_words : (behindMainWord (wordsSigns headSigns)).take 1 = ["cut".toList] := by kernel_rfl
theorem Try.words : ∃ rest, behindMainWord (wordsSigns Try.prog.initOrder.toList) = "cut".toList :: rest := by
  rw [Try.initOrder_signs]
  have h := List.take_append_drop 1 (behindMainWord (wordsSigns headSigns))
  rw [head_words] at h
  exact ⟨_, h.symm⟩
theorem Try.make : Try.prog.make = some .cut := by obtain ⟨_, h⟩ := Try.words; exact make_of h
theorem Try.liftsFinal : Try.prog.liftsFinal = false := by obtain ⟨_, h⟩ := Try.words; exact final_of h
theorem Try.laysLater : Try.prog.laysLater = false := by kernel_rfl
theorem Try.bearsReflect : Try.prog.bearsReflect = false := by kernel_rfl
theorem Try.doorFits : Try.prog.doorFits [] = true := by kernel_rfl
theorem Try.mayEnter : Try.prog.mayEnter = true := by obtain ⟨_, h⟩ := Try.words; exact enter_of h Try.laysLater Try.bearsReflect Try.doorFits
theorem Try.mapsRowed : mapsRowed Try.prog = true := by kernel_rfl
theorem Try.stops : (Try.prog.stops == []) = true := by kernel_rfl
theorem Try.stopKnobs : (Try.prog.stopKnobs == []) = true := by kernel_rfl
theorem Try.plainKeys : Try.prog.plainKeys = true := by kernel_rfl
theorem Try.stopsHeard : Try.prog.stopsHeard = true := by kernel_rfl

/-- What the types of one law give: closed facts on its parameters and its result. -/
def typeFacts (P : Program) (fn : Func) (s : ChangeSpec) (c : OpenClaim) : Bool :=
  fn.params.all (P.readableRec ·) && namedTie P c.named s.vars && (c.stops == []) && (c.knobs == []) &&
  (c.maps == (fn.params.toList ++ s.plain.varTypes P).any (P.mapsRec ·)) && (c.ifaces == (fn.params.toList ++ s.plain.varTypes P).any (P.ifacesRec ·)) && (c.mapsOut == P.mapsAmong fn.resultTypes.toList) &&
  (c.loops == (fn.params.toList ++ s.plain.varTypes P).any (P.loopsFrom ·)) && (c.wideKeys == (fn.params.toList ++ s.plain.varTypes P ++ fn.resultTypes.toList).any (P.wideKeysFrom ·)) &&
  s.vars.all (P.varReadable ·) && fn.resultTypes.all (fun t => P.readableRec t && decide (t < P.types.size)) && (c.ifacesOut == fn.resultTypes.toList.any (P.ifacesRec ·)) && (c.loopsOut == fn.resultTypes.toList.any (P.loopsFrom ·)) && c.shortTexts.isNone &&
  (c.kinds == (if c.domain.isEmpty then [] else fn.params.toList.map fun t => match P.underlying t with | some (.int k) => some k | _ => none)) && (c.pinned == c.pinnedBy) &&
  (c.veiled == (fn.params.toList ++ s.plain.varTypes P ++ fn.resultTypes.toList).any (P.veiledRec ·)) && c.veiledFits P fn.params.toList (fn.params.toList ++ s.plain.varTypes P ++ fn.resultTypes.toList)
theorem joined_all {P : Program} {f : FuncId} {fn : Func} {s : ChangeSpec} {c : OpenClaim} (k1 : c.wf (OpenSpec.ofChange s) = true) (kt : typeFacts P fn s c = true)
    (k10 : (c.inPlace == P.inPlace f) = true) (k11 : (c.unfollowed == P.unfollowed f) = true) (k12 : (c.recurses == P.recurses f) = true) (k13 : (c.named == P.varsNamed f) = true)
    (e2 : laidOutB P = true) (e3 : mapsRowed P = true) (e7 : (P.stops == []) = true) (e9 : (P.stopKnobs == []) = true) (e22 : (c.plainKeys == P.plainKeys) = true) (e23 : P.stopsHeard = true) (e24 : P.mayEnter = true)
    (e24b : (c.lifted == P.liftsFinal) = true) (e24c : (P.make == some c.make) = true) : joinedFacts P f fn s c = true := by
  unfold typeFacts at kt
  unfold joinedFacts
  simp only [Bool.and_eq_true] at kt ⊢
  obtain ⟨⟨⟨⟨⟨⟨⟨⟨⟨⟨⟨⟨⟨⟨⟨⟨⟨t1, t2⟩, t3⟩, t4⟩, t5⟩, t6⟩, t7⟩, t8⟩, t9⟩, t10⟩, t11⟩, t12⟩, t13⟩, t14⟩, t15⟩, t16⟩, t17⟩, t18⟩ := kt
  exact ⟨⟨⟨⟨⟨⟨⟨⟨⟨⟨⟨⟨⟨⟨⟨⟨⟨⟨⟨⟨⟨⟨⟨⟨⟨⟨⟨⟨⟨⟨⟨k1, e2⟩, e3⟩, t1⟩, t2⟩, t3⟩, e7⟩, t4⟩, e9⟩, k10⟩, k11⟩, k12⟩, k13⟩, t5⟩, t6⟩, t7⟩, t8⟩, t9⟩, t10⟩, t11⟩, t12⟩, t13⟩, e22⟩, t14⟩, e23⟩, e24⟩, e24b⟩, e24c⟩, t15⟩, t16⟩, t17⟩, t18⟩
theorem joined_of {f : FuncId} {fn : Func} {s : ChangeSpec} {c : OpenClaim} (k1 : c.wf (OpenSpec.ofChange s) = true) (kt : typeFacts Try.prog fn s c = true)
    (k10 : (c.inPlace == Try.prog.inPlace f) = true) (k11 : (c.unfollowed == Try.prog.unfollowed f) = true) (k12 : (c.recurses == Try.prog.recurses f) = true) (k13 : (c.named == Try.prog.varsNamed f) = true)
    (k22 : c.plainKeys = true) (k24b : c.lifted = false) (k24c : c.make = .cut) : joinedFacts Try.prog f fn s c = true :=
  joined_all k1 kt k10 k11 k12 k13 Try.laidOut Try.mapsRowed Try.stops Try.stopKnobs (by rw [k22, Try.plainKeys]; rfl) Try.stopsHeard Try.mayEnter (by rw [k24b, Try.liftsFinal]; rfl) (by rw [k24c, Try.make]; rfl)
end Go.Proofs.Ythddlpghjkiioaa
