/-
  Texts put together for the claim of 'IsWindmill' (pack 3): MillP, Some, NumsW, Clone, Shelf, SortI, EqP, Idx, Has, Poli, Meet, MeetW.
-/
import Derived.Test.YthpapkfpcijpoaaIsWindmillP1
import Derived.Test.YthpapkfpcijpoaaIsWindmillP2
import Derived.Lib.SliceRun
import Derived.Deep.LoopGhost
import Derived.Deep.Slices
import Derived.WideShapes
import Derived.Shelf.SlicesE.Clone
import Derived.Shelf.SlicesG.SearchI
import Derived.Shelf.SlicesG.Turned
import Derived.Shelf.SlGeneric
import Derived.Ground.SlgnProg
import Derived.Ground.SlsfProg
import Derived.Shelf.SlSortCmp.NoneTotal
import Derived.Test.YthpapkfpcijpoaaProg
import Derived.Lib.OwnBridge
import Derived.Lib.SortBridge
import Derived.Lib.Slices
/-
  WINDMILLS TOLD BY NUMBERS OF FRIENDS, in pure terms.
-/
namespace Go.Proofs.Ythpapkfpcijpoaa
open Go.RowKit

theorem sum_set : ∀ {q : List Int} {a : Nat} {u v : Int}, q[a]? = some u → sumI (q.set a v) = sumI q + (v - u)
  | [], a, _, _, h => by simp at h
  | x :: q, 0, u, v, h => by
    simp only [List.getElem?_cons_zero, Option.some.injEq] at h
    subst h
    rw [List.set_cons_zero, sumI_cons, sumI_cons]
    omega
  | x :: q, a + 1, u, v, h => by
    rw [List.getElem?_cons_succ] at h
    rw [List.set_cons_succ, sumI_cons, sumI_cons, sum_set h]
    omega
theorem sum_bump {q : List Int} {a : Nat} (h : a < q.length) : sumI (bump q (a : Int)) = sumI q + 1 := by
  obtain ⟨u, hu⟩ := getSome q a h
  rw [bump_at hu, sum_set hu]
  omega
theorem sum_numsOf {n : Nat} {l : PL} (h : isP n l = true) : sumI (numsOf n l) = 2 * l.length := by
  have hl := (isP_list h).2.2.1
  have key : ∀ m, m ≤ l.length → sumI (numsOf n (l.take m)) = 2 * m := by
    intro m
    induction m with
    | zero =>
      intro _
      have : ∀ k : Nat, sumI (List.replicate k 0) = 0 := fun k => by
        induction k with
        | zero => rfl
        | succ k ih => rw [List.replicate_succ, sumI_cons, ih]; rfl
      simpa [numsOf] using this n
    | succ m ih =>
      intro hm
      obtain ⟨⟨x, y⟩, hx⟩ := getSome l m (by omega)
      have h0 := hl _ (List.mem_of_getElem? hx)
      simp only at h0
      obtain ⟨a, rfl⟩ : ∃ a : Nat, x = a := ⟨x.toNat, by omega⟩
      obtain ⟨b, rfl⟩ : ∃ b : Nat, y = b := ⟨y.toNat, by omega⟩
      rw [List.take_add_one, hx, Option.toList_some, numsOf_snoc]
      simp only
      rw [sum_bump (by rw [bump_length, numsOf_length]; omega), sum_bump (by rw [numsOf_length]; omega), ih (by omega)]
      omega
  have := key l.length (Nat.le_refl _)
  rwa [List.take_length] at this
theorem all_two : ∀ {q : List Int}, (∀ x ∈ q, 2 ≤ x) → sumI q = 2 * q.length → ∀ x ∈ q, x = 2
  | [], _, _, x, hx => by cases hx
  | y :: q, h2, hs, x, hx => by
    rw [sumI_cons] at hs
    simp only [List.length_cons] at hs
    have hy := h2 y List.mem_cons_self
    have hge : ∀ {q : List Int}, (∀ x ∈ q, 2 ≤ x) → 2 * (q.length : Int) ≤ sumI q := by
      intro q
      induction q with
      | nil => intro _; exact Int.le_refl _
      | cons z q ih =>
        intro h
        rw [sumI_cons, List.length_cons]
        have := ih fun x hx => h x (List.mem_cons_of_mem _ hx)
        have := h z List.mem_cons_self
        omega
    have h3 := hge fun x hx => h2 x (List.mem_cons_of_mem _ hx)
    rcases List.mem_cons.1 hx with rfl | hx
    · omega
    · exact all_two (fun x hx => h2 x (List.mem_cons_of_mem _ hx)) (by omega) x hx
/-- the model's test -/
def millB (q : List Int) (m : Int) : Bool := decide (q.length = 1) || (q.all (fun d => decide (d = (q.length : Int) - 1 ∨ d = 2)) && q.any (fun d => decide (d = (q.length : Int) - 1)) && decide (2 * m = 3 * ((q.length : Int) - 1)))
/-- the program's test of the numbers that fall -/
def millF (s : List Int) : Bool := decide (s.getD 0 0 = (s.length : Int) - 1) && !(s.drop 1).any fun d => decide (d ≠ 2)
theorem sum_two : ∀ {q : List Int}, (∀ x ∈ q, x = 2) → sumI q = 2 * q.length
  | [], _ => rfl
  | y :: q, h => by
    rw [sumI_cons, h y List.mem_cons_self, sum_two fun x hx => h x (List.mem_cons_of_mem _ hx), List.length_cons]
    omega
theorem mill_same {q s : List Int} {m : Int} (hp : s.Perm q) (hs : s.Pairwise fun x y => y ≤ x) (hb : ∀ x ∈ q, 0 ≤ x ∧ x ≤ (q.length : Int) - 1) (hm : sumI q = 2 * m) (h0 : 0 < q.length) : millF s = millB q m := by
  have hlen := hp.length_eq
  have hsum := sumI_perm hp
  have hbs : ∀ x ∈ s, 0 ≤ x ∧ x ≤ (s.length : Int) - 1 := fun x hx => by rw [hlen]; exact hb x (hp.mem_iff.1 hx)
  cases s with
  | nil => simp at hlen; omega
  | cons x r =>
    rw [sumI_cons] at hsum
    rw [List.length_cons] at hlen
    have hxr := (List.pairwise_cons.1 hs).1
    have hx := hbs x List.mem_cons_self
    rw [List.length_cons] at hx
    rw [Bool.eq_iff_iff]
    simp only [millF, millB, List.getD_cons_zero, List.drop_succ_cons, List.drop_zero, Bool.and_eq_true, Bool.or_eq_true, decide_eq_true_eq, Bool.not_eq_true', List.length_cons]
    constructor
    · rintro ⟨h1, h2⟩
      have hall : ∀ y ∈ r, y = 2 := fun y hy => by
        have := List.any_eq_false.1 h2 y hy
        simpa using this
      have h3 := sum_two hall
      right
      refine ⟨⟨?_, ?_⟩, ?_⟩
      · rw [List.all_eq_true]
        intro y hy
        rcases List.mem_cons.1 (hp.mem_iff.2 hy) with rfl | hy
        · exact decide_eq_true (by omega)
        · exact decide_eq_true (.inr (hall y hy))
      · rw [List.any_eq_true]
        exact ⟨x, hp.mem_iff.1 List.mem_cons_self, decide_eq_true (by omega)⟩
      · omega
    · rintro (h1 | ⟨⟨h1, h2⟩, h3⟩)
      · have hr : r = [] := List.eq_nil_of_length_eq_zero (by omega)
        subst hr
        simp only [List.length_nil] at *
        refine ⟨by omega, rfl⟩
      · obtain ⟨c, hc, hc2⟩ := List.any_eq_true.1 h2
        have hc3 : c = (q.length : Int) - 1 := of_decide_eq_true hc2
        have hx2 : x = (q.length : Int) - 1 := by
          rcases List.mem_cons.1 (hp.mem_iff.2 hc) with e | hcr
          · omega
          · have := hxr c hcr; omega
        have hmem : ∀ y ∈ r, y = (q.length : Int) - 1 ∨ y = 2 := fun y hy => of_decide_eq_true (List.all_eq_true.1 h1 y (hp.mem_iff.1 (List.mem_cons_of_mem _ hy)))
        refine ⟨by omega, ?_⟩
        have hall : ∀ y ∈ r, y = 2 := by
          by_cases h4 : q.length = 2
          · omega
          · by_cases h5 : q.length = 1
            · have hr : r = [] := List.eq_nil_of_length_eq_zero (by omega)
              subst hr
              intro y hy
              cases hy
            · refine all_two (fun y hy => ?_) (by omega)
              rcases hmem y hy with e | e <;> omega
        rw [List.any_eq_false]
        intro y hy
        simpa using hall y hy
def resIsWindmill (p : Int) (l : PL) : Bool × Bool := if isP p l && decide (0 < p) then (millB (numsOf p.toNat l) l.length, true) else (false, false)
end Go.Proofs.Ythpapkfpcijpoaa
/-
  A PARTY OF AT LEAST ONE PERSON: the model's test; the greater of two numbers.
-/
namespace Go.Proofs.Ythpapkfpcijpoaa
open Go.RowKit

set_option maxHeartbeats 1000000 in
theorem cfSome_any (p : Int) (l : PL) (A : Option Addr) (c : Nat) (w : World) (hl : l.length ≤ 1048576) (hA : CRead w w.heap.size A (pcells l)) :
    Calls Try.prog 58 #[.agg #[.int .i64 p, .slice A l.length c]] w fun e w' => e = .returned (.bool (isP p l && decide (0 < p))) ∧ Below w.heap.size w w' := by
  have hr : CRead (w.alloc (Obj.cells #[.int .i64 p, .slice A l.length c] 31)) (w.alloc (Obj.cells #[.int .i64 p, .slice A l.length c] 31)).heap.size A (pcells l) := (hA.below (B' := w.heap.size) (by go_grown) (Nat.le_refl _)).more (by go_size)
  have call := paGood_any p l A c _ hl hr
  cases hp : isP p l with
  | false =>
    rw [hp] at call
    have Call := Lib.hid call
    clear call hp
    rw [Bool.false_and]
    go_enter Try.func58, Try.ntmps58
    go_wp2_with fail
    refine Call.out.mono ?_
    rintro e w2 ⟨rfl, hb2⟩
    simp only [World.size_alloc] at hb2
    go_wp2
    go_ret
    exact ⟨rfl, Below.trans (b := _) (by go_grown) (hb2.mono (by omega))⟩
  | true =>
    rw [hp] at call
    have Call := Lib.hid call
    clear call hp
    rw [Bool.true_and]
    by_cases h0 : 0 < p
    · rw [decide_eq_true h0]
      go_enter Try.func58, Try.ntmps58
      go_wp2_with fail
      refine Call.out.mono ?_
      rintro e w2 ⟨rfl, hb2⟩
      have c0 : w2.cell? ⟨w.heap.size, 0, none⟩ = some (.int .i64 p) := carry hb2 (by simp) (by simp)
      simp only [World.size_alloc] at hb2
      go_wp2
      go_ret
      exact ⟨rfl, Below.trans (b := _) (by go_grown) (hb2.mono (by omega))⟩
    · go_enter Try.func58, Try.ntmps58
      go_wp2_with fail
      refine Call.out.mono ?_
      rintro e w2 ⟨rfl, hb2⟩
      have c0 : w2.cell? ⟨w.heap.size, 0, none⟩ = some (.int .i64 p) := carry hb2 (by simp) (by simp)
      simp only [World.size_alloc] at hb2
      go_wp2
      go_ret
      exact ⟨rfl, Below.trans (b := _) (by go_grown) (hb2.mono (by omega))⟩
end Go.Proofs.Ythpapkfpcijpoaa
/-
  NUMBERS OF FRIENDS: what they are, by the model's and the program's contracts.
-/
namespace Go.Proofs.Ythpapkfpcijpoaa
open Go.RowKit

def l1AllB (q : List Int) (lo hi : Int) : Bool := q.all fun x => decide (lo ≤ x ∧ x ≤ hi)
theorem l1AllB_yes {q : List Int} {lo hi : Int} (h : ∀ (j : Nat) (x : Int), j < q.length → q[j]? = some x → lo ≤ x ∧ x ≤ hi) : l1AllB q lo hi = true := by
  simp only [l1AllB, List.all_eq_true, decide_eq_true_eq]
  intro x hx
  obtain ⟨i, hi, rfl⟩ := List.getElem_of_mem hx
  exact h i _ hi (List.getElem?_eq_getElem hi)
theorem l1AllB_no {q : List Int} {lo hi : Int} {k : Nat} {x : Int} (hx : q[k]? = some x) (h : ¬ (lo ≤ x ∧ x ≤ hi)) : l1AllB q lo hi = false := by
  cases he : l1AllB q lo hi with
  | false => rfl
  | true =>
    simp only [l1AllB, List.all_eq_true, decide_eq_true_eq] at he
    exact absurd (he x (List.mem_of_getElem? hx)) h

set_option maxHeartbeats 1000000 in
theorem l1All_any (q : List Int) (A : Option Addr) (c : Nat) (lo hi : Int) (w : World) (hl : q.length ≤ 1048576) (hA : CRead w w.heap.size A (icells q)) :
    Calls Try.prog 79 #[.slice A q.length c, .int .i64 lo, .int .i64 hi] w fun e w' => e = .returned (.bool (l1AllB q lo hi)) ∧ w = w' := by
  go_enter Try.func79, Try.ntmps79
  go_wp2
  go_loop [11] (fun i => ∃ k : Nat, k ≤ q.length ∧ i = .int .i64 k ∧ ∀ (j : Nat) (x : Int), j < k → q[j]? = some x → lo ≤ x ∧ x ≤ hi) (fun i => q.length - (intOf i).toNat)
  case atStart => exact ⟨0, Nat.zero_le _, rfl, fun j x hj => by omega⟩
  case round =>
    obtain ⟨k, hk, rfl, hg⟩ := hrel
    have Hg := Lib.hid hg
    clear hg
    by_cases hlt : k < q.length
    · obtain ⟨x, hx⟩ := getSome q k hlt
      obtain ⟨b, off, rfl, hbb, c0⟩ := hA.int hx
      have hki : (k : Int) < (q.length : Int) := by omega
      have Hx := Lib.hid hx
      clear hx
      by_cases hin : lo ≤ x ∧ x ≤ hi
      · go_wp2_with (go_at_call 63; refine (l1In_yes _ _ _ hin.1 hin.2 _).mono ?_; rintro e w' ⟨rfl, rfl⟩)
        go_round
        case rel =>
          refine ⟨k + 1, by omega, by go_num, fun j y hj hy => ?_⟩
          by_cases hjk : j = k
          · subst hjk
            rw [Hx.out] at hy
            simp only [Option.some.injEq] at hy
            subst hy
            exact hin
          · exact Hg.out j y (by omega) hy
        case measure => simp [intOf]; omega
      · have e : l1AllB q lo hi = false := l1AllB_no Hx.out hin
        have He := Lib.hid e
        clear e
        go_wp2_with (go_at_call 63; refine (l1In_no _ _ _ (by omega) _).mono ?_; rintro e w' ⟨rfl, rfl⟩)
        go_ret
        exact ⟨by rw [He.out]; rfl, rfl⟩
    · have hkl : k = q.length := by omega
      have e : l1AllB q lo hi = true := l1AllB_yes fun j x hj hx => Hg.out j x (by omega) hx
      have He := Lib.hid e
      clear e
      have hge : ¬ ((k : Int) < (q.length : Int)) := by omega
      go_wp2
      go_ret
      exact ⟨by rw [He.out]; rfl, rfl⟩

theorem isNums_all {q : List Int} (h : q.length ≤ 12) : l1AllB q 0 ((q.length : Int) - 1) = isNums q := by
  unfold l1AllB isNums
  rw [decide_eq_true h, Bool.true_and]
  congr 1
  funext x
  congr 1
  apply propext
  omega

def resIsNumbers (q : List Int) : Bool := isNums q
/-! ## Sums -/
/-! ## Sorted so that they are falling: the model's -/
end Go.Proofs.Ythpapkfpcijpoaa
/-
  slices.Clone of pairs and of numbers, by its contracts, at every address.
-/
namespace Go.Proofs.Ythpapkfpcijpoaa
open Go.RowKit

theorem read_add_P {w : World} {B : Nat} {a : Addr} {l : PL} (h : CRead w B (some a) (pcells l)) : ∀ j u, (pcells l)[j]? = some u → w.cell? (a.add j) = some u := by
  intro j u hj
  obtain ⟨b, off, e, _, hc⟩ := h j u hj
  simp only [Option.some.injEq] at e
  subst e
  rw [Go.WideShapes.add_plain]
  exact hc
theorem read_add_I {w : World} {B : Nat} {a : Addr} {l : List Int} (h : CRead w B (some a) (icells l)) : ∀ j u, (icells l)[j]? = some u → w.cell? (a.add j) = some u := by
  intro j u hj
  obtain ⟨b, off, e, _, hc⟩ := h j u hj
  simp only [Option.some.injEq] at e
  subst e
  rw [Go.WideShapes.add_plain]
  exact hc
set_option maxHeartbeats 1000000 in
set_option maxRecDepth 100000 in
theorem cloneI_any (l : List Int) (A : Option Addr) (c : Nat) (w : World) (hl : l.length ≤ 1048576) (hA : CRead w w.heap.size A (icells l)) :
    Calls Try.prog 96 #[.slice A l.length c] w fun e w' => ∃ A' c', e = .returned (.slice A' l.length c') ∧ w'.ownsRow w.heap.size 3 1 (.slice A' l.length c') l.length (icells l) ∧ Below w.heap.size w w' := by
  obtain ⟨i0, hi, hz0, hz1, hz2⟩ := info_parts Try.infoInt
  have q22 : ∀ (w : World) (a : Option Addr) (n c n' c' : Nat), (binOp .eql 45 (.slice a n c) (.slice none n' c')).run Try.prog w = .ok (.bool a.isNone) w := fun w a n c n' c' => Lib.run_eql_slice_nil w _ _ a n c n' c' Try.underlying45
  have u22 : ∀ w, Sem.run Try.prog (underlying 45) w = .ok (TypeDesc.slice 3) w := run_underlying Try.underlying45
  cases A with
  | none =>
    have hq : l = [] := by
      cases l with
      | nil => rfl
      | cons x l =>
        obtain ⟨b, off, e, _⟩ := hA 0 _ (by simp [icells]; rfl)
        cases e
    subst hq
    go_enter Try.func96, Try.ntmps96
    go_wp2
    go_ret
    exact ⟨none, 0, rfl, World.ownsRow_nil _ _ _ _, Below.refl _ _⟩
  | some a =>
    have hc := read_add_I hA
    have H : Aside (∀ j u, (icells l)[j]? = some u → w.cell? (a.add j) = some u) := hc
    clear hc hA
    go_enter Try.func96, Try.ntmps96
    go_wp2_with (at_builtin; refine wpList_append_own _ rfl _ _ 45 rfl w.heap.size 3 i0 (.int .i64 0) 1 8 Try.underlying45 hi hz0 hz1 hz2 rfl (by decide) _ _ _ rfl (World.ownsRow_made w #[] 0 (Nat.le_refl _) (Nat.zero_le _) rfl) a l.length c (icells l) rfl ?qc1 ?qc2 ?qc3 ?qc4 ?qc5 ?qc6 ?_)
    case qc1 => rw [icells_length, Nat.mul_one]
    case qc2 =>
      intro j u hj
      exact Lib.cell?_alloc_some _ (H.out j u hj)
    case qc3 => exact icells_one l
    case qc4 => unfold maxLen; omega
    case qc5 => omega
    case qc6 => simp
    intro v' w1 hown hgrow _

    obtain ⟨A1, c1, rfl, _⟩ := own_shape hown
    go_wp2
    go_ret
    exact ⟨A1, c1, rfl, hown, ((Below.refl _ w).alloc (Nat.le_refl _) _).grown hgrow (by simp) (by intro k hk; simp [Value.ownBlock] at hk; omega)⟩
end Go.Proofs.Ythpapkfpcijpoaa
/-
  DERIVED: THE SHELF's CONTRACTS AT THIS DUMP, IN PLAIN WORDS (tools/lay-plain.mjs out of 'YthpapkfpcijpoaaShelfHome.lean', which tools/lay-shelf.mjs wrote): THE SAME DECLARATIONS UNDER THE SAME NAMES: 'import', 'namespace', 'open', 'def', 'theorem' AND NOTHING ELSE: no command of the shelf's: FOR A HAND-IN. Each laying: the table of numbers ('.._ren') and one theorem, a field a fact of the dump's own or the kernel's comparison; each contract: ONE APPLICATION.
-/
namespace Go.Proofs
open Go.Shelf
def Try.cloneI_ren : Go.Shelf.Ren := ⟨fun | 41 => 96 | n => n, fun | 22 => 45 | 23 => 3 | 4 => 4 | n => n, fun | n => n⟩
theorem Try.cloneI : Go.Proofs.SlLaysE0.n41 Try.prog Try.cloneI_ren := {
  mixed := by kernel_rfl
  f41 := ⟨Try.f96.name, by decide, Try.func96.trans (congrArg some (by kernel_rfl))⟩
  t4 := Try.underlying4
  a4 := Try.isAgg4
  z4 := Try.sizeOf4
  v4 := Try.zeroValue4
  t22 := Try.underlying45
  a22 := Try.isAgg45
  z22 := Try.sizeOf45
  v22 := Try.zeroValue45 }
def Try.indexI_ren : Go.Shelf.Ren := ⟨fun | 29 => 74 | n => n, fun | 22 => 45 | 23 => 3 | 3 => 3 | 0 => 0 | 4 => 4 | n => n, fun | n => n⟩
theorem Try.indexI : Go.Proofs.SlLaysN.n29 Try.prog Try.indexI_ren := {
  mixed := by kernel_rfl
  f29 := ⟨Try.f74.name, by decide, Try.func74.trans (congrArg some (by kernel_rfl))⟩
  t0 := Try.underlying0
  a0 := Try.isAgg0
  z0 := Try.sizeOf0
  v0 := Try.zeroValue0
  t3 := Try.underlying3
  a3 := Try.isAgg3
  z3 := Try.sizeOf3
  v3 := Try.zeroValue3
  t4 := Try.underlying4
  a4 := Try.isAgg4
  z4 := Try.sizeOf4
  v4 := Try.zeroValue4
  t22 := Try.underlying45
  a22 := Try.isAgg45
  z22 := Try.sizeOf45
  v22 := Try.zeroValue45
  t23 := Try.underlying3
  a23 := Try.isAgg3
  z23 := Try.sizeOf3
  v23 := Try.zeroValue3 }
def Try.containsI_ren : Go.Shelf.Ren := ⟨fun | 31 => 82 | 29 => 74 | n => n, fun | 22 => 45 | 23 => 3 | 4 => 4 | 3 => 3 | 0 => 0 | n => n, fun | n => n⟩
theorem Try.containsI : Go.Proofs.SlLaysN.n31 Try.prog Try.containsI_ren := {
  mixed := by kernel_rfl
  f29 := ⟨Try.f74.name, by decide, Try.func74.trans (congrArg some (by kernel_rfl))⟩
  f31 := ⟨Try.f82.name, by decide, Try.func82.trans (congrArg some (by kernel_rfl))⟩
  t0 := Try.underlying0
  a0 := Try.isAgg0
  z0 := Try.sizeOf0
  v0 := Try.zeroValue0
  t3 := Try.underlying3
  a3 := Try.isAgg3
  z3 := Try.sizeOf3
  v3 := Try.zeroValue3
  t4 := Try.underlying4
  a4 := Try.isAgg4
  z4 := Try.sizeOf4
  v4 := Try.zeroValue4
  t22 := Try.underlying45
  a22 := Try.isAgg45
  z22 := Try.sizeOf45
  v22 := Try.zeroValue45
  t23 := Try.underlying3
  a23 := Try.isAgg3
  z23 := Try.sizeOf3
  v23 := Try.zeroValue3 }
def Try.maxI_ren : Go.Shelf.Ren := ⟨fun | 37 => 102 | n => n, fun | 22 => 45 | 23 => 3 | 3 => 3 | 4 => 4 | 9 => 9 | 20 => 20 | 0 => 0 | n => n, fun | n => n⟩
theorem Try.maxI : Go.Proofs.SlLaysN.n37 Try.prog Try.maxI_ren := {
  mixed := by kernel_rfl
  f37 := ⟨Try.f102.name, by decide, Try.func102.trans (congrArg some (by kernel_rfl))⟩
  t0 := Try.underlying0
  a0 := Try.isAgg0
  z0 := Try.sizeOf0
  v0 := Try.zeroValue0
  t3 := Try.underlying3
  a3 := Try.isAgg3
  z3 := Try.sizeOf3
  v3 := Try.zeroValue3
  t4 := Try.underlying4
  a4 := Try.isAgg4
  z4 := Try.sizeOf4
  v4 := Try.zeroValue4
  t9 := Try.underlying9
  a9 := Try.isAgg9
  z9 := Try.sizeOf9
  v9 := Try.zeroValue9
  t20 := Try.underlying20
  a20 := Try.isAgg20
  z20 := Try.sizeOf20
  v20 := Try.zeroValue20
  t22 := Try.underlying45
  a22 := Try.isAgg45
  z22 := Try.sizeOf45
  v22 := Try.zeroValue45
  t23 := Try.underlying3
  a23 := Try.isAgg3
  z23 := Try.sizeOf3
  v23 := Try.zeroValue3 }
def Try.minI_ren : Go.Shelf.Ren := ⟨fun | 39 => 101 | n => n, fun | 22 => 45 | 23 => 3 | 3 => 3 | 4 => 4 | 9 => 9 | 20 => 20 | 0 => 0 | n => n, fun | n => n⟩
theorem Try.minI : Go.Proofs.SlLaysN.n39 Try.prog Try.minI_ren := {
  mixed := by kernel_rfl
  f39 := ⟨Try.f101.name, by decide, Try.func101.trans (congrArg some (by kernel_rfl))⟩
  t0 := Try.underlying0
  a0 := Try.isAgg0
  z0 := Try.sizeOf0
  v0 := Try.zeroValue0
  t3 := Try.underlying3
  a3 := Try.isAgg3
  z3 := Try.sizeOf3
  v3 := Try.zeroValue3
  t4 := Try.underlying4
  a4 := Try.isAgg4
  z4 := Try.sizeOf4
  v4 := Try.zeroValue4
  t9 := Try.underlying9
  a9 := Try.isAgg9
  z9 := Try.sizeOf9
  v9 := Try.zeroValue9
  t20 := Try.underlying20
  a20 := Try.isAgg20
  z20 := Try.sizeOf20
  v20 := Try.zeroValue20
  t22 := Try.underlying45
  a22 := Try.isAgg45
  z22 := Try.sizeOf45
  v22 := Try.zeroValue45
  t23 := Try.underlying3
  a23 := Try.isAgg3
  z23 := Try.sizeOf3
  v23 := Try.zeroValue3 }
def Try.sortI_ren : Go.Shelf.Ren := ⟨fun | 6 => 97 | 15 => 110 | 14 => 109 | 28 => 120 | 29 => 121 | 20 => 112 | 21 => 113 | 22 => 114 | 23 => 115 | 24 => 116 | 25 => 117 | 26 => 118 | 27 => 119 | 46 => 122 | 47 => 123 | 48 => 124 | 49 => 125 | 50 => 126 | 57 => 127 | n => n, fun | 22 => 45 | 24 => 3 | 25 => 98 | 3 => 3 | 39 => 109 | 0 => 0 | 53 => 120 | 55 => 122 | 4 => 4 | 46 => 114 | 45 => 113 | 50 => 43 | 5 => 5 | 9 => 9 | 66 => 123 | 70 => 127 | 76 => 129 | 77 => 130 | n => n, fun | n => n⟩
theorem Try.sortI : Go.Proofs.SlLaysF.n6 Try.prog Try.sortI_ren := {
  mixed := by kernel_rfl
  f6 := ⟨Try.f97.name, by decide, Try.func97.trans (congrArg some (by kernel_rfl))⟩
  f14 := ⟨Try.f109.name, by decide, Try.func109.trans (congrArg some (by kernel_rfl))⟩
  f15 := Try.func110.trans (congrArg some (by kernel_rfl))
  f20 := ⟨Try.f112.name, by decide, Try.func112.trans (congrArg some (by kernel_rfl))⟩
  f21 := ⟨Try.f113.name, by decide, Try.func113.trans (congrArg some (by kernel_rfl))⟩
  f22 := ⟨Try.f114.name, by decide, Try.func114.trans (congrArg some (by kernel_rfl))⟩
  f23 := ⟨Try.f115.name, by decide, Try.func115.trans (congrArg some (by kernel_rfl))⟩
  f24 := ⟨Try.f116.name, by decide, Try.func116.trans (congrArg some (by kernel_rfl))⟩
  f25 := ⟨Try.f117.name, by decide, Try.func117.trans (congrArg some (by kernel_rfl))⟩
  f26 := ⟨Try.f118.name, by decide, Try.func118.trans (congrArg some (by kernel_rfl))⟩
  f27 := ⟨Try.f119.name, by decide, Try.func119.trans (congrArg some (by kernel_rfl))⟩
  f28 := Try.func120.trans (congrArg some (by kernel_rfl))
  f29 := Try.func121.trans (congrArg some (by kernel_rfl))
  f46 := ⟨Try.f122.name, by decide, Try.func122.trans (congrArg some (by kernel_rfl))⟩
  f47 := Try.func123.trans (congrArg some (by kernel_rfl))
  f48 := Try.func124.trans (congrArg some (by kernel_rfl))
  f49 := ⟨Try.f125.name, by decide, Try.func125.trans (congrArg some (by kernel_rfl))⟩
  f50 := ⟨Try.f126.name, by decide, Try.func126.trans (congrArg some (by kernel_rfl))⟩
  f57 := ⟨Try.f127.name, by decide, Try.func127.trans (congrArg some (by kernel_rfl))⟩
  t0 := Try.underlying0
  a0 := Try.isAgg0
  z0 := Try.sizeOf0
  v0 := Try.zeroValue0
  t3 := Try.underlying3
  a3 := Try.isAgg3
  z3 := Try.sizeOf3
  v3 := Try.zeroValue3
  t4 := Try.underlying4
  a4 := Try.isAgg4
  z4 := Try.sizeOf4
  v4 := Try.zeroValue4
  t5 := Try.underlying5
  a5 := Try.isAgg5
  z5 := Try.sizeOf5
  v5 := Try.zeroValue5
  t9 := Try.underlying9
  a9 := Try.isAgg9
  z9 := Try.sizeOf9
  v9 := Try.zeroValue9
  t22 := Try.underlying45
  a22 := Try.isAgg45
  z22 := Try.sizeOf45
  v22 := Try.zeroValue45
  a24 := Try.isAgg3
  z24 := Try.sizeOf3
  t25 := Try.underlying98
  a25 := Try.isAgg98
  z25 := Try.sizeOf98
  v25 := Try.zeroValue98
  t39 := Try.underlying109
  a39 := Try.isAgg109
  z39 := Try.sizeOf109
  v39 := Try.zeroValue109
  t45 := Try.underlying113
  a45 := Try.isAgg113
  z45 := Try.sizeOf113
  v45 := Try.zeroValue113
  t46 := Try.underlying114
  a46 := Try.isAgg114
  z46 := Try.sizeOf114
  v46 := Try.zeroValue114
  t50 := Try.underlying43
  a50 := Try.isAgg43
  z50 := Try.sizeOf43
  v50 := Try.zeroValue43
  t53 := Try.underlying120
  a53 := Try.isAgg120
  z53 := Try.sizeOf120
  v53 := Try.zeroValue120
  t55 := Try.underlying122
  a55 := Try.isAgg122
  z55 := Try.sizeOf122
  v55 := Try.zeroValue122
  t66 := Try.underlying123
  a66 := Try.isAgg123
  z66 := Try.sizeOf123
  v66 := Try.zeroValue123
  t70 := Try.underlying127
  a70 := Try.isAgg127
  z70 := Try.sizeOf127
  v70 := Try.zeroValue127
  t76 := Try.underlying129
  a76 := Try.isAgg129
  z76 := Try.sizeOf129
  v76 := Try.zeroValue129
  t77 := Try.underlying130
  a77 := Try.isAgg130
  z77 := Try.sizeOf130
  v77 := Try.zeroValue130 }
end Go.Proofs
/-
  NUMBERS SORTED BY THE PROGRAM: slices.SortFunc with its comparison, 'sortedFalling', 'SortNumbers', by their contracts.
-/
namespace Go.Proofs.Ythpapkfpcijpoaa
open Go.RowKit Go.Shelf Go.Lib Go.Sort

theorem below_grow {B : Nat} {a w : World} (h : Below B a w) (hB : B ≤ w.heap.size) (os : Array Obj) : Below B a (grow w os) :=
  ⟨h.os, h.tape, h.output, by simp only [grow, Array.size_append]; have := h.size; omega, fun k hk => by
    rw [← h.block k hk]
    simp only [grow]
    rw [Array.getElem?_append_left (by omega)]⟩
theorem own_grow {w : World} {base : Nat} {e : TypeId} {size n : Nat} {v : Value} {xs : List Value} (h : w.ownsRow base e size v n xs) (os : Array Obj) : (grow w os).ownsRow base e size v n xs :=
  own_below h (below_grow (Below.refl w.heap.size w) (Nat.le_refl _) os) (Nat.le_refl _)

def cmpDown (x y : Int) : Int := cmpI y x
theorem ltDown (x y : Int) : ltOf cmpDown x y = decide (y < x) := by
  unfold ltOf cmpDown cmpI
  by_cases h1 : y < x
  · simp [h1]
  · by_cases h2 : x < y <;> simp [h1, h2]
theorem swoDown : SWO (ltOf cmpDown) where
  irrefl x := by rw [ltDown]; simp
  trans x y z h1 h2 := by rw [ltDown] at *; simp at *; omega
  ntrans x y z h1 h2 := by rw [ltDown] at *; simp at *; omega
theorem totDown (x y : Int) (h1 : ltOf cmpDown x y = false) (h2 : ltOf cmpDown y x = false) : x = y := by rw [ltDown] at *; simp at *; omega
theorem geDown : (fun x y : Int => !ltOf cmpDown y x) = fun x y => decide (y ≤ x) := by
  funext x y
  rw [ltDown]
  by_cases h : y ≤ x
  · have h' : ¬ x < y := by omega
    simp [h, h']
  · have h' : x < y := by omega
    simp [h, h']

set_option maxHeartbeats 400000 in
theorem downClosure_any (x y : Int) (w : World) : Calls Try.prog 98 #[.int .i64 x, .int .i64 y] w fun e w' => e = .returned (.int .i64 (cmpDown x y)) ∧ ∃ q, w' = w.drewN q := by
  unfold cmpDown
  go_enter Try.func98, Try.ntmps98
  go_wp2_with fail
  refine (compare_any y x _).mono ?_
  rintro e w' ⟨rfl, rfl⟩
  go_wp2
  go_ret
  exact ⟨rfl, 0, rfl⟩

set_option maxRecDepth 100000 in
/-- slices.SortFunc over a row of numbers of the call's own: falling. -/
theorem sortI_any (q : List Int) (A : Option Addr) (c : Nat) (base : Nat) (w : World) (hl : q.length ≤ 1048576) (hown : w.ownsRow base 3 1 (.slice A q.length c) q.length (icells q)) :
    Calls Try.prog 97 #[.slice A q.length c, .func (.func 98) #[] #[]] w fun e w' => e = .returned (.tuple #[]) ∧
      w'.ownsRow base 3 1 (.slice A q.length c) q.length (icells (fall q)) ∧ (∀ B, B ≤ base → B ≤ w.heap.size → Below B w w') ∧ w.heap.size ≤ w'.heap.size := by
  by_cases h0 : q.length = 0
  · have hq : q = [] := List.eq_nil_of_length_eq_zero h0
    subst hq
    have h := AnyF.slices_SortFunc_none (P := Try.prog) (ρ := Try.sortI_ren) { Try.sortI with } A c (.func (.func 98) #[] #[]) w
    change Calls Try.prog 97 _ _ _ at h
    refine h.mono ?_
    rintro e w' ⟨rfl, rfl⟩
    exact ⟨rfl, by rw [show fall [] = [] from by simp [fall]]; exact hown, fun B _ _ => Below.refl _ _, Nat.le_refl _⟩
  · obtain ⟨g, rfl⟩ := own_form hown (by omega)
    obtain ⟨g', cap, hv, hbg, hgl, hnc, hcm, _, hH⟩ := holds_of_ownsRow (enc := Value.int .i64) (zs := q) hown (by simp)
    simp only [Value.slice.injEq, Option.some.injEq, Addr.mk.injEq, and_true, true_and] at hv
    obtain ⟨rfl, rfl⟩ := hv
    have eg : ∀ args w, (callFunc 98 args).run Try.prog w = .ok (.enter 98 args) w := enters_of Try.func98 (by kernel_rfl) rfl
    have hr : CmpReads Try.prog 98 #[] (Value.int .i64) cmpDown g 0 q.toArray.size w := fun _ _ _ _ x y => downClosure_any x y _
    have h := Any.slices_SortFunc_total Try.sortI (Value.int .i64) (fun _ => rfl) cmpDown swoDown 98 #[] g 0 c q.toArray w eg hr.lays hH hgl (by simp; omega) totDown
    rw [geDown] at h
    change Calls Try.prog 97 _ _ _ at h
    rw [show q.toArray.size = q.length from by simp] at h
    refine h.mono ?_
    rintro e w' ⟨rfl, n, os, rfl⟩
    have hf : (fall q).length = q.length := fall_length q
    have ho := ownsRow_putRow (enc := Value.int .i64) (q := n) (k := q.length) (ys := fall q) hown hf (Nat.le_refl _)
    rw [List.take_of_length_le (by omega)] at ho
    have hb : ∀ B, B ≤ g → Below B w (putRow (Value.int .i64) (Sort.ahead w n) g 0 (fall q).toArray) := fun B hB => below_putRow (Below.refl B w) hB
    have hs : (putRow (Value.int .i64) (Sort.ahead w n) g 0 (fall q).toArray).heap.size = w.heap.size := by simp [putRow, mapBlock, Sort.ahead]
    refine ⟨rfl, own_grow ho os, fun B hB hB2 => below_grow (hb B (by omega)) (by rw [hs]; exact hB2) os, ?_⟩
    show w.heap.size ≤ (grow (putRow (Value.int .i64) (Sort.ahead w n) g 0 (fall q).toArray) os).heap.size
    simp only [grow, Array.size_append, hs]
    omega

set_option maxHeartbeats 1000000 in
set_option maxRecDepth 100000 in
theorem sortedFalling_any (q : List Int) (A : Option Addr) (c : Nat) (w : World) (hl : q.length ≤ 1048576) (hA : CRead w w.heap.size A (icells q)) :
    Calls Try.prog 70 #[.slice A q.length c] w fun e w' => ∃ A' c', e = .returned (.slice A' (fall q).length c') ∧
      w'.ownsRow w.heap.size 3 1 (.slice A' (fall q).length c') (fall q).length (icells (fall q)) ∧ Below w.heap.size w w' := by
  rw [fall_length]
  go_enter Try.func70, Try.ntmps70
  go_wp2_with fail
  refine (cloneI_any q A c _ hl hA).mono ?_
  rintro e w1 ⟨A1, c1, rfl, own1, hb1⟩
  go_wp2_with fail
  refine (sortI_any q A1 c1 _ _ hl own1).mono ?_
  rintro e w2 ⟨rfl, own2, hb2, hs2⟩
  go_wp2
  go_ret
  exact ⟨A1, c1, rfl, own2, hb1.trans (hb2 _ (Nat.le_refl _) hb1.size)⟩

def resSortNumbers (q : List Int) : List Int × Bool := if isNums q then (fall q, true) else ([], false)
theorem resSortNumbers_len (q : List Int) : (resSortNumbers q).1.length ≤ 1048576 := by
  unfold resSortNumbers
  split
  · rename_i h
    have := isNums_len h
    rw [fall_length]
    omega
  · simp
end Go.Proofs.Ythpapkfpcijpoaa
/-
  ONE NUMBER THAT ALL OF A LIST ARE, in pure terms.
-/
namespace Go.Proofs.Ythpapkfpcijpoaa
open Go.RowKit

/-- one number that all are -/
def onlyI : List Int → Int × Bool
  | [] => (0, false)
  | x :: q => if q.all (fun y => decide (y = x)) then (x, true) else (0, false)
theorem fold_min_le (q : List Int) : ∀ x : Int, q.foldl min x ≤ x ∧ ∀ y ∈ q, q.foldl min x ≤ y := by
  induction q with
  | nil => intro x; exact ⟨Int.le_refl _, fun y hy => by cases hy⟩
  | cons z q ih =>
    intro x
    obtain ⟨h1, h2⟩ := ih (min x z)
    refine ⟨by simp only [List.foldl_cons]; omega, fun y hy => ?_⟩
    rcases List.mem_cons.1 hy with rfl | hy
    · simp only [List.foldl_cons]; omega
    · exact h2 y hy
theorem fold_max_le (q : List Int) : ∀ x : Int, x ≤ q.foldl max x ∧ ∀ y ∈ q, y ≤ q.foldl max x := by
  induction q with
  | nil => intro x; exact ⟨Int.le_refl _, fun y hy => by cases hy⟩
  | cons z q ih =>
    intro x
    obtain ⟨h1, h2⟩ := ih (max x z)
    refine ⟨by simp only [List.foldl_cons]; omega, fun y hy => ?_⟩
    rcases List.mem_cons.1 hy with rfl | hy
    · simp only [List.foldl_cons]; omega
    · exact h2 y hy
theorem fold_same (f : Int → Int → Int) (hf : ∀ x, f x x = x) (x : Int) : ∀ q : List Int, (∀ y ∈ q, y = x) → q.foldl f x = x := by
  intro q
  induction q with
  | nil => intro _; rfl
  | cons z q ih =>
    intro h
    rw [List.foldl_cons, h z List.mem_cons_self, hf]
    exact ih fun y hy => h y (List.mem_cons_of_mem _ hy)
theorem only_minmax (x : Int) (q : List Int) : (Lib.minOf (x :: q) = Lib.maxOf (x :: q)) ↔ (onlyI (x :: q)).2 = true := by
  have e1 : Lib.minOf (x :: q) = q.foldl min x := by simp [Lib.minOf]
  have e2 : Lib.maxOf (x :: q) = q.foldl max x := by simp [Lib.maxOf]
  rw [e1, e2]
  have h1 := fold_min_le q x
  have h2 := fold_max_le q x
  have e3 : (onlyI (x :: q)).2 = q.all (fun y => decide (y = x)) := by simp only [onlyI]; cases h : (q.all fun y => decide (y = x)) <;> rfl
  rw [e3, List.all_eq_true]
  constructor
  · intro h y hy
    have a1 := h1.2 y hy
    have a2 := h2.2 y hy
    exact decide_eq_true (by omega)
  · intro h
    have h' : ∀ y ∈ q, y = x := fun y hy => of_decide_eq_true (h y hy)
    rw [fold_same min (by intro; omega) x q h', fold_same max (by intro; omega) x q h']
theorem onlyI_cons {x : Int} {q : List Int} (h : (onlyI (x :: q)).2 = true) : onlyI (x :: q) = (x, true) := by
  simp only [onlyI] at h ⊢
  by_cases h1 : (q.all fun y => decide (y = x)) = true
  · rw [if_pos h1]
  · rw [if_neg h1] at h; cases h
theorem onlyI_no {q : List Int} (h : (onlyI q).2 = false) : onlyI q = (0, false) := by
  cases q with
  | nil => rfl
  | cons x q =>
    simp only [onlyI] at h ⊢
    by_cases h1 : (q.all fun y => decide (y = x)) = true
    · rw [if_pos h1] at h; cases h
    · rw [if_neg h1]
theorem only_of {q : List Int} (h0 : 0 < q.length) (h : ∀ j, j < q.length → q.getD j 0 = q.getD 0 0) : onlyI q = (q.getD 0 0, true) := by
  cases q with
  | nil => simp at h0
  | cons x q =>
    refine onlyI_cons ?_
    simp only [onlyI]
    rw [if_pos]
    rw [List.all_eq_true]
    intro y hy
    obtain ⟨j, hj⟩ := List.getElem?_of_mem (List.mem_cons_of_mem x hy)
    have := h j (List.getElem?_eq_some_iff.1 hj).1
    rw [List.getD_eq_getElem?_getD, hj] at this
    exact decide_eq_true this
theorem only_not {q : List Int} {k : Nat} (hk : k < q.length) (h : q.getD k 0 ≠ q.getD 0 0) : onlyI q = (0, false) := by
  refine onlyI_no ?_
  cases q with
  | nil => rfl
  | cons x q =>
    simp only [onlyI]
    rw [if_neg]
    rw [List.all_eq_true]
    intro hall
    cases k with
    | zero => exact h rfl
    | succ k =>
      have hk' : k < q.length := by simpa using hk
      have := of_decide_eq_true (hall (q.getD k 0) (by rw [List.getD_eq_getElem?_getD, List.getElem?_eq_getElem hk']; exact List.getElem_mem hk'))
      exact h (by simpa using this)
/-- the one number, -1 if there is none -/
def equalV (q : List Int) : Int := if (onlyI q).2 then (onlyI q).1 else -1
theorem onlyI_mem {q : List Int} (h : (onlyI q).2 = true) : (onlyI q).1 ∈ q := by
  cases q with
  | nil => cases h
  | cons x q => rw [onlyI_cons h]; exact List.mem_cons_self
end Go.Proofs.Ythpapkfpcijpoaa
/-
  slices.Index, Max, Min at ints, by the shelf's contracts.
-/
namespace Go.Proofs.Ythpapkfpcijpoaa
open Go.RowKit

set_option maxRecDepth 100000 in
theorem indexI_any (b off n c : Nat) (zs : List Int) (x : Int) (w : World) (hz : zs.length = n) (hbig : n ≤ 1048576) (hc : ∀ j, j < zs.length → w.cell? ⟨b, off + j, none⟩ = some (.int .i64 (zs.getD j 0))) :
    Calls Try.prog 74 #[.slice (some ⟨b, off, none⟩) n c, .int .i64 x] w fun e w' => e = .returned (.int .i64 (Lib.idxOf zs x)) ∧ w' = w := by
  have h := AnyG.slices_Index_int Try.indexI b off n c zs x w (by omega) (by omega) hc
  rw [List.take_of_length_le (by omega)] at h
  change Calls Try.prog 74 _ _ _ at h
  exact h
theorem indexI_none (a : Option Addr) (c : Nat) (x : Int) (w : World) :
    Calls Try.prog 74 #[.slice a 0 c, .int .i64 x] w fun e w' => e = .returned (.int .i64 (Lib.idxOf [] x)) ∧ w' = w := by
  have h := AnyG.slices_Index_int_empty Try.indexI a c x w
  change Calls Try.prog 74 _ _ _ at h
  exact h
set_option maxRecDepth 100000 in
theorem maxI_any (b off n c : Nat) (zs : List Int) (w : World) (h0 : 0 < n) (hz : zs.length = n) (hbig : n ≤ 1048576) (hc : ∀ j, j < zs.length → w.cell? ⟨b, off + j, none⟩ = some (.int .i64 (zs.getD j 0))) :
    Calls Try.prog 102 #[.slice (some ⟨b, off, none⟩) n c] w fun e w' => e = .returned (.int .i64 (Lib.maxOf zs)) ∧ w' = w := by
  have h := AnyG.slices_Max_int Try.maxI b off n c zs w h0 (by omega) (by omega) hc
  rw [List.take_of_length_le (by omega)] at h
  change Calls Try.prog 102 _ _ _ at h
  exact h
set_option maxRecDepth 100000 in
theorem minI_any (b off n c : Nat) (zs : List Int) (w : World) (h0 : 0 < n) (hz : zs.length = n) (hbig : n ≤ 1048576) (hc : ∀ j, j < zs.length → w.cell? ⟨b, off + j, none⟩ = some (.int .i64 (zs.getD j 0))) :
    Calls Try.prog 101 #[.slice (some ⟨b, off, none⟩) n c] w fun e w' => e = .returned (.int .i64 (Lib.minOf zs)) ∧ w' = w := by
  have h := AnyG.slices_Min_int Try.minI b off n c zs w h0 (by omega) (by omega) hc
  rw [List.take_of_length_le (by omega)] at h
  change Calls Try.prog 101 _ _ _ at h
  exact h
end Go.Proofs.Ythpapkfpcijpoaa
/-
  WHETHER A NUMBER IS IN A LIST: the model's look; a list's front.
-/
namespace Go.Proofs.Ythpapkfpcijpoaa
open Go.RowKit

theorem icells_getD {l : List Int} {j : Nat} (h : j < l.length) : (icells l)[j]? = some (.int .i64 (l.getD j 0)) := by
  simp [icells, List.getD_eq_getElem?_getD, List.getElem?_eq_getElem h]
theorem CRead.ints {w : World} {B : Nat} {A : Option Addr} {q : List Int} (h : CRead w B A (icells q)) (hq : 0 < q.length) : ∃ b off, A = some ⟨b, off, none⟩ ∧ b < B ∧ ∀ j, j < q.length → w.cell? ⟨b, off + j, none⟩ = some (.int .i64 (q.getD j 0)) := by
  obtain ⟨b, off, rfl, hb, _⟩ := h 0 _ (icells_getD hq)
  refine ⟨b, off, rfl, hb, fun j hj => ?_⟩
  obtain ⟨b', off', e, _, hc⟩ := h j _ (icells_getD hj)
  simp only [Option.some.injEq, Addr.mk.injEq, and_true] at e
  obtain ⟨rfl, rfl⟩ := e
  exact hc

theorem CRead.front {w : World} {B : Nat} {A : Option Addr} {q : List Int} (h : CRead w B A (icells q)) (k : Nat) : CRead w B A (icells (q.take k)) := fun j u hu => by
  refine h j u ?_
  unfold icells at hu ⊢
  rw [List.map_take, List.getElem?_take] at hu
  split at hu
  · exact hu
  · cases hu


/-- whether a number is in a list -/
def hasI (q : List Int) (x : Int) : Bool := q.contains x
theorem hasI_mem {q : List Int} {x : Int} : hasI q x = true ↔ x ∈ q := List.contains_iff_mem
end Go.Proofs.Ythpapkfpcijpoaa
/-
  'EqualNumber', 'PoliticianOf': the model's and the program's, by their contracts.
-/
namespace Go.Proofs.Ythpapkfpcijpoaa
open Go.RowKit

theorem numsOf_pos {n : Nat} {l : PL} {x : Int} (h : x ∈ numsOf n l) : 0 ≤ x := by
  have key : ∀ (l : PL) (acc : List Int), (∀ y ∈ acc, 0 ≤ y) → ∀ y ∈ l.foldl (fun acc q => bump (bump acc q.1) q.2) acc, 0 ≤ y := by
    have hb : ∀ (acc : List Int) (a : Int), (∀ y ∈ acc, 0 ≤ y) → ∀ y ∈ bump acc a, 0 ≤ y := by
      intro acc a h y hy
      unfold bump at hy
      rcases List.mem_or_eq_of_mem_set hy with hy | rfl
      · exact h y hy
      · rw [List.getD_eq_getElem?_getD]
        cases e : acc[a.toNat]? with
        | none => simp
        | some u => have := h u (List.mem_of_getElem? e); simp; omega
    intro l
    induction l with
    | nil => intro acc h y hy; exact h y hy
    | cons q l ih => intro acc h y hy; exact ih _ (hb _ _ (hb _ _ h)) y hy
  exact key l _ (fun y hy => by rw [List.eq_of_mem_replicate hy]; exact Int.le_refl _) x h
def resEqualNumber (p : Int) (l : PL) : Int × Bool := if isP p l then onlyI (numsOf p.toNat l) else (0, false)
set_option maxHeartbeats 1000000 in
set_option maxRecDepth 100000 in
theorem cfEqual_any (p : Int) (l : PL) (A : Option Addr) (c : Nat) (w : World) (hp : isP p l = true) (hA : CRead w w.heap.size A (pcells l)) :
    Calls Try.prog 75 #[.agg #[.int .i64 p, .slice A l.length c]] w fun e w' => e = .returned (.int .i64 (equalV (numsOf p.toNat l))) ∧ Below w.heap.size w w' := by
  have hr : CRead (w.alloc (Obj.cells #[.int .i64 p, .slice A l.length c] 31)) (w.alloc (Obj.cells #[.int .i64 p, .slice A l.length c] 31)).heap.size A (pcells l) := (hA.below (B' := w.heap.size) (by go_grown) (Nat.le_refl _)).more (by go_size)
  obtain ⟨n, rfl⟩ : ∃ n : Nat, p = n := ⟨p.toNat, by have := isP_range hp; omega⟩
  have hn := isP_range hp
  have hq := numsOf_length n l
  obtain ⟨q, hqd⟩ : ∃ q, numsOf n l = q := ⟨_, rfl⟩
  have call := paNumbers_any n l A c _ hp hr
  simp only [Int.toNat_natCast] at call ⊢
  rw [hqd] at call hq ⊢
  obtain ⟨v, hv⟩ : ∃ v, equalV q = v := ⟨_, rfl⟩
  rw [hv]
  have Hv := Lib.hid hv
  have Call := Lib.hid call
  clear call hp hqd hv
  go_enter Try.func75, Try.ntmps75
  go_wp2_with fail
  refine Call.out.mono ?_
  rintro e w2 ⟨g, rfl, own, hb2⟩
  simp only [World.size_alloc] at hb2 own
  have k2 : Below w.heap.size w w2 := Below.trans (b := _) (by go_grown) (hb2.mono (by omega))
  have hc : ∀ j, j < n → w2.cell? ⟨g, j, none⟩ = some (.int .i64 (q.getD j 0)) := fun j hj => by rw [own.cellAt j (by omega)]; exact icells_getD (by omega)
  have Hc := Lib.hid hc
  clear Call hc
  go_wp2
  go_loop [10] (fun i => ∃ k : Nat, k ≤ n ∧ i = .int .i64 k ∧ ∀ j, j < k → q.getD j 0 = q.getD 0 0) (fun i => n - (intOf i).toNat)
  case atStart => exact ⟨0, Nat.zero_le _, rfl, fun j hj => by omega⟩
  case round =>
    obtain ⟨k, hk, rfl, hall⟩ := hrel
    have Hall := Lib.hid hall
    clear hall
    by_cases hlt : k < n
    · have hki : (k : Int) < (n : Int) := by omega
      have c0 := Hc.out 0 (by omega)
      have ck := Hc.out k hlt
      by_cases he : q.getD k 0 = q.getD 0 0
      · have hall2 : ∀ j, j < k + 1 → q.getD j 0 = q.getD 0 0 := fun j hj => by
          by_cases hjk : j = k
          · rw [hjk]; exact he
          · exact Hall.out j (by omega)
        have Hall2 := Lib.hid hall2
        rw [he] at ck
        clear hall2 he
        obtain ⟨y, hy⟩ : ∃ y, q.getD 0 0 = y := ⟨_, rfl⟩
        rw [hy] at ck c0
        have hyy : (y == y) = true := by simp
        clear hy
        go_wp2
        go_round
        case rel => exact ⟨k + 1, by omega, by go_num, Hall2.out⟩
        case measure => simp [intOf]; omega
      · have e : v = -1 := by rw [← Hv.out]; unfold equalV; rw [only_not (by omega) he]; rfl
        subst e
        have hne : (q.getD k 0 == q.getD 0 0) = false := by simp only [beq_eq_false_iff_ne, ne_eq]; exact he
        obtain ⟨x, hx⟩ : ∃ x, q.getD k 0 = x := ⟨_, rfl⟩
        obtain ⟨y, hy⟩ : ∃ y, q.getD 0 0 = y := ⟨_, rfl⟩
        rw [hx] at ck hne he
        rw [hy] at c0 hne he
        clear hx hy
        go_wp2
        go_ret
        exact ⟨rfl, k2⟩
    · have e : k = n := by omega
      subst e
      have hge : ¬ ((k : Int) < (k : Int)) := by omega
      by_cases h0 : k = 0
      · subst h0
        have e : v = -1 := by rw [← Hv.out, List.eq_nil_of_length_eq_zero hq]; rfl
        subst e
        go_wp2
        go_ret
        exact ⟨rfl, k2⟩
      · have e : v = q.getD 0 0 := by rw [← Hv.out]; unfold equalV; rw [only_of (by omega) (fun j hj => Hall.out j (by omega))]; rfl
        have c0 := Hc.out 0 (by omega)
        have hz : ((k : Int) == 0) = false := by simp only [beq_eq_false_iff_ne, ne_eq]; omega
        rw [← e] at c0
        clear e
        go_wp2
        go_ret
        exact ⟨rfl, k2⟩
set_option maxHeartbeats 1000000 in
set_option maxRecDepth 100000 in
theorem specEqualNumber_any (p : Int) (l : PL) (A : Option Addr) (c : Nat) (w : World) (hl : l.length ≤ 1048576) (hA : CRead w w.heap.size A (pcells l)) :
    Calls Try.prog 32 #[.agg #[.int .i64 p, .slice A l.length c]] w fun e w' => e = .returned (.tuple #[.int .i64 (resEqualNumber p l).1, .bool (resEqualNumber p l).2]) ∧ Below w.heap.size w w' := by
  have hr : CRead (w.alloc (Obj.cells #[.int .i64 p, .slice A l.length c] 31)) (w.alloc (Obj.cells #[.int .i64 p, .slice A l.length c] 31)).heap.size A (pcells l) := (hA.below (B' := w.heap.size) (by go_grown) (Nat.le_refl _)).more (by go_size)
  cases hp : isP p l with
  | false =>
    have e : resEqualNumber p l = (0, false) := by simp [resEqualNumber, hp]
    rw [e]
    have Hp := Lib.hid hp
    clear hp e
    go_enter Try.func32, Try.ntmps32
    go_wp2_with fail
    refine (paGood_any _ _ _ _ _ hl hr).mono ?_
    rw [Hp.out]
    rintro e w2 ⟨rfl, hb2⟩
    simp only [World.size_alloc] at hb2
    go_wp2
    go_ret2
    exact ⟨rfl, Below.trans (b := _) (by go_grown) (hb2.mono (by omega))⟩
  | true =>
    have e : resEqualNumber p l = onlyI (numsOf p.toNat l) := by simp [resEqualNumber, hp]
    rw [e]
    have hv : equalV (numsOf p.toNat l) = -1 ∧ onlyI (numsOf p.toNat l) = (0, false) ∨ 0 ≤ equalV (numsOf p.toNat l) ∧ onlyI (numsOf p.toNat l) = (equalV (numsOf p.toNat l), true) := by
      cases h2 : (onlyI (numsOf p.toNat l)).2 with
      | false => left; refine ⟨by unfold equalV; rw [h2]; rfl, onlyI_no h2⟩
      | true =>
        right
        have hm := numsOf_pos (onlyI_mem h2)
        have e1 : equalV (numsOf p.toNat l) = (onlyI (numsOf p.toNat l)).1 := by unfold equalV; rw [h2]; rfl
        rw [e1]
        exact ⟨hm, Prod.ext rfl h2⟩
    obtain ⟨v, hvd⟩ : ∃ v, equalV (numsOf p.toNat l) = v := ⟨_, rfl⟩
    have call := fun (X : World) (hX : CRead X X.heap.size A (pcells l)) => cfEqual_any p l A c X hp hX
    rw [hvd] at hv call
    have Call := Lib.hid call
    have Hp := Lib.hid hp
    clear call hp e hvd
    rcases hv with ⟨rfl, e⟩ | ⟨hv0, e⟩
    all_goals
      rw [e]
      clear e
      go_enter Try.func32, Try.ntmps32
      go_wp2_with fail
      refine (paGood_any _ _ _ _ _ hl hr).mono ?_
      rw [Hp.out]
      rintro e w2 ⟨rfl, hb2⟩
      have s2 := hb2.size
      have k2 : Below w.heap.size w w2 := Below.trans (b := _) (by go_grown) (hb2.mono (by simp))
      have c0 : w2.cell? ⟨w.heap.size, 0, none⟩ = some (.int .i64 p) := carry hb2 (by simp) (by simp)
      have c1 : w2.cell? ⟨w.heap.size, 1, none⟩ = some (.slice A l.length c) := carry hb2 (by simp) (by simp)
      simp only [World.size_alloc] at s2
      go_wp2_with fail
      refine (Call.out _ ((hA.below k2 (Nat.le_refl _)).more k2.size)).mono ?_
      rintro e w3 ⟨rfl, hb3⟩
      have k3 := k2.trans (hb3.mono k2.size)
      have d0 : w3.cell? ⟨w.heap.size, 0, none⟩ = some (.int .i64 p) := carry hb3 c0 (by omega)
      have d1 : w3.cell? ⟨w.heap.size, 1, none⟩ = some (.slice A l.length c) := carry hb3 c1 (by omega)
      clear c0 c1
    · go_wp2
      go_ret2
      exact ⟨rfl, k3⟩
    · have hge : ¬ (v < 0) := by omega
      go_wp2_with fail
      refine (Call.out _ ((hA.below k3 (Nat.le_refl _)).more k3.size)).mono ?_
      rintro e w4 ⟨rfl, hb4⟩
      have k4 := k3.trans (hb4.mono k3.size)
      go_wp2
      go_ret2
      exact ⟨rfl, k4⟩
set_option maxHeartbeats 1000000 in
set_option maxRecDepth 100000 in
theorem onlyNumber_any (q : List Int) (A : Option Addr) (c : Nat) (w : World) (hl : q.length ≤ 1048576) (hA : CRead w w.heap.size A (icells q)) :
    Calls Try.prog 76 #[.slice A q.length c] w fun e w' => e = .returned (.tuple #[.int .i64 (onlyI q).1, .bool (onlyI q).2]) ∧ Below w.heap.size w w' := by
  cases q with
  | nil =>
    go_enter Try.func76, Try.ntmps76
    go_wp2
    go_ret2
    exact ⟨rfl, Below.refl _ _⟩
  | cons x r =>
    obtain ⟨b, off, rfl, hbb, hc⟩ := hA.ints (by simp)
    have c0 := hc 0 (by simp)
    simp only [Nat.add_zero, List.getD_cons_zero] at c0
    have hmin := fun X : World => fun hX => minI_any b off (x :: r).length c (x :: r) X (by simp) rfl hl hX
    have hmax := fun X : World => fun hX => maxI_any b off (x :: r).length c (x :: r) X (by simp) rfl hl hX
    have hmm := only_minmax x r
    have hne : (((x :: r).length : Int) == 0) = false := by simp only [beq_eq_false_iff_ne, ne_eq, List.length_cons]; omega
    obtain ⟨n, hn⟩ : ∃ n, (x :: r).length = n := ⟨_, rfl⟩
    rw [hn] at hmin hmax hne hl hc ⊢
    obtain ⟨u, hu⟩ : ∃ u, Lib.minOf (x :: r) = u := ⟨_, rfl⟩
    obtain ⟨v, hv⟩ : ∃ v, Lib.maxOf (x :: r) = v := ⟨_, rfl⟩
    rw [hu] at hmin hmm
    rw [hv] at hmax hmm
    have Hmin := Lib.hid hmin
    have Hmax := Lib.hid hmax
    have Hc := Lib.hid hc
    have hn0 : 0 < n := by rw [← hn]; simp
    clear hmin hmax hc hu hv hA
    by_cases huv : u = v
    · have e := onlyI_cons (hmm.1 huv)
      rw [e]
      subst huv
      clear e hmm
      go_enter Try.func76, Try.ntmps76
      go_wp2_with fail
      refine (Hmin.out _ Hc.out).mono ?_
      rintro e w2 ⟨rfl, rfl⟩
      go_wp2_with fail
      refine (Hmax.out _ Hc.out).mono ?_
      rintro e w2 ⟨rfl, rfl⟩
      go_wp2
      go_ret2
      exact ⟨rfl, Below.refl _ _⟩
    · have h2 : (onlyI (x :: r)).2 = false := by cases h : (onlyI (x :: r)).2 with | false => rfl | true => exact absurd (hmm.2 h) huv
      rw [onlyI_no h2]
      have hb : (u == v) = false := by simp only [beq_eq_false_iff_ne, ne_eq]; exact huv
      clear hmm h2
      go_enter Try.func76, Try.ntmps76
      go_wp2_with fail
      refine (Hmin.out _ Hc.out).mono ?_
      rintro e w2 ⟨rfl, rfl⟩
      go_wp2_with fail
      refine (Hmax.out _ Hc.out).mono ?_
      rintro e w2 ⟨rfl, rfl⟩
      go_wp2
      go_ret2
      exact ⟨rfl, Below.refl _ _⟩
set_option maxHeartbeats 1000000 in
set_option maxRecDepth 100000 in
theorem implEqualNumber_any (p : Int) (l : PL) (A : Option Addr) (c : Nat) (w : World) (hl : l.length ≤ 1048576) (hA : CRead w w.heap.size A (pcells l)) :
    Calls Try.prog 33 #[.agg #[.int .i64 p, .slice A l.length c]] w fun e w' => e = .returned (.tuple #[.int .i64 (resEqualNumber p l).1, .bool (resEqualNumber p l).2]) ∧ Below w.heap.size w w' := by
  have hr : CRead (w.alloc (Obj.cells #[.int .i64 p, .slice A l.length c] 31)) (w.alloc (Obj.cells #[.int .i64 p, .slice A l.length c] 31)).heap.size A (pcells l) := (hA.below (B' := w.heap.size) (by go_grown) (Nat.le_refl _)).more (by go_size)
  have call := implNumbersOfFriends_any p l A c _ hl hr
  obtain ⟨⟨q, ok⟩, hq⟩ : ∃ x, resNumbersOfFriends p l = x := ⟨_, rfl⟩
  have hlen := resNumbersOfFriends_len p l
  rw [hq] at call hlen
  have e : resEqualNumber p l = if ok then onlyI q else (0, false) := by
    unfold resNumbersOfFriends at hq
    unfold resEqualNumber
    cases h : isP p l with
    | true => rw [h, if_pos rfl] at hq; cases hq; rfl
    | false => rw [h, if_neg (by decide)] at hq; cases hq; rfl
  rw [e]
  have Call := Lib.hid call
  clear call e hq
  cases ok with
  | false =>
    go_enter Try.func33, Try.ntmps33
    go_wp2_with fail
    refine Call.out.mono ?_
    rintro e w2 ⟨A2, c2, rfl, own, hb2⟩
    simp only [World.size_alloc] at hb2
    go_wp2
    go_ret2
    exact ⟨rfl, Below.trans (b := _) (by go_grown) (hb2.mono (by omega))⟩
  | true =>
    go_enter Try.func33, Try.ntmps33
    go_wp2_with fail
    refine Call.out.mono ?_
    rintro e w2 ⟨A2, c2, rfl, own, hb2⟩
    simp only [World.size_alloc] at hb2
    have k2 : Below w.heap.size w w2 := Below.trans (b := _) (by go_grown) (hb2.mono (by omega))
    go_wp2_with fail
    refine (onlyNumber_any q A2 c2 _ hlen (CRead.of_own own)).mono ?_
    rintro e w3 ⟨rfl, hb3⟩
    go_wp2
    go_ret2
    exact ⟨rfl, k2.trans (hb3.mono k2.size)⟩
/-- the least politician, -1 if there is none -/
def politV (p : Int) (q : List Int) : Int := Lib.idxOf q (p - 1)
def resPoliticianOf (p : Int) (l : PL) : Int × Bool := if isP p l && decide (0 ≤ politV p (numsOf p.toNat l)) then (politV p (numsOf p.toNat l), true) else (0, false)
theorem politV_hit {p : Int} {q : List Int} {k : Nat} (hk : k < q.length) (h : q.getD k 0 = p - 1) (hne : ∀ j, j < k → q.getD j 0 ≠ p - 1) : politV p q = k := by
  have := Lib.idxOf_hit q q.length k (p - 1) hk (Nat.le_refl _) h hne
  rwa [List.take_length] at this
theorem politV_miss {p : Int} {q : List Int} (hne : ∀ j, j < q.length → q.getD j 0 ≠ p - 1) : politV p q = -1 := by
  have := Lib.idxOf_miss q q.length (p - 1) hne
  rwa [List.take_length] at this
theorem politV_small (p : Int) (q : List Int) : politV p q = -1 ∨ (0 ≤ politV p q ∧ politV p q < q.length) := by
  by_cases h : ∃ k, k < q.length ∧ q.getD k 0 = p - 1
  · obtain ⟨k, hk⟩ := h
    have least : ∀ m, ∀ k, k ≤ m → (k < q.length ∧ q.getD k 0 = p - 1) → ∃ j, (j < q.length ∧ q.getD j 0 = p - 1) ∧ ∀ i, i < j → q.getD i 0 ≠ p - 1 := by
      intro m
      induction m with
      | zero => intro k hk h; exact ⟨k, h, fun i hi => by omega⟩
      | succ m ih =>
        intro k hkm h
        by_cases h2 : ∃ i, i < k ∧ q.getD i 0 = p - 1
        · obtain ⟨i, hi, h3⟩ := h2
          exact ih i (by omega) ⟨by omega, h3⟩
        · exact ⟨k, h, fun i hi e => h2 ⟨i, hi, e⟩⟩
    obtain ⟨j, hj, hne⟩ := least k k (Nat.le_refl _) hk
    right
    rw [politV_hit hj.1 hj.2 hne]
    omega
  · left
    exact politV_miss fun j hj e => h ⟨j, hj, e⟩
set_option maxHeartbeats 1000000 in
set_option maxRecDepth 100000 in
theorem cfPolitician_any (p : Int) (l : PL) (A : Option Addr) (c : Nat) (w : World) (hp : isP p l = true) (hA : CRead w w.heap.size A (pcells l)) :
    Calls Try.prog 73 #[.agg #[.int .i64 p, .slice A l.length c]] w fun e w' => e = .returned (.int .i64 (politV p (numsOf p.toNat l))) ∧ Below w.heap.size w w' := by
  have hr : CRead (w.alloc (Obj.cells #[.int .i64 p, .slice A l.length c] 31)) (w.alloc (Obj.cells #[.int .i64 p, .slice A l.length c] 31)).heap.size A (pcells l) := (hA.below (B' := w.heap.size) (by go_grown) (Nat.le_refl _)).more (by go_size)
  obtain ⟨n, rfl⟩ : ∃ n : Nat, p = n := ⟨p.toNat, by have := isP_range hp; omega⟩
  have hn := isP_range hp
  have hq := numsOf_length n l
  obtain ⟨q, hqd⟩ : ∃ q, numsOf n l = q := ⟨_, rfl⟩
  have call := paNumbers_any n l A c _ hp hr
  simp only [Int.toNat_natCast] at call ⊢
  rw [hqd] at call hq ⊢
  obtain ⟨v, hv⟩ : ∃ v, politV n q = v := ⟨_, rfl⟩
  rw [hv]
  have Hv := Lib.hid hv
  have Call := Lib.hid call
  clear call hp hqd hv
  go_enter Try.func73, Try.ntmps73
  go_wp2_with fail
  refine Call.out.mono ?_
  rintro e w2 ⟨g, rfl, own, hb2⟩
  simp only [World.size_alloc] at hb2 own
  have k2 : Below w.heap.size w w2 := Below.trans (b := _) (by go_grown) (hb2.mono (by omega))
  have hc : ∀ j, j < n → w2.cell? ⟨g, j, none⟩ = some (.int .i64 (q.getD j 0)) := fun j hj => by rw [own.cellAt j (by omega)]; exact icells_getD (by omega)
  have d0 : w2.cell? ⟨w.heap.size, 0, none⟩ = some (.int .i64 n) := carry hb2 (by simp) (by simp)
  have Hc := Lib.hid hc
  clear Call hc
  go_wp2
  go_loop [8] (fun i => ∃ k : Nat, k ≤ n ∧ i = .int .i64 k ∧ ∀ j, j < k → q.getD j 0 ≠ (n : Int) - 1) (fun i => n - (intOf i).toNat)
  case atStart => exact ⟨0, Nat.zero_le _, rfl, fun j hj => by omega⟩
  case round =>
    obtain ⟨k, hk, rfl, hall⟩ := hrel
    have Hall := Lib.hid hall
    clear hall
    by_cases hlt : k < n
    · have hki : (k : Int) < (n : Int) := by omega
      have ck := Hc.out k hlt
      obtain ⟨y, hy⟩ : ∃ y, q.getD k 0 = y := ⟨_, rfl⟩
      rw [hy] at ck
      by_cases he : y = (n : Int) - 1
      · have e : v = k := by rw [← Hv.out]; exact politV_hit (by omega) (hy.trans he) Hall.out
        subst e
        subst he
        clear hy
        go_wp2
        go_ret
        exact ⟨rfl, k2⟩
      · have hne : (y == (n : Int) - 1) = false := by simp only [beq_eq_false_iff_ne, ne_eq]; exact he
        have hall2 : ∀ j, j < k + 1 → q.getD j 0 ≠ (n : Int) - 1 := fun j hj => by
          by_cases hjk : j = k
          · rw [hjk, hy]; exact he
          · exact Hall.out j (by omega)
        have Hall2 := Lib.hid hall2
        clear hall2 hy
        go_wp2
        go_round
        case rel => exact ⟨k + 1, by omega, by go_num, Hall2.out⟩
        case measure => simp [intOf]; omega
    · have e : k = n := by omega
      subst e
      have hge : ¬ ((k : Int) < (k : Int)) := by omega
      have e : v = -1 := by rw [← Hv.out]; exact politV_miss fun j hj => Hall.out j (by omega)
      subst e
      go_wp2
      go_ret
      exact ⟨rfl, k2⟩
set_option maxHeartbeats 1000000 in
set_option maxRecDepth 100000 in
theorem specPoliticianOf_any (p : Int) (l : PL) (A : Option Addr) (c : Nat) (w : World) (hl : l.length ≤ 1048576) (hA : CRead w w.heap.size A (pcells l)) :
    Calls Try.prog 30 #[.agg #[.int .i64 p, .slice A l.length c]] w fun e w' => e = .returned (.tuple #[.int .i64 (resPoliticianOf p l).1, .bool (resPoliticianOf p l).2]) ∧ Below w.heap.size w w' := by
  have hr : CRead (w.alloc (Obj.cells #[.int .i64 p, .slice A l.length c] 31)) (w.alloc (Obj.cells #[.int .i64 p, .slice A l.length c] 31)).heap.size A (pcells l) := (hA.below (B' := w.heap.size) (by go_grown) (Nat.le_refl _)).more (by go_size)
  cases hp : isP p l with
  | false =>
    have e : resPoliticianOf p l = (0, false) := by simp [resPoliticianOf, hp]
    rw [e]
    have Hp := Lib.hid hp
    clear hp e
    go_enter Try.func30, Try.ntmps30
    go_wp2_with fail
    refine (paGood_any _ _ _ _ _ hl hr).mono ?_
    rw [Hp.out]
    rintro e w2 ⟨rfl, hb2⟩
    simp only [World.size_alloc] at hb2
    go_wp2
    go_ret2
    exact ⟨rfl, Below.trans (b := _) (by go_grown) (hb2.mono (by omega))⟩
  | true =>
    obtain ⟨v, hvd⟩ : ∃ v, politV p (numsOf p.toNat l) = v := ⟨_, rfl⟩
    have hv := politV_small p (numsOf p.toNat l)
    have call := fun (X : World) (hX : CRead X X.heap.size A (pcells l)) => cfPolitician_any p l A c X hp hX
    have e1 : v < 0 → resPoliticianOf p l = (0, false) := fun h => by unfold resPoliticianOf; rw [hvd, hp, decide_eq_false (by omega)]; rfl
    have e2 : 0 ≤ v → resPoliticianOf p l = (v, true) := fun h => by unfold resPoliticianOf; rw [hvd, hp, decide_eq_true h]; rfl
    rw [hvd] at hv call
    have Call := Lib.hid call
    have Hp := Lib.hid hp
    clear call hp hvd
    by_cases hv0 : v < 0
    all_goals
      first | rw [e1 hv0] | rw [e2 (by omega)]
      clear e1 e2
      go_enter Try.func30, Try.ntmps30
      go_wp2_with fail
      refine (paGood_any _ _ _ _ _ hl hr).mono ?_
      rw [Hp.out]
      rintro e w2 ⟨rfl, hb2⟩
      have s2 := hb2.size
      have k2 : Below w.heap.size w w2 := Below.trans (b := _) (by go_grown) (hb2.mono (by simp))
      have c0 : w2.cell? ⟨w.heap.size, 0, none⟩ = some (.int .i64 p) := carry hb2 (by simp) (by simp)
      have c1 : w2.cell? ⟨w.heap.size, 1, none⟩ = some (.slice A l.length c) := carry hb2 (by simp) (by simp)
      simp only [World.size_alloc] at s2
      go_wp2_with fail
      refine (Call.out _ ((hA.below k2 (Nat.le_refl _)).more k2.size)).mono ?_
      rintro e w3 ⟨rfl, hb3⟩
      have k3 := k2.trans (hb3.mono k2.size)
      have d0 : w3.cell? ⟨w.heap.size, 0, none⟩ = some (.int .i64 p) := carry hb3 c0 (by omega)
      have d1 : w3.cell? ⟨w.heap.size, 1, none⟩ = some (.slice A l.length c) := carry hb3 c1 (by omega)
      clear c0 c1
    · go_wp2
      go_ret2
      exact ⟨rfl, k3⟩
    · go_wp2_with fail
      refine (Call.out _ ((hA.below k3 (Nat.le_refl _)).more k3.size)).mono ?_
      rintro e w4 ⟨rfl, hb4⟩
      have k4 := k3.trans (hb4.mono k3.size)
      go_wp2
      go_ret2
      exact ⟨rfl, k4⟩
set_option maxHeartbeats 1000000 in
set_option maxRecDepth 100000 in
theorem implPoliticianOf_any (p : Int) (l : PL) (A : Option Addr) (c : Nat) (w : World) (hl : l.length ≤ 1048576) (hA : CRead w w.heap.size A (pcells l)) :
    Calls Try.prog 31 #[.agg #[.int .i64 p, .slice A l.length c]] w fun e w' => e = .returned (.tuple #[.int .i64 (resPoliticianOf p l).1, .bool (resPoliticianOf p l).2]) ∧ Below w.heap.size w w' := by
  have hr : CRead (w.alloc (Obj.cells #[.int .i64 p, .slice A l.length c] 31)) (w.alloc (Obj.cells #[.int .i64 p, .slice A l.length c] 31)).heap.size A (pcells l) := (hA.below (B' := w.heap.size) (by go_grown) (Nat.le_refl _)).more (by go_size)
  have call := implNumbersOfFriends_any p l A c _ hl hr
  cases hp : isP p l with
  | false =>
    have e : resPoliticianOf p l = (0, false) := by simp [resPoliticianOf, hp]
    have e2 : resNumbersOfFriends p l = ([], false) := by simp [resNumbersOfFriends, hp]
    rw [e]
    rw [e2] at call
    have Call := Lib.hid call
    clear call e e2 hp
    go_enter Try.func31, Try.ntmps31
    go_wp2_with fail
    refine Call.out.mono ?_
    rintro e w2 ⟨A2, c2, rfl, own, hb2⟩
    simp only [World.size_alloc] at hb2
    go_wp2
    go_ret2
    exact ⟨rfl, Below.trans (b := _) (by go_grown) (hb2.mono (by omega))⟩
  | true =>
    have e2 : resNumbersOfFriends p l = (numsOf p.toNat l, true) := by simp [resNumbersOfFriends, hp]
    have hlen := resNumbersOfFriends_len p l
    rw [e2] at call hlen
    obtain ⟨v, hvd⟩ : ∃ v, politV p (numsOf p.toNat l) = v := ⟨_, rfl⟩
    have hv := politV_small p (numsOf p.toNat l)
    have e1 : v < 0 → resPoliticianOf p l = (0, false) := fun h => by unfold resPoliticianOf; rw [hvd, hp, decide_eq_false (by omega)]; rfl
    have e2 : 0 ≤ v → resPoliticianOf p l = (v, true) := fun h => by unfold resPoliticianOf; rw [hvd, hp, decide_eq_true h]; rfl
    rw [hvd] at hv
    obtain ⟨q, hq⟩ : ∃ q, numsOf p.toNat l = q := ⟨_, rfl⟩
    rw [hq] at call hvd hlen hv
    simp only at hlen
    have hn := isP_range hp
    have idx : ∀ (A2 : Option Addr) (c2 : Nat) (X : World), CRead X X.heap.size A2 (icells q) → Calls Try.prog 74 #[.slice A2 q.length c2, .int .i64 (p - 1)] X fun e w' => e = .returned (.int .i64 v) ∧ w' = X := by
      intro A2 c2 X hX
      by_cases h0 : 0 < q.length
      · obtain ⟨b, off, rfl, _, hc⟩ := hX.ints h0
        have h := indexI_any b off q.length c2 q (p - 1) X rfl hlen hc
        rw [← hvd]
        exact h
      · have hq0 : q = [] := List.eq_nil_of_length_eq_zero (by omega)
        subst hq0
        have h := indexI_none A2 c2 (p - 1) X
        rw [← hvd]
        exact h
    have Idx := Lib.hid idx
    have Call := Lib.hid call
    clear call hp hvd hq idx
    by_cases hv0 : v < 0
    all_goals
      first | rw [e1 hv0] | rw [e2 (by omega)]
      clear e1 e2
      go_enter Try.func31, Try.ntmps31
      go_wp2_with fail
      refine Call.out.mono ?_
      rintro e w2 ⟨A2, c2, rfl, own, hb2⟩
      have d0 : w2.cell? ⟨w.heap.size, 0, none⟩ = some (.int .i64 p) := carry hb2 (by simp) (by simp)
      simp only [World.size_alloc] at hb2
      have k2 : Below w.heap.size w w2 := Below.trans (b := _) (by go_grown) (hb2.mono (by omega))
      go_wp2_with fail
      refine (Idx.out A2 c2 _ (CRead.of_own own)).mono ?_
      rintro e w3 ⟨rfl, rfl⟩
      go_wp2
      go_ret2
      exact ⟨rfl, k2⟩
end Go.Proofs.Ythpapkfpcijpoaa
/-
  THE PROGRAM's MEETINGS OF A PARTY (each pair of people, and whether they are friends), by its contract.
-/
namespace Go.Proofs.Ythpapkfpcijpoaa
open Go.RowKit

abbrev ML := List (Int × Int × Bool)
def mcells : ML → List Value
  | [] => []
  | m :: l => .int .i64 m.1 :: .int .i64 m.2.1 :: .bool m.2.2 :: mcells l
theorem mcells_length (l : ML) : (mcells l).length = l.length * 3 := by
  induction l with
  | nil => rfl
  | cons p l ih => simp only [mcells, List.length_cons, ih]; omega
theorem mcells_append (l m : ML) : mcells (l ++ m) = mcells l ++ mcells m := by
  induction l with
  | nil => rfl
  | cons p l ih => simp [mcells, ih]
theorem mcells_at {l : ML} {k : Nat} {x y : Int} {f : Bool} (h : l[k]? = some (x, y, f)) : (mcells l)[k * 3]? = some (.int .i64 x) ∧ (mcells l)[k * 3 + 1]? = some (.int .i64 y) ∧ (mcells l)[k * 3 + 2]? = some (.bool f) := by
  induction l generalizing k with
  | nil => simp at h
  | cons p l ih =>
    cases k with
    | zero => simp at h; subst h; exact ⟨rfl, rfl, rfl⟩
    | succ k =>
      have := ih (k := k) (by simpa using h)
      rw [show (k + 1) * 3 = k * 3 + 3 from by omega, show k * 3 + 3 + 1 = k * 3 + 1 + 3 from by omega, show k * 3 + 3 + 2 = k * 3 + 2 + 3 from by omega]
      simpa [mcells] using this
theorem CRead.meet {w : World} {B : Nat} {ad : Option Addr} {l : ML} (h : CRead w B ad (mcells l)) {k : Nat} {x y : Int} {f : Bool} (hk : l[k]? = some (x, y, f)) :
    ∃ b off, ad = some ⟨b, off, none⟩ ∧ b < B ∧ w.cell? ⟨b, off + k * 3, none⟩ = some (.int .i64 x) ∧ w.cell? ⟨b, off + k * 3 + 1, none⟩ = some (.int .i64 y) ∧ w.cell? ⟨b, off + k * 3 + 2, none⟩ = some (.bool f) := by
  obtain ⟨e0, e1, e2⟩ := mcells_at hk
  obtain ⟨b, off, rfl, hb, h0⟩ := h _ _ e0
  obtain ⟨b', off', e, _, h1⟩ := h _ _ e1
  simp only [Option.some.injEq, Addr.mk.injEq, and_true] at e
  obtain ⟨rfl, rfl⟩ := e
  obtain ⟨b', off', e, _, h2⟩ := h _ _ e2
  simp only [Option.some.injEq, Addr.mk.injEq, and_true] at e
  obtain ⟨rfl, rfl⟩ := e
  exact ⟨b, off, rfl, hb, h0, h1, h2⟩

/-- the meetings of pairs -/
def meets (l : PL) (qs : PL) : ML := qs.map fun q => (q.1, q.2, l.contains q)
theorem meets_snoc (l qs : PL) (a b : Int) : meets l (qs ++ [(a, b)]) = meets l qs ++ [(a, b, l.contains (a, b))] := by simp [meets]
theorem meets_length (l qs : PL) : (meets l qs).length = qs.length := by simp [meets]

theorem upTo_prefix {n a b : Nat} (ha : a < n) (hab : a < b) (hb : b ≤ n) : ∃ rest, allP n = upTo n a b ++ rest := by
  have e1 : List.range n = List.range (a + 1) ++ (List.range (n - (a + 1))).map (a + 1 + ·) := by
    rw [← List.range_add]; congr 1; omega
  have e2 : rowP a n = (List.range' (a + 1) (b - (a + 1))).map (fun b : Nat => ((a : Int), (b : Int))) ++ (List.range' b (n - b)).map (fun b : Nat => ((a : Int), (b : Int))) := by
    unfold rowP
    rw [← List.map_append]
    congr 1
    have := List.range'_append_1 (s := a + 1) (m := b - (a + 1)) (n := n - b)
    rw [show a + 1 + (b - (a + 1)) = b from by omega] at this
    rw [this]
    congr 1
    omega
  unfold allP
  rw [e1, List.flatMap_append, List.range_succ, List.flatMap_append]
  simp only [List.flatMap_cons, List.flatMap_nil, List.append_nil]
  rw [e2]
  unfold upTo
  exact ⟨_, by simp only [List.append_assoc]; rfl⟩
/-- how many of the pairs so far are friends -/
def toldTo (n : Nat) (l : PL) (a b : Nat) : Nat := ((upTo n a b).filter fun q => l.contains q).length
theorem toldTo_le {n : Nat} {l : PL} (h : isP n l = true) {a b : Nat} (ha : a < n) (hab : a < b) (hb : b ≤ n) : toldTo n l a b ≤ l.length := by
  obtain ⟨rest, hr⟩ := upTo_prefix ha hab hb
  have hl := isP_filter h
  rw [hr, List.filter_append] at hl
  unfold toldTo
  rw [← congrArg List.length hl, List.length_append]
  omega
theorem told_at {n : Nat} {l : PL} (h : isP n l = true) {a b : Nat} (hab : a < b) (hb : b < n) (hc : l.contains ((a : Int), (b : Int)) = true) : l[toldTo n l a b]? = some ((a : Int), (b : Int)) := by
  obtain ⟨rest, hr⟩ := upTo_prefix (n := n) (a := a) (b := b + 1) (by omega) (by omega) (by omega)
  have hl := isP_filter h
  rw [hr, upTo_next hab, List.append_assoc, List.filter_append] at hl
  simp only [List.singleton_append, List.filter_cons, hc, if_true] at hl
  unfold toldTo
  generalize (upTo n a b).filter (fun q => l.contains q) = F at hl ⊢
  rw [← hl]
  simp
theorem told_not {l : PL} {k : Nat} {x y : Int} (hx : l[k]? = some (x, y)) (a b : Int) (hc : l.contains (a, b) = false) : ¬ (x = a ∧ y = b) := by
  rintro ⟨rfl, rfl⟩
  rw [Bool.eq_false_iff] at hc
  exact hc (List.contains_iff_mem.2 (List.mem_of_getElem? hx))
theorem toldTo_yes {n : Nat} {l : PL} {a b : Nat} (hab : a < b) (hc : l.contains ((a : Int), (b : Int)) = true) : toldTo n l a (b + 1) = toldTo n l a b + 1 := by
  unfold toldTo; rw [upTo_next hab, List.filter_append]; simp only [List.filter_cons, hc, if_true, List.filter_nil, List.length_append, List.length_singleton]
theorem toldTo_no {n : Nat} {l : PL} {a b : Nat} (hab : a < b) (hc : l.contains ((a : Int), (b : Int)) = false) : toldTo n l a (b + 1) = toldTo n l a b := by
  unfold toldTo; rw [upTo_next hab, List.filter_append]; simp only [List.filter_cons, hc, Bool.false_eq_true, if_false, List.filter_nil, List.append_nil]
theorem toldTo_row (n : Nat) (l : PL) (a : Nat) : toldTo n l a n = toldTo n l (a + 1) (a + 1 + 1) := by unfold toldTo; rw [upTo_row]
theorem three_cells {w : World} {g : Nat} {u v x : Value} (h : w.cell? ⟨g, 0, none⟩ = some u) (h' : w.cell? ⟨g, 1, none⟩ = some v) (h'' : w.cell? ⟨g, 2, none⟩ = some x) : ∀ j y, [u, v, x][j]? = some y → w.cell? ((⟨g, 0, none⟩ : Addr).add j) = some y := by
  intro j y hy
  match j, hy with
  | 0, hy => simp at hy; subst hy; simpa [Addr.add] using h
  | 1, hy => simp at hy; subst hy; simpa [Addr.add] using h'
  | 2, hy => simp at hy; subst hy; simpa [Addr.add] using h''
theorem three_one {u v x : Value} (h : u.oneCell' = true) (h' : v.oneCell' = true) (h'' : x.oneCell' = true) : ∀ y ∈ [u, v, x], y.oneCell' = true := by
  intro y hy
  simp at hy
  rcases hy with rfl | rfl | rfl
  · exact h
  · exact h'
  · exact h''
theorem Try.infoMeet : (Try.prog.info? 107).map (fun i => (i.zero, i.size, i.bytes)) = some (some (.agg #[.int .i64 0, .int .i64 0, .bool false]), 3, 24) := by kernel_rfl
end Go.Proofs.Ythpapkfpcijpoaa
/-
  'impl.meetingsOf', by its contract.
-/
namespace Go.Proofs.Ythpapkfpcijpoaa
open Go.RowKit

theorem below_drewN {B : Nat} {a w : World} (h : Below B a w) (k : Nat) : Below B a (w.drewN k) := ⟨h.os, h.tape, h.output, h.size, h.block⟩

set_option maxHeartbeats 2000000 in
set_option maxRecDepth 100000 in
theorem meetingsOf_any (p : Int) (l : PL) (A : Option Addr) (c : Nat) (w : World) (hp : isP p l = true) (hA : CRead w w.heap.size A (pcells l)) :
    Calls Try.prog 104 #[.agg #[.int .i64 p, .slice A l.length c]] w fun e w' => ∃ A' c', e = .returned (.slice A' (meets l (allP p.toNat)).length c') ∧
      w'.ownsRow w.heap.size 107 3 (.slice A' (meets l (allP p.toNat)).length c') (meets l (allP p.toNat)).length (mcells (meets l (allP p.toNat))) ∧ Below w.heap.size w w' := by
  obtain ⟨i0, hi, hz0, hz1, hz2⟩ := info_parts Try.infoMeet
  obtain ⟨n, rfl⟩ : ∃ n : Nat, p = n := ⟨p.toNat, by have := isP_range hp; omega⟩
  have hn := isP_range hp
  have hn12 : n ≤ 12 := by omega
  have hlen : l.length ≤ 66 := by have h1 := isP_length hp; have h2 := people_sq hn.1 hn.2; omega
  simp only [Int.toNat_natCast]
  have Hp := Lib.hid hp
  clear hp
  go_enter Try.func104, Try.ntmps104
  go_wp2
  go_loopw [3, 4, 11] (fun v q i wr => ∃ a : Nat, a ≤ n ∧ i = .int .i64 a ∧ q = .int .i64 (toldTo n l a (a + 1)) ∧ wr.ownsRow (w.heap.size + 1) 107 3 v (meets l (upTo n a (a + 1))).length (mcells (meets l (upTo n a (a + 1)))) ∧ Below (w.heap.size + 1) (w.alloc (Obj.cells #[.int .i64 (n : Int), .slice A l.length c] 31)) wr) (fun _ _ i _ => n - (intOf i).toNat)
  case atStart => exact ⟨0, Nat.zero_le _, rfl, by simp [toldTo, upTo_start], World.ownsRow_nil _ _ _ _, Below.refl _ _⟩
  case round =>
    obtain ⟨a, ha, rfl, rfl, hown, hb⟩ := hrel
    have hs := hb.size
    simp only [World.size_alloc] at hs
    have v0 : wr.cell? ⟨w.heap.size, 0, none⟩ = some (.int .i64 n) := carry hb (by simp) (by omega)
    have v1 : wr.cell? ⟨w.heap.size, 1, none⟩ = some (.slice A l.length c) := carry hb (by simp) (by omega)
    by_cases hlt : a < n
    · have hai : (a : Int) < n := by omega
      have Hown := Lib.hid hown
      have Hb := Lib.hid hb
      clear hown hb
      go_wp2
      go_loopw [3, 4, 6] (fun v q i wx => ∃ b : Nat, a < b ∧ b ≤ n ∧ i = .int .i64 b ∧ q = .int .i64 (toldTo n l a b) ∧ wx.ownsRow (w.heap.size + 1) 107 3 v (meets l (upTo n a b)).length (mcells (meets l (upTo n a b))) ∧ Below (w.heap.size + 1) (w.alloc (Obj.cells #[.int .i64 (n : Int), .slice A l.length c] 31)) wx) (fun _ _ i _ => n - (intOf i).toNat)
      case atStart => exact ⟨a + 1, by omega, by omega, by go_num, rfl, Hown.out, Hb.out⟩
      case round =>
        clear Hown Hb v0 v1 hs
        obtain ⟨b, hab, hbn, rfl, rfl, hown, hb⟩ := hrel
        have hs := hb.size
        simp only [World.size_alloc] at hs
        have hbw : Below w.heap.size w wr := Below.trans (b := _) (by go_grown) (hb.mono (by omega))
        have v0 : wr.cell? ⟨w.heap.size, 0, none⟩ = some (.int .i64 n) := carry hb (by simp) (by omega)
        have v1 : wr.cell? ⟨w.heap.size, 1, none⟩ = some (.slice A l.length c) := carry hb (by simp) (by omega)
        by_cases hbt : b < n
        · have hbi : (b : Int) < n := by omega
          have htl := toldTo_le Hp.out hlt hab hbn
          have hml : (meets l (upTo n a b)).length ≤ 1000 := by rw [meets_length]; exact upTo_length (by omega) (by omega) hn12
          have e0 : (wr.alloc (Obj.cells #[.int .i64 (a : Int), .int .i64 (b : Int)] 71)).cell? ⟨w.heap.size, 1, none⟩ = some (.slice A l.length c) := (World.cell?_alloc_lt _ _ _ (show w.heap.size < wr.heap.size by omega)).trans v1
          have e1 : (wr.alloc (Obj.cells #[.int .i64 (a : Int), .int .i64 (b : Int)] 71)).cell? ⟨w.heap.size, 0, none⟩ = some (.int .i64 n) := (World.cell?_alloc_lt _ _ _ (show w.heap.size < wr.heap.size by omega)).trans v0
          cases hc : l.contains ((a : Int), (b : Int)) with
          | true =>
            have ht := told_at Hp.out hab hbt hc
            have htlt : toldTo n l a b < l.length := (List.getElem?_eq_some_iff.1 ht).1
            obtain ⟨bb, off, rfl, hbb, c0, c1⟩ := (hA.below hbw (Nat.le_refl _)).pair ht
            have Hc := Lib.hid hc
            have Hyes := Lib.hid (toldTo_yes (n := n) hab hc)
            clear hc ht
            generalize hq : toldTo n l a b = q at *
            have Hq := Lib.hid hq
            clear hq
            have hqi : (q : Int) < (l.length : Int) := by omega
            have hqd : decide ((q : Int) < (l.length : Int)) = true := by simp; omega
            have hqd' : decide (q < l.length) = true := by simp; omega
            have f0 : (wr.alloc (Obj.cells #[.int .i64 (a : Int), .int .i64 (b : Int)] 71)).cell? ⟨bb, off + q * 2, none⟩ = some (.int .i64 a) := (World.cell?_alloc_lt _ _ _ (show bb < wr.heap.size by omega)).trans c0
            have f1 : (wr.alloc (Obj.cells #[.int .i64 (a : Int), .int .i64 (b : Int)] 71)).cell? ⟨bb, off + q * 2 + 1, none⟩ = some (.int .i64 b) := (World.cell?_alloc_lt _ _ _ (show bb < wr.heap.size by omega)).trans c1
            go_wp2
            go_quiet (fail)
            generalize hW : (wr.alloc (Obj.cells #[.int .i64 (a : Int), .int .i64 (b : Int)] 71)).drewN nq = W
            have g0 : W.cell? ⟨wr.heap.size, 0, none⟩ = some (.int .i64 a) := by rw [← hW]; simp
            have g1 : W.cell? ⟨wr.heap.size, 1, none⟩ = some (.int .i64 b) := by rw [← hW]; simp
            have g2 : W.cell? ⟨w.heap.size, 1, none⟩ = some (.slice (some ⟨bb, off, none⟩) l.length c) := by rw [← hW]; exact e0
            have g3 : W.cell? ⟨w.heap.size, 0, none⟩ = some (.int .i64 n) := by rw [← hW]; exact e1
            have ownW : W.ownsRow (w.heap.size + 1) 107 3 u3 (meets l (upTo n a b)).length (mcells (meets l (upTo n a b))) := by rw [← hW]; exact hown.alloc _
            have bW : Below (w.heap.size + 1) (w.alloc (Obj.cells #[.int .i64 (n : Int), .slice (some ⟨bb, off, none⟩) l.length c] 31)) W := by rw [← hW]; exact below_drewN (hb.alloc (by omega) _) _
            have sW : wr.heap.size < W.heap.size := by rw [← hW]; simp
            have sW2 : w.heap.size + 1 ≤ W.heap.size := by omega
            clear hW e0 e1 v0 v1 hown hb hs c0 c1 f0 f1
            go_wp2_with (at_builtin; refine wpList_append_own _ rfl _ _ 102 rfl (w.heap.size + 1) 107 i0 _ 3 24 Try.underlying102 hi hz0 hz1 hz2 rfl (by decide) _ _ _ rfl (ownW.alloc _) ⟨W.heap.size, 0, none⟩ 1 1 [.int .i64 a, .int .i64 b, .bool true] rfl rfl (three_cells (by simp) (by simp) (by simp)) (three_one rfl rfl rfl) (by unfold maxLen; omega) (by omega) (by simp; omega) ?_; intro v1 w1 hown1 hg1 _; obtain ⟨A1, d1', rfl, _⟩ := own_shape hown1; have bW1 : Below (w.heap.size + 1) (w.alloc (Obj.cells #[.int .i64 (n : Int), .slice (some ⟨bb, off, none⟩) l.length c] 31)) w1 := (bW.alloc (by omega) _).grown hg1 (by simp; omega) (fun k hk => (ownW.lt k hk).1); have z0 : w1.cell? ⟨w.heap.size, 0, none⟩ = some (.int .i64 n) := carry bW1 (by simp) (by omega); have z1 : w1.cell? ⟨w.heap.size, 1, none⟩ = some (.slice (some ⟨bb, off, none⟩) l.length c) := carry bW1 (by simp) (by omega))
            go_roundw
            case rel =>
              refine ⟨b + 1, by omega, by omega, by go_num, ?_, ?_, bW1⟩
              · rw [Hyes.out]; go_num
              · rw [upTo_next hab, meets_snoc, Hc.out, mcells_append, List.length_append]
                exact hown1
            case measure => simp [intOf]; omega
          | false =>
            have Hc := Lib.hid hc
            have Hno := Lib.hid (toldTo_no (n := n) hab hc)
            clear hc
            generalize hq : toldTo n l a b = q at *
            have Hq := Lib.hid hq
            clear hq
            by_cases hqt : q < l.length
            · obtain ⟨⟨x, y⟩, hx⟩ := getSome l q hqt
              obtain ⟨bb, off, rfl, hbb, c0, c1⟩ := (hA.below hbw (Nat.le_refl _)).pair hx
              have hne := told_not hx a b Hc.out
              have Hx := Lib.hid hx
              clear hx
              have hqi : (q : Int) < (l.length : Int) := by omega
              have hqd : decide ((q : Int) < (l.length : Int)) = true := by simp; omega
              have hqd' : decide (q < l.length) = true := by simp; omega
              have f0 : (wr.alloc (Obj.cells #[.int .i64 (a : Int), .int .i64 (b : Int)] 71)).cell? ⟨bb, off + q * 2, none⟩ = some (.int .i64 x) := (World.cell?_alloc_lt _ _ _ (show bb < wr.heap.size by omega)).trans c0
              have f1 : (wr.alloc (Obj.cells #[.int .i64 (a : Int), .int .i64 (b : Int)] 71)).cell? ⟨bb, off + q * 2 + 1, none⟩ = some (.int .i64 y) := (World.cell?_alloc_lt _ _ _ (show bb < wr.heap.size by omega)).trans c1
              by_cases hxa : x = (a : Int)
              · have hyb : ¬ y = (b : Int) := fun h => hne ⟨hxa, h⟩
                clear hne
                subst hxa
                go_wp2
                go_quiet (fail)
                generalize hW : (wr.alloc (Obj.cells #[.int .i64 (a : Int), .int .i64 (b : Int)] 71)).drewN nq = W
                have g0 : W.cell? ⟨wr.heap.size, 0, none⟩ = some (.int .i64 a) := by rw [← hW]; simp
                have g1 : W.cell? ⟨wr.heap.size, 1, none⟩ = some (.int .i64 b) := by rw [← hW]; simp
                have g2 : W.cell? ⟨w.heap.size, 1, none⟩ = some (.slice (some ⟨bb, off, none⟩) l.length c) := by rw [← hW]; exact e0
                have g3 : W.cell? ⟨w.heap.size, 0, none⟩ = some (.int .i64 n) := by rw [← hW]; exact e1
                have ownW : W.ownsRow (w.heap.size + 1) 107 3 u3 (meets l (upTo n a b)).length (mcells (meets l (upTo n a b))) := by rw [← hW]; exact hown.alloc _
                have bW : Below (w.heap.size + 1) (w.alloc (Obj.cells #[.int .i64 (n : Int), .slice (some ⟨bb, off, none⟩) l.length c] 31)) W := by rw [← hW]; exact below_drewN (hb.alloc (by omega) _) _
                have sW : wr.heap.size < W.heap.size := by rw [← hW]; simp
                have sW2 : w.heap.size + 1 ≤ W.heap.size := by omega
                clear hW e0 e1 v0 v1 hown hb hs c0 c1 f0 f1
                go_wp2_with (at_builtin; refine wpList_append_own _ rfl _ _ 102 rfl (w.heap.size + 1) 107 i0 _ 3 24 Try.underlying102 hi hz0 hz1 hz2 rfl (by decide) _ _ _ rfl (ownW.alloc _) ⟨W.heap.size, 0, none⟩ 1 1 [.int .i64 a, .int .i64 b, .bool false] rfl rfl (three_cells (by simp) (by simp) (by simp)) (three_one rfl rfl rfl) (by unfold maxLen; omega) (by omega) (by simp; omega) ?_; intro v1 w1 hown1 hg1 _; obtain ⟨A1, d1', rfl, _⟩ := own_shape hown1; have bW1 : Below (w.heap.size + 1) (w.alloc (Obj.cells #[.int .i64 (n : Int), .slice (some ⟨bb, off, none⟩) l.length c] 31)) w1 := (bW.alloc (by omega) _).grown hg1 (by simp; omega) (fun k hk => (ownW.lt k hk).1); have z0 : w1.cell? ⟨w.heap.size, 0, none⟩ = some (.int .i64 n) := carry bW1 (by simp) (by omega); have z1 : w1.cell? ⟨w.heap.size, 1, none⟩ = some (.slice (some ⟨bb, off, none⟩) l.length c) := carry bW1 (by simp) (by omega))
                go_roundw
                case rel =>
                  refine ⟨b + 1, by omega, by omega, by go_num, ?_, ?_, bW1⟩
                  · rw [Hno.out]
                  · rw [upTo_next hab, meets_snoc, Hc.out, mcells_append, List.length_append]
                    exact hown1
                case measure => simp [intOf]; omega
              · clear hne
                go_wp2
                go_quiet (fail)
                generalize hW : (wr.alloc (Obj.cells #[.int .i64 (a : Int), .int .i64 (b : Int)] 71)).drewN nq = W
                have g0 : W.cell? ⟨wr.heap.size, 0, none⟩ = some (.int .i64 a) := by rw [← hW]; simp
                have g1 : W.cell? ⟨wr.heap.size, 1, none⟩ = some (.int .i64 b) := by rw [← hW]; simp
                have g2 : W.cell? ⟨w.heap.size, 1, none⟩ = some (.slice (some ⟨bb, off, none⟩) l.length c) := by rw [← hW]; exact e0
                have g3 : W.cell? ⟨w.heap.size, 0, none⟩ = some (.int .i64 n) := by rw [← hW]; exact e1
                have ownW : W.ownsRow (w.heap.size + 1) 107 3 u3 (meets l (upTo n a b)).length (mcells (meets l (upTo n a b))) := by rw [← hW]; exact hown.alloc _
                have bW : Below (w.heap.size + 1) (w.alloc (Obj.cells #[.int .i64 (n : Int), .slice (some ⟨bb, off, none⟩) l.length c] 31)) W := by rw [← hW]; exact below_drewN (hb.alloc (by omega) _) _
                have sW : wr.heap.size < W.heap.size := by rw [← hW]; simp
                have sW2 : w.heap.size + 1 ≤ W.heap.size := by omega
                clear hW e0 e1 v0 v1 hown hb hs c0 c1 f0 f1
                go_wp2_with (at_builtin; refine wpList_append_own _ rfl _ _ 102 rfl (w.heap.size + 1) 107 i0 _ 3 24 Try.underlying102 hi hz0 hz1 hz2 rfl (by decide) _ _ _ rfl (ownW.alloc _) ⟨W.heap.size, 0, none⟩ 1 1 [.int .i64 a, .int .i64 b, .bool false] rfl rfl (three_cells (by simp) (by simp) (by simp)) (three_one rfl rfl rfl) (by unfold maxLen; omega) (by omega) (by simp; omega) ?_; intro v1 w1 hown1 hg1 _; obtain ⟨A1, d1', rfl, _⟩ := own_shape hown1; have bW1 : Below (w.heap.size + 1) (w.alloc (Obj.cells #[.int .i64 (n : Int), .slice (some ⟨bb, off, none⟩) l.length c] 31)) w1 := (bW.alloc (by omega) _).grown hg1 (by simp; omega) (fun k hk => (ownW.lt k hk).1); have z0 : w1.cell? ⟨w.heap.size, 0, none⟩ = some (.int .i64 n) := carry bW1 (by simp) (by omega); have z1 : w1.cell? ⟨w.heap.size, 1, none⟩ = some (.slice (some ⟨bb, off, none⟩) l.length c) := carry bW1 (by simp) (by omega))
                go_roundw
                case rel =>
                  refine ⟨b + 1, by omega, by omega, by go_num, ?_, ?_, bW1⟩
                  · rw [Hno.out]
                  · rw [upTo_next hab, meets_snoc, Hc.out, mcells_append, List.length_append]
                    exact hown1
                case measure => simp [intOf]; omega
            · have hqd : decide ((q : Int) < (l.length : Int)) = false := by simp; omega
              have hqd' : decide (q < l.length) = false := by simp; omega
              go_wp2
              go_quiet (fail)
              generalize hW : (wr.alloc (Obj.cells #[.int .i64 (a : Int), .int .i64 (b : Int)] 71)).drewN nq = W
              have g0 : W.cell? ⟨wr.heap.size, 0, none⟩ = some (.int .i64 a) := by rw [← hW]; simp
              have g1 : W.cell? ⟨wr.heap.size, 1, none⟩ = some (.int .i64 b) := by rw [← hW]; simp
              have g2 : W.cell? ⟨w.heap.size, 1, none⟩ = some (.slice A l.length c) := by rw [← hW]; exact e0
              have g3 : W.cell? ⟨w.heap.size, 0, none⟩ = some (.int .i64 n) := by rw [← hW]; exact e1
              have ownW : W.ownsRow (w.heap.size + 1) 107 3 u3 (meets l (upTo n a b)).length (mcells (meets l (upTo n a b))) := by rw [← hW]; exact hown.alloc _
              have bW : Below (w.heap.size + 1) (w.alloc (Obj.cells #[.int .i64 (n : Int), .slice A l.length c] 31)) W := by rw [← hW]; exact below_drewN (hb.alloc (by omega) _) _
              have sW : wr.heap.size < W.heap.size := by rw [← hW]; simp
              have sW2 : w.heap.size + 1 ≤ W.heap.size := by omega
              clear hW e0 e1 v0 v1 hown hb hs
              go_wp2_with (at_builtin; refine wpList_append_own _ rfl _ _ 102 rfl (w.heap.size + 1) 107 i0 _ 3 24 Try.underlying102 hi hz0 hz1 hz2 rfl (by decide) _ _ _ rfl (ownW.alloc _) ⟨W.heap.size, 0, none⟩ 1 1 [.int .i64 a, .int .i64 b, .bool false] rfl rfl (three_cells (by simp) (by simp) (by simp)) (three_one rfl rfl rfl) (by unfold maxLen; omega) (by omega) (by simp; omega) ?_; intro v1 w1 hown1 hg1 _; obtain ⟨A1, d1', rfl, _⟩ := own_shape hown1; have bW1 : Below (w.heap.size + 1) (w.alloc (Obj.cells #[.int .i64 (n : Int), .slice A l.length c] 31)) w1 := (bW.alloc (by omega) _).grown hg1 (by simp; omega) (fun k hk => (ownW.lt k hk).1); have z0 : w1.cell? ⟨w.heap.size, 0, none⟩ = some (.int .i64 n) := carry bW1 (by simp) (by omega); have z1 : w1.cell? ⟨w.heap.size, 1, none⟩ = some (.slice A l.length c) := carry bW1 (by simp) (by omega))
              go_roundw
              case rel =>
                refine ⟨b + 1, by omega, by omega, by go_num, ?_, ?_, bW1⟩
                · rw [Hno.out]
                · rw [upTo_next hab, meets_snoc, Hc.out, mcells_append, List.length_append]
                  exact hown1
              case measure => simp [intOf]; omega
        · have hbn' : n = b := by omega
          subst hbn'
          have hge : ¬ ((n : Int) < n) := by omega
          go_wp2
          go_roundw
          case rel => exact ⟨a + 1, by omega, by go_num, by rw [← toldTo_row], by rw [← upTo_row]; exact hown, hb⟩
          case measure => simp [intOf]; omega
    · have hal : n = a := by omega
      subst hal
      have hge : ¬ ((n : Int) < n) := by omega
      rw [upTo_all] at hown
      obtain ⟨A', c', rfl, _⟩ := own_shape hown
      have hbw : Below w.heap.size w wr := Below.trans (b := _) (by go_grown) (hb.mono (by omega))
      have Hown := Lib.hid hown
      clear hown
      go_wp2
      go_ret
      exact ⟨A', c', rfl, own_lower Hown.out (Nat.le_succ _), hbw⟩
end Go.Proofs.Ythpapkfpcijpoaa
