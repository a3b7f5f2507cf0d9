/-
  Texts put together for the claim of 'IsFriendly' (pack 5): Friendly, LawIsFriendly, Head, Facts.
-/
import Derived.Test.YthpapkfpcijpoaaIsFriendlyP1
import Derived.Test.YthpapkfpcijpoaaIsFriendlyP4
import Derived.Deep.RegionHeld3
import Derived.Test.YthpapkfpcijpoaaRows
/-
  'IsFriendly': the model's and the program's, by their contracts.
-/
namespace Go.Proofs.Ythpapkfpcijpoaa
open Go.RowKit

def oneB (n : Nat) (t : Nat → Nat → Bool) (q : Int × Int) : Bool := decide (commonN n t q.1.toNat q.2.toNat ≠ 1)
def friendlyB (n : Nat) (t : Nat → Nat → Bool) : Bool := !(allP n).any (oneB n t)
theorem friendly_no {n : Nat} {t : Nat → Nat → Bool} {a b : Nat} (hba : b < a) (ha : a < n) (h : commonN n t a b ≠ 1) : friendlyB n t = false := by
  unfold friendlyB
  rw [List.any_eq_true.2 ⟨((b : Int), (a : Int)), mem_allP.2 ⟨by simp, by simp; omega, by simp; omega⟩, by
    refine decide_eq_true ?_
    show commonN n t ((b : Int)).toNat ((a : Int)).toNat ≠ 1
    rw [Int.toNat_natCast, Int.toNat_natCast, commonN_comm]
    exact h⟩]
  rfl
theorem friendly_yes {n : Nat} {t : Nat → Nat → Bool} (h : ∀ a b, b < a → a < n → commonN n t a b = 1) : friendlyB n t = true := by
  unfold friendlyB
  rw [List.any_eq_false.2 fun q hq => by
    have := mem_allP.1 hq
    have e := h q.2.toNat q.1.toNat (by omega) (by omega)
    rw [commonN_comm] at e
    simp [oneB, e]]
  rfl
def resIsFriendly (p : Int) (l : PL) : Bool × Bool := if isP p l && decide (0 < p) then (friendlyB p.toNat (adj l), true) else (false, false)
theorem any_noF {l : PL} {f : Int × Int → Bool} (h : ∀ (j : Nat) (x : Int × Int), j < l.length → l[j]? = some x → f x = false) : l.any f = false := by
  rw [List.any_eq_false]
  intro x hx
  obtain ⟨j, hj⟩ := List.getElem?_of_mem hx
  rw [h j x (List.getElem?_eq_some_iff.1 hj).1 hj]
  simp
set_option maxHeartbeats 1000000 in
set_option maxRecDepth 100000 in
theorem notOne_any {n : Nat} {l : PL} (hp : isP n l = true) (x y g : Nat) (hx : x < n) (hy : y < n) (w : World) (row : w.rowIs g 65 12 (fun j => .int .u16 (friendsT l j))) :
    Calls Try.prog 60 #[.agg #[.int .i64 x, .int .i64 y], .pointer (some ⟨g, 0, none⟩)] w fun e w' => e = .returned (.bool (oneB n (adj l) ((x : Int), (y : Int)))) ∧ Below w.heap.size w w' := by
  have hn := isP_range hp
  have hT := friendsT_of hp
  have call := fun X => countCommon_any hT.lt (show x < 12 by omega) (show y < 12 by omega) (common_set hp hx hy) X
  have hg : g < w.heap.size := World.block_lt_of_cell? w _ (row.cell (i := 0) (by omega))
  have tm : ∀ i, i < 12 → (w.alloc (Obj.cells #[.int .i64 x, .int .i64 y] 71)).cell? ⟨g, i, none⟩ = some (.int .u16 (friendsT l i)) := fun i hi => (World.cell?_alloc_lt _ _ _ (by show g < w.heap.size; exact hg)).trans (row.cell hi)
  have T0 := tm 0 (by omega)
  have T1 := tm 1 (by omega)
  have T2 := tm 2 (by omega)
  have T3 := tm 3 (by omega)
  have T4 := tm 4 (by omega)
  have T5 := tm 5 (by omega)
  have T6 := tm 6 (by omega)
  have T7 := tm 7 (by omega)
  have T8 := tm 8 (by omega)
  have T9 := tm 9 (by omega)
  have T10 := tm 10 (by omega)
  have T11 := tm 11 (by omega)
  have e : oneB n (adj l) ((x : Int), (y : Int)) = decide (commonN n (adj l) x y ≠ 1) := rfl
  rw [e]
  have ec : ((List.range n).filter fun z => adj l x z && adj l y z).length = commonN n (adj l) x y := rfl
  simp only [ec] at call
  obtain ⟨C, hC⟩ : ∃ C, commonN n (adj l) x y = C := ⟨_, rfl⟩
  simp only [hC] at call ⊢
  unfold tcells at call
  have Call := Lib.hid call
  clear call tm row e ec hC hT hp
  by_cases h1 : C = 1
  · subst h1
    go_enter Try.func60, Try.ntmps60
    go_wp2_with fail
    refine (Call.out _).mono ?_
    rintro e w2 ⟨rfl, hb2⟩
    simp only [World.size_alloc] at hb2
    go_wp2
    go_ret
    exact ⟨rfl, Below.trans (b := _) (by go_grown) (hb2.mono (by omega))⟩
  · have hne : ((C : Int) == 1) = false := by simp only [beq_eq_false_iff_ne, ne_eq]; omega
    have hd : decide (C ≠ 1) = true := decide_eq_true h1
    rw [hd]
    clear hd
    go_enter Try.func60, Try.ntmps60
    go_wp2_with fail
    refine (Call.out _).mono ?_
    rintro e w2 ⟨rfl, hb2⟩
    simp only [World.size_alloc] at hb2
    go_wp2
    go_ret
    exact ⟨by simp; omega, Below.trans (b := _) (by go_grown) (hb2.mono (by omega))⟩
set_option maxHeartbeats 4000000 in
set_option maxRecDepth 100000 in
theorem indexNotOne_any {n : Nat} {l : PL} (hp : isP n l = true) (L : PL) (A : Option Addr) (c : Nat) (g : Nat) (w : World) (hl : L.length ≤ 1048576) (hin : ∀ q ∈ L, 0 ≤ q.1 ∧ q.1 < n ∧ 0 ≤ q.2 ∧ q.2 < n) (hA : CRead w w.heap.size A (pcells L)) (row : w.rowIs g 65 12 (fun j => .int .u16 (friendsT l j))) :
    Calls Try.prog 93 #[.slice A L.length c, .func (.func 60) #[] #[.pointer (some ⟨g, 0, none⟩)]] w fun e w' => ∃ i : Int, e = .returned (.int .i64 i) ∧ decide (0 ≤ i) = L.any (oneB n (adj l)) ∧ Below w.heap.size w w' := by
  have hg : g < w.heap.size := World.block_lt_of_cell? w _ (row.cell (i := 0) (by omega))
  have Hp := Lib.hid hp
  have Hin := Lib.hid hin
  have Row := Lib.hid row
  clear hp hin row
  go_enter Try.func93, Try.ntmps93
  go_wp2
  go_loopw [8] (fun i wr => ∃ k : Nat, k ≤ L.length ∧ i = .int .i64 k ∧ Below w.heap.size w wr ∧ ∀ (j : Nat) (x : Int × Int), j < k → L[j]? = some x → (oneB n (adj l)) x = false) (fun i _ => L.length - (intOf i).toNat)
  case atStart => exact ⟨0, Nat.zero_le _, rfl, Below.refl _ _, fun j x hj => by omega⟩
  case round =>
    obtain ⟨k, hk, rfl, hb, hall⟩ := hrel
    have Hall := Lib.hid hall
    clear hall
    have s0 := hb.size
    by_cases hlt : k < L.length
    · obtain ⟨⟨x', y'⟩, hx⟩ := getSome L k hlt
      have hq := Hin.out _ (List.mem_of_getElem? hx)
      simp only at hq
      obtain ⟨x, rfl⟩ : ∃ x : Nat, x' = x := ⟨x'.toNat, by omega⟩
      obtain ⟨y, rfl⟩ : ∃ x : Nat, y' = x := ⟨y'.toNat, by omega⟩
      obtain ⟨bb, off, rfl, hbb, c0, c1⟩ := (hA.below hb (Nat.le_refl _)).pair hx
      have hrow : wr.rowIs g 65 12 (fun j => .int .u16 (friendsT l j)) := by obtain ⟨cc, h1, h2⟩ := Row.out; exact ⟨cc, (hb.block _ hg).trans h1, h2⟩
      have call := notOne_any Hp.out x y g (by omega) (by omega) wr hrow
      obtain ⟨r, hr⟩ : ∃ r, (oneB n (adj l)) ((x : Int), (y : Int)) = r := ⟨_, rfl⟩
      rw [hr] at call
      have hki : (k : Int) < (L.length : Int) := by omega
      have Hx := Lib.hid hx
      have Hr := Lib.hid hr
      have Call := Lib.hid call
      clear hx hr call hrow hq
      go_wp2_with fail
      refine Call.out.mono ?_
      rintro e w2 ⟨rfl, hb2⟩
      have k2 := hb.trans (hb2.mono s0)
      cases r with
      | true =>
        have Hf := Lib.hid (show L.any (oneB n (adj l)) = true from List.any_eq_true.2 ⟨_, List.mem_of_getElem? Hx.out, Hr.out⟩)
        go_wp2
        go_ret
        exact ⟨k, rfl, by rw [Hf.out]; exact decide_eq_true (by omega), k2⟩
      | false =>
        go_wp2
        go_roundw
        case rel => exact ⟨k + 1, by omega, by go_num, k2, fun j x hj hxj => by
                      by_cases hjk : j = k
                      · subst hjk
                        rw [Hx.out] at hxj
                        rw [← Option.some.inj hxj]
                        exact Hr.out
                      · exact Hall.out j x (by omega) hxj⟩
        case measure => simp [intOf]; omega
    · have hkl : k = L.length := by omega
      have hge : ¬ ((k : Int) < (L.length : Int)) := by omega
      have He := Lib.hid (show L.any (oneB n (adj l)) = false from any_noF fun j x hj hx => Hall.out j x (by omega) hx)
      go_wp2
      go_ret
      exact ⟨-1, rfl, by rw [He.out]; rfl, hb⟩
set_option maxHeartbeats 2000000 in
set_option maxRecDepth 100000 in
theorem containsNotOne_any {n : Nat} {l : PL} (hp : isP n l = true) (L : PL) (A : Option Addr) (c : Nat) (g : Nat) (w : World) (hl : L.length ≤ 1048576) (hin : ∀ q ∈ L, 0 ≤ q.1 ∧ q.1 < n ∧ 0 ≤ q.2 ∧ q.2 < n) (hA : CRead w w.heap.size A (pcells L)) (row : w.rowIs g 65 12 (fun j => .int .u16 (friendsT l j))) :
    Calls Try.prog 61 #[.slice A L.length c, .func (.func 60) #[] #[.pointer (some ⟨g, 0, none⟩)]] w fun e w' => e = .returned (.bool (L.any (oneB n (adj l)))) ∧ Below w.heap.size w w' := by
  have call := indexNotOne_any hp L A c g w hl hin hA row
  have Call := Lib.hid call
  clear call
  go_enter Try.func61, Try.ntmps61
  go_wp2_with fail
  refine Call.out.mono ?_
  rintro e w2 ⟨i, rfl, hi, hb2⟩
  have Hi := Lib.hid hi
  clear hi
  go_wp2
  go_ret
  exact ⟨by rw [← Hi.out]; rfl, hb2⟩
set_option maxHeartbeats 2000000 in
set_option maxRecDepth 100000 in
theorem implIsFriendly_any (p : Int) (l : PL) (A : Option Addr) (c : Nat) (w : World) (hl : l.length ≤ 1048576) (hA : CRead w w.heap.size A (pcells l)) :
    Calls Try.prog 24 #[.agg #[.int .i64 p, .slice A l.length c]] w fun e w' => e = .returned (.tuple #[.bool (resIsFriendly p l).1, .bool (resIsFriendly p l).2]) ∧ Below w.heap.size w w' := by
  have hr : CRead (w.alloc (Obj.cells #[.int .i64 p, .slice A l.length c] 31)) (w.alloc (Obj.cells #[.int .i64 p, .slice A l.length c] 31)).heap.size A (pcells l) := (hA.below (B' := w.heap.size) (by go_grown) (Nat.le_refl _)).more (by go_size)
  obtain ⟨⟨rv, rok⟩, hres⟩ : ∃ x, resIsFriendly p l = x := ⟨_, rfl⟩
  rw [hres]
  cases hp : isP p l with
  | false =>
    have e : (rv, rok) = (false, false) := by rw [← hres]; unfold resIsFriendly; rw [hp]; rfl
    simp only [Prod.mk.injEq] at e
    obtain ⟨rfl, rfl⟩ := e
    have Hp := Lib.hid hp
    clear hp hres
    go_enter Try.func24, Try.ntmps24
    go_wp2_with fail
    refine (isParty_any _ _ _ _ _ hl hr).mono ?_
    rw [Hp.out]
    rintro e w2 ⟨rfl, hb2⟩
    simp only [World.size_alloc] at hb2
    go_wp2
    go_ret2
    exact ⟨rfl, Below.trans (b := _) (by go_grown) (hb2.mono (by omega))⟩
  | true =>
    obtain ⟨n, rfl⟩ : ∃ n : Nat, p = n := ⟨p.toNat, by have := isP_range hp; omega⟩
    have hn := isP_range hp
    have hn12 : n ≤ 12 := by omega
    by_cases h0 : n = 0
    · have e : (rv, rok) = (false, false) := by rw [← hres]; unfold resIsFriendly; rw [decide_eq_false (show ¬ ((0 : Int) < (n : Int)) by omega)]; simp
      simp only [Prod.mk.injEq] at e
      obtain ⟨rfl, rfl⟩ := e
      have Hp := Lib.hid hp
      have Hz := Lib.hid h0
      clear hp hres h0
      go_enter Try.func24, Try.ntmps24
      go_wp2_with fail
      refine (isParty_any _ _ _ _ _ hl hr).mono ?_
      rw [Hp.out]
      rintro e w2 ⟨rfl, hb2⟩
      have c0 : w2.cell? ⟨w.heap.size, 0, none⟩ = some (.int .i64 n) := carry hb2 (by simp) (by simp)
      have hz : ((n : Int) == 0) = true := by have := Hz.out; rw [this]; rfl
      simp only [World.size_alloc] at hb2
      go_wp2
      go_ret2
      exact ⟨rfl, Below.trans (b := _) (by go_grown) (hb2.mono (by omega))⟩
    · have hz : ((n : Int) == 0) = false := by simp only [beq_eq_false_iff_ne, ne_eq]; omega
      have e : (rv, rok) = (!(allP n).any (oneB n (adj l)), true) := by
        rw [← hres]; unfold resIsFriendly; rw [hp, decide_eq_true (show (0 : Int) < n by omega)]; rfl
      simp only [Prod.mk.injEq] at e
      obtain ⟨rfl, rfl⟩ := e
      have hpl : ∀ q ∈ allP n, 0 ≤ q.1 ∧ q.1 < n ∧ 0 ≤ q.2 ∧ q.2 < n := fun q hq => by have := mem_allP.1 hq; omega
      have hlen := allP_length_le (n := n) hn12
      have hev := fun X : World => everyPair_any n hn12 X
      have hco := fun (A : Option Addr) (c g : Nat) (X : World) => containsNotOne_any hp (allP n) A c g X (by omega) hpl
      obtain ⟨L, hL⟩ : ∃ L, allP n = L := ⟨_, rfl⟩
      rw [hL] at hlen ⊢
      simp only [hL] at hev hco
      obtain ⟨R, hR⟩ : ∃ R, L.any (oneB n (adj l)) = R := ⟨_, rfl⟩
      rw [hR]
      simp only [hR] at hco
      have Hev := Lib.hid hev
      have Hco := Lib.hid hco
      have Hp := Lib.hid hp
      clear hp hres hpl hev hco hL hR h0
      go_enter Try.func24, Try.ntmps24
      go_wp2_with fail
      refine (isParty_any _ _ _ _ _ hl hr).mono ?_
      rw [Hp.out]
      rintro e w2 ⟨rfl, hb2⟩
      have s2 := hb2.size
      have k2 : Below w.heap.size w w2 := Below.trans (b := _) (by go_grown) (hb2.mono (by simp))
      have c0 : w2.cell? ⟨w.heap.size, 0, none⟩ = some (.int .i64 n) := carry hb2 (by simp) (by simp)
      have c1 : w2.cell? ⟨w.heap.size, 1, none⟩ = some (.slice A l.length c) := carry hb2 (by simp) (by simp)
      simp only [World.size_alloc] at s2
      go_wp2_with fail
      refine (friendsIn_any _ l A c _ Hp.out ((hA.below k2 (Nat.le_refl _)).more k2.size)).mono ?_
      rintro e w3 ⟨rfl, _, hb3⟩
      have k3 := k2.trans (hb3.mono k2.size)
      have d0 : w3.cell? ⟨w.heap.size, 0, none⟩ = some (.int .i64 n) := carry hb3 c0 (by omega)
      obtain ⟨X, hX⟩ : ∃ X, w3.alloc (Obj.cells (tcells (friendsT l)) 65) = X := ⟨_, rfl⟩
      have row0 : X.rowIs w3.heap.size 65 12 (fun j => .int .u16 (friendsT l j)) := by rw [← hX]; exact rowIs_u16 w3 _ _
      have zX : w3.heap.size < X.heap.size := by rw [← hX]; simp
      have kX : Below w.heap.size w X := by rw [← hX]; exact k3.alloc k3.size _
      unfold tcells at hX ⊢
      have HX := Lib.hid hX
      have Row := Lib.hid row0
      have KX := Lib.hid kX
      have s3 : w.heap.size < w3.heap.size := by have := hb3.size; omega
      clear hX row0 kX c0 c1 hb2 hb3 k2
      go_wp2_with fail
      rw [HX.out]
      refine (Hev.out X).mono ?_
      rintro e w4 ⟨A4, c4, rfl, own4, hb4⟩
      have z4 : X.heap.size ≤ w4.heap.size := hb4.size
      have row4 : w4.rowIs w3.heap.size 65 12 (fun j => .int .u16 (friendsT l j)) := by obtain ⟨cc, h1, h2⟩ := Row.out; exact ⟨cc, (hb4.block _ zX).trans h1, h2⟩
      have k4 := KX.out.trans (hb4.mono KX.out.size)
      go_wp2_with fail
      refine (Hco.out A4 c4 w3.heap.size w4 (CRead.of_own own4) row4).mono ?_
      rintro e w5 ⟨rfl, hb5⟩
      go_wp2
      go_ret2
      exact ⟨rfl, k4.trans (hb5.mono k4.size)⟩
set_option maxHeartbeats 1000000 in
set_option maxRecDepth 100000 in
theorem cfFriendly_any (n : Nat) (l : PL) (A : Option Addr) (c : Nat) (w : World) (hp : isP n l = true) (hA : CRead w w.heap.size A (pcells l)) :
    Calls Try.prog 59 #[.agg #[.int .i64 n, .slice A l.length c]] w fun e w' => e = .returned (.bool (friendlyB n (adj l))) ∧ Below w.heap.size w w' := by
  have hr : CRead (w.alloc (Obj.cells #[.int .i64 n, .slice A l.length c] 31)) (w.alloc (Obj.cells #[.int .i64 n, .slice A l.length c] 31)).heap.size A (pcells l) := (hA.below (B' := w.heap.size) (by go_grown) (Nat.le_refl _)).more (by go_size)
  have hn := isP_range hp
  have hn12 : n ≤ 12 := by omega
  obtain ⟨R, hR⟩ : ∃ R, friendlyB n (adj l) = R := ⟨_, rfl⟩
  rw [hR]
  have HR := Lib.hid hR
  have call := paTable_any n l A c _ hp hr
  have Call := Lib.hid call
  clear hR hp call
  go_enter Try.func59, Try.ntmps59
  go_wp2_with fail
  refine Call.out.mono ?_
  rw [Int.toNat_natCast]
  rintro e w2 ⟨A2, c2, G, rfl, tab, hb2⟩
  simp only [World.size_alloc] at hb2
  have k2 : Below w.heap.size w w2 := Below.trans (b := _) (by go_grown) (hb2.mono (by omega))
  have Tab := Lib.hid tab
  clear tab hb2 Call
  go_wp2
  go_loopw [10] (fun i wr => ∃ k : Nat, k ≤ n ∧ i = .int .i64 k ∧ (∀ a b, b < a → a < k → commonN n (adj l) a b = 1) ∧ Below w2.heap.size w2 wr) (fun i _ => n - (intOf i).toNat)
  case atStart => exact ⟨0, Nat.zero_le _, rfl, fun a b _ ha => by omega, Below.refl _ _⟩
  case round =>
    obtain ⟨k, hk, rfl, hall, hb⟩ := hrel
    have Hall := Lib.hid hall
    clear hall
    by_cases hlt : k < n
    · have hki : (k : Int) < (n : Int) := by omega
      go_wp2
      go_loopw [5] (fun i wr => ∃ j : Nat, j ≤ k ∧ i = .int .i64 j ∧ (∀ b, b < j → commonN n (adj l) k b = 1) ∧ Below w2.heap.size w2 wr) (fun i _ => k - (intOf i).toNat)
      case atStart => exact ⟨0, Nat.zero_le _, rfl, fun b hb => by omega, hb⟩
      case round =>
        obtain ⟨j, hj, rfl, hall2, hb⟩ := hrel
        have Hall2 := Lib.hid hall2
        clear hall2
        by_cases hlt2 : j < k
        · have hji : (j : Int) < (k : Int) := by omega
          have call := cfCommon_any n k j (adj l) A2 c2 G _ wr hn12 hlt (by omega) (Tab.out.below hb (Nat.le_refl _))
          have hlen := commonL_len n (adj l) k j
          rw [hlen] at call
          obtain ⟨C, hC⟩ : ∃ C, commonN n (adj l) k j = C := ⟨_, rfl⟩
          rw [hC] at call hlen
          have HC := Lib.hid hC
          have Call := Lib.hid call
          clear call hC hlen
          by_cases h1 : C = 1
          · subst h1
            go_wp2_with fail
            refine Call.out.mono ?_
            rintro e w3 ⟨A3, c3, rfl, own3, hb3⟩
            have k3 := hb.trans (hb3.mono hb.size)
            have hnx : ∀ b, b < j + 1 → commonN n (adj l) k b = 1 := fun b hb => by
              by_cases hbj : b = j
              · rw [hbj]; exact HC.out
              · exact Hall2.out b (by omega)
            have Hnx := Lib.hid hnx
            clear hnx own3
            go_wp2
            go_roundw
            case rel => exact ⟨j + 1, by omega, by go_num, Hnx.out, k3⟩
            case measure => simp [intOf]; omega
          · have e : R = false := by rw [← HR.out]; exact friendly_no hlt2 hlt (by rw [HC.out]; exact h1)
            subst e
            have hne : ((C : Int) == 1) = false := by simp only [beq_eq_false_iff_ne, ne_eq]; omega
            go_wp2_with fail
            refine Call.out.mono ?_
            rintro e w3 ⟨A3, c3, rfl, own3, hb3⟩
            have k3 := hb.trans (hb3.mono hb.size)
            clear own3
            go_wp2
            go_ret
            exact ⟨rfl, k2.trans (k3.mono k2.size)⟩
        · have e : j = k := by omega
          subst e
          have hge : ¬ ((j : Int) < (j : Int)) := by omega
          have hnx : ∀ a b, b < a → a < j + 1 → commonN n (adj l) a b = 1 := fun a b hba ha => by
            by_cases haj : a = j
            · subst haj; exact Hall2.out b hba
            · exact Hall.out a b hba (by omega)
          have Hnx := Lib.hid hnx
          have Hb := Lib.hid hb
          clear hnx hb
          go_wp2
          go_roundw
          case rel => exact ⟨j + 1, by omega, by go_num, Hnx.out, Hb.out⟩
          case measure => simp [intOf]; omega
    · have e : k = n := by omega
      subst e
      have hge : ¬ ((k : Int) < (k : Int)) := by omega
      have e : R = true := by rw [← HR.out]; exact friendly_yes Hall.out
      subst e
      go_wp2
      go_ret
      exact ⟨rfl, k2.trans (hb.mono k2.size)⟩
set_option maxHeartbeats 1000000 in
set_option maxRecDepth 100000 in
theorem specIsFriendly_any (p : Int) (l : PL) (A : Option Addr) (c : Nat) (w : World) (hl : l.length ≤ 1048576) (hA : CRead w w.heap.size A (pcells l)) :
    Calls Try.prog 23 #[.agg #[.int .i64 p, .slice A l.length c]] w fun e w' => e = .returned (.tuple #[.bool (resIsFriendly p l).1, .bool (resIsFriendly p l).2]) ∧ Below w.heap.size w w' := by
  have hr : CRead (w.alloc (Obj.cells #[.int .i64 p, .slice A l.length c] 31)) (w.alloc (Obj.cells #[.int .i64 p, .slice A l.length c] 31)).heap.size A (pcells l) := (hA.below (B' := w.heap.size) (by go_grown) (Nat.le_refl _)).more (by go_size)
  have call := cfSome_any p l A c _ hl hr
  cases hs : isP p l && decide (0 < p) with
  | false =>
    have e : resIsFriendly p l = (false, false) := by unfold resIsFriendly; rw [hs]; rfl
    rw [e]
    rw [hs] at call
    have Call := Lib.hid call
    clear call hs e
    go_enter Try.func23, Try.ntmps23
    go_wp2_with fail
    refine Call.out.mono ?_
    rintro e w2 ⟨rfl, hb2⟩
    simp only [World.size_alloc] at hb2
    go_wp2
    go_ret2
    exact ⟨rfl, Below.trans (b := _) (by go_grown) (hb2.mono (by omega))⟩
  | true =>
    have hs2 := hs
    rw [Bool.and_eq_true] at hs2
    obtain ⟨hp, h0⟩ := hs2
    have h0 : 0 < p := of_decide_eq_true h0
    obtain ⟨n, rfl⟩ : ∃ n : Nat, p = n := ⟨p.toNat, by omega⟩
    have e : resIsFriendly n l = (friendlyB n (adj l), true) := by unfold resIsFriendly; rw [hs]; rfl
    rw [e]
    rw [hs] at call
    have Call := Lib.hid call
    have Hp := Lib.hid hp
    clear call hs e hp
    go_enter Try.func23, Try.ntmps23
    go_wp2_with fail
    refine Call.out.mono ?_
    rintro e w2 ⟨rfl, hb2⟩
    have s2 := hb2.size
    have k2 : Below w.heap.size w w2 := Below.trans (b := _) (by go_grown) (hb2.mono (by simp))
    have c0 : w2.cell? ⟨w.heap.size, 0, none⟩ = some (.int .i64 n) := carry hb2 (by simp) (by simp)
    have c1 : w2.cell? ⟨w.heap.size, 1, none⟩ = some (.slice A l.length c) := carry hb2 (by simp) (by simp)
    simp only [World.size_alloc] at s2
    go_wp2_with fail
    refine (cfFriendly_any n l A c _ Hp.out ((hA.below k2 (Nat.le_refl _)).more k2.size)).mono ?_
    rintro e w3 ⟨rfl, hb3⟩
    go_wp2
    go_ret2
    exact ⟨rfl, k2.trans (hb3.mono k2.size)⟩
end Go.Proofs.Ythpapkfpcijpoaa
/-
  'laws.FnExactIsFriendly' returns true, whatever its arguments: out of the contracts of the model's function and of the program's.
-/
namespace Go.Proofs.Ythpapkfpcijpoaa
open Go.RowKit

set_option maxHeartbeats 4000000 in
set_option maxRecDepth 100000 in
theorem lawIsFriendly_any (p0 : Int) (l0 : PL) (A0 : Option Addr) (c0 : Nat) (W : World) (hl0 : l0.length ≤ maxLen) (hA0 : CRead W W.heap.size A0 (pcells l0)) :
    Calls Try.prog 4 #[.agg #[.int .i64 p0, .slice A0 l0.length c0]] W fun e w' => e = .returned (.bool true) ∧ Below W.heap.size W w' := by
  have hone : (0 : Int) ≤ 1 ∧ (1 : Int) ≤ 16777216 := by omega
  by_cases hz0 : szI (1048576) l0.length < 0
  · go_enter Try.func4, Try.ntmps4
    go_wp2_with fail
    refine (szParty_any _ _ _ _ _ hl0 (by omega) (by omega) _).mono ?_
    rintro e w1 ⟨rfl, hb1⟩
    simp only [World.size_alloc] at hb1
    have g1 : Below W.heap.size W w1 := Below.trans (b := _) (by go_grown) (hb1.mono (by omega))
    have s1 := hb1.size
    simp only [World.size_alloc] at s1
    have f1_0 : w1.cell? ⟨W.heap.size, 0, none⟩ = some (.int .i64 p0) := carry hb1 (by simp) (by omega)
    have f1_1 : w1.cell? ⟨W.heap.size, 1, none⟩ = some (.slice A0 l0.length c0) := carry hb1 (by simp) (by omega)
    have k1 : Below W.heap.size W w1 := g1
    go_wp2
    go_ret
    exact ⟨rfl, k1⟩
  have hn0 : l0.length ≤ 1048576 := by have h1 := szI_len _ _ hz0; have h2 := szI_hi (1048576) l0.length (by omega); omega
  have hz0' : 0 ≤ szI (1048576) l0.length := by omega
  have hz0'' : szI (1048576) l0.length ≤ 1048576 := by have h2 := szI_hi (1048576) l0.length (by omega); omega
  obtain ⟨⟨rb, rok⟩, hres⟩ : ∃ r, resIsFriendly p0 l0 = r := ⟨_, rfl⟩
  have Hres := Lib.hid hres
  clear hres
  go_enter Try.func4, Try.ntmps4
  go_wp2_with fail
  refine (szParty_any _ _ _ _ _ hl0 (by omega) (by omega) _).mono ?_
  rintro e w1 ⟨rfl, hb1⟩
  simp only [World.size_alloc] at hb1
  have g1 : Below W.heap.size W w1 := Below.trans (b := _) (by go_grown) (hb1.mono (by omega))
  have s1 := hb1.size
  simp only [World.size_alloc] at s1
  have f1_0 : w1.cell? ⟨W.heap.size, 0, none⟩ = some (.int .i64 p0) := carry hb1 (by simp) (by omega)
  have f1_1 : w1.cell? ⟨W.heap.size, 1, none⟩ = some (.slice A0 l0.length c0) := carry hb1 (by simp) (by omega)
  have k1 : Below W.heap.size W w1 := g1
  go_wp2_with fail
  refine (toParty_any p0 l0 A0 c0 _ hn0 ((hA0.below k1 (Nat.le_refl _)).more k1.size)).mono ?_
  rintro e w2 ⟨T2, d2, rfl, n2, hb2⟩
  have g2 : Below w1.heap.size w1 w2 := hb2
  have s2 := hb2.size
  have f2_0 := carry g2 f1_0 (by omega)
  have f2_1 := carry g2 f1_1 (by omega)
  have k2 := k1.trans (g2.mono k1.size)
  clear f1_0 f1_1
  have r2 : Lies (.slice T2 l0.length d2) (w1.heap.size) w2.heap.size := own_lies n2
  go_wp2_with fail
  refine (specIsFriendly_any p0 l0 _ _ _ hn0 (CRead.of_own n2)).mono ?_
  rw [Hres.out]
  rintro e w3 ⟨rfl, hb3⟩
  have g3 : Below w2.heap.size w2 w3 := hb3
  have s3 := hb3.size
  have f3_0 := carry g3 f2_0 (by omega)
  have f3_1 := carry g3 f2_1 (by omega)
  have o3_0 := own_below n2 g3 (Nat.le_refl _)
  have k3 := k2.trans (g3.mono k2.size)
  clear f2_0 f2_1 n2
  clear o3_0 r2
  go_wp2_with fail
  refine (toParty_any p0 l0 A0 c0 _ hn0 ((hA0.below k3 (Nat.le_refl _)).more k3.size)).mono ?_
  rintro e w4 ⟨T4, d4, rfl, n4, hb4⟩
  have g4 : Below w3.heap.size w3 w4 := hb4
  have s4 := hb4.size
  have f4_0 := carry g4 f3_0 (by omega)
  have f4_1 := carry g4 f3_1 (by omega)
  have k4 := k3.trans (g4.mono k3.size)
  clear f3_0 f3_1
  have r4 : Lies (.slice T4 l0.length d4) (w3.heap.size) w4.heap.size := own_lies n4
  have q5_0 : (w4.alloc (Obj.cells #[.int .i64 p0, .slice T4 l0.length d4] 31)).cell? ⟨W.heap.size, 0, none⟩ = some (.int .i64 p0) := (World.cell?_alloc_lt _ _ _ (show W.heap.size < w4.heap.size by omega)).trans f4_0
  have q5_1 : (w4.alloc (Obj.cells #[.int .i64 p0, .slice T4 l0.length d4] 31)).cell? ⟨W.heap.size, 1, none⟩ = some (.slice A0 l0.length c0) := (World.cell?_alloc_lt _ _ _ (show W.heap.size < w4.heap.size by omega)).trans f4_1
  go_wp2_with fail
  refine (implIsFriendly_any p0 l0 _ _ _ hn0 (((CRead.of_own n4).below (B' := w4.heap.size) (by go_grown) (Nat.le_refl _)).more (by go_size))).mono ?_
  rw [Hres.out]
  rintro e w6 ⟨rfl, hb6⟩
  simp only [World.size_alloc] at hb6
  have g6 : Below w4.heap.size w4 w6 := Below.trans (b := _) (by go_grown) (hb6.mono (by omega))
  have s6 := hb6.size
  simp only [World.size_alloc] at s6
  have f6_0 := carry g6 f4_0 (by omega)
  have f6_1 := carry g6 f4_1 (by omega)
  have f6_2 : w6.cell? ⟨w4.heap.size, 0, none⟩ = some (.int .i64 p0) := carry hb6 (by simp) (by omega)
  have f6_3 : w6.cell? ⟨w4.heap.size, 1, none⟩ = some (.slice T4 l0.length d4) := carry hb6 (by simp) (by omega)
  have o6_0 := own_below n4 g6 (Nat.le_refl _)
  have k6 := k4.trans (g6.mono k4.size)
  clear f4_0 f4_1 n4 q5_0 q5_1
  go_wp2
  go_region_held3 (fun w' => w'.cell? ⟨W.heap.size, 0, none⟩ = some (.int .i64 p0) ∧ w'.cell? ⟨W.heap.size, 1, none⟩ = some (.slice A0 l0.length c0) ∧ w'.cell? ⟨w4.heap.size, 0, none⟩ = some (.int .i64 p0) ∧ w'.cell? ⟨w4.heap.size, 1, none⟩ = some (.slice T4 l0.length d4)) (first | exact ⟨f6_0, f6_1, f6_2, f6_3⟩ | exact ⟨f7_0, f7_1, f7_2, f7_3⟩ | exact ⟨f8_0, f8_1, f8_2, f8_3⟩) ((first | (go_at_call 16; refine (toParty_any p0 l0 A0 c0 _ hn0 ((hA0.below k6.drew (Nat.le_refl _)).more k6.size)).mono ?_; rintro e w7 ⟨T7, d7, rfl, n7, hb7⟩; have g7 : Below w6.heap.size w6 w7 := (Below.refl _ _).drew.trans hb7; have s7 := g7.size; have f7_0 := carry g7 f6_0 (by omega); have f7_1 := carry g7 f6_1 (by omega); have f7_2 := carry g7 f6_2 (by omega); have f7_3 := carry g7 f6_3 (by omega); have o7_0 := own_below o6_0 g7 (Nat.le_refl _); have k7 := k6.trans (g7.mono k6.size)) | (go_at_call 19; refine (eqParty_any p0 p0 l0 l0 _ _ _ _ _ hl0 hl0 (CRead.of_own o7_0) (CRead.of_own n7)).mono ?_; rw [decide_eq_true ⟨rfl, rfl⟩]; rintro e w8 ⟨rfl, hb8⟩; have g8 : Below w7.heap.size w7 w8 := hb8; have s8 := g8.size; have f8_0 := carry g8 f7_0 (by omega); have f8_1 := carry g8 f7_1 (by omega); have f8_2 := carry g8 f7_2 (by omega); have f8_3 := carry g8 f7_3 (by omega); have o8_0 := own_below o7_0 g8 (Nat.le_refl _); have k8 := k7.trans (g8.mono k7.size))))
  clear f6_0 f6_1 f6_2 f6_3 o6_0 f7_0 f7_1 f7_2 f7_3 o7_0 n7
  go_wp2
  go_ret
  exact ⟨rfl, k8⟩
end Go.Proofs.Ythpapkfpcijpoaa
/-
  THE PROGRAM's HEAD, LOOKED AT ONCE: which make it is, and that a call may enter it. (The head's text is long: the kernel must not read it twice.)
-/
namespace Go.Proofs.Ythpapkfpcijpoaa

theorem make_of {P : Program} {rest : List (List Char)} (h : behindMainWord (wordsSigns P.initOrder.toList) = "cut".toList :: rest) : P.make = some .cut := by
  unfold Program.make
  rw [h]
  rfl
theorem strip_cut (rest : List (List Char)) : stripLifts liftWords ("cut".toList :: rest) = ([], "cut".toList :: rest) := rfl
theorem lifts_of {P : Program} {rest : List (List Char)} (h : behindMainWord (wordsSigns P.initOrder.toList) = "cut".toList :: rest) : P.headLifts = [] := by
  unfold Program.headLifts
  rw [h, strip_cut]
  rfl
theorem final_of {P : Program} {rest : List (List Char)} (h : behindMainWord (wordsSigns P.initOrder.toList) = "cut".toList :: rest) : P.liftsFinal = false := by
  unfold Program.liftsFinal
  rw [lifts_of h, h]
  rfl
theorem enter_of {P : Program} {rest : List (List Char)} (h : behindMainWord (wordsSigns P.initOrder.toList) = "cut".toList :: rest) (h1 : P.laysLater = false) (h2 : P.bearsReflect = false) (h3 : P.doorFits [] = true) : P.mayEnter = true := by
  unfold Program.mayEnter
  rw [h]
  show (_ || _ || _) = true
  rw [strip_cut, h1, h2, h3]
  rfl
end Go.Proofs.Ythpapkfpcijpoaa
/-
  THE PROGRAM's CLOSED FACTS, EACH ONCE; and how a row's facts are put together out of them.
-/
namespace Go.Proofs.Ythpapkfpcijpoaa
open Go.ChangeShapes Go.WideShapes Go.ChangeAt Go.RowKit

def headSigns : List Char := ([104, 97, 114, 110, 101, 115, 115, 32, 52, 101, 57, 49, 97, 50, 49, 55, 98, 99, 56, 49, 48, 49, 57, 55, 99, 98, 54, 48, 98, 51, 50, 53, 53, 55, 99, 100, 51, 57, 53, 50, 48, 54, 98, 49, 54, 102, 57, 51, 99, 101, 50, 56, 56, 101, 49, 97, 50, 100, 101, 49, 101, 98, 56, 97, 100, 53, 49, 54, 102, 56, 99, 101, 32, 99, 117, 116, 32, 97, 116, 32, 108, 111, 111, 112, 46, 101, 120, 97, 109, 112, 108, 101, 47, 103, 48, 49, 50, 53, 55, 47, 108, 97, 119, 115, 46, 70, 110, 69, 120, 97, 99, 116, 67, 111, 109, 109, 111, 110, 84, 97, 98, 108, 101, 32, 108, 111, 111, 112, 46, 101, 120, 97, 109, 112, 108, 101, 47, 103, 48, 49, 50, 53, 55, 47, 108, 97, 119, 115, 46, 70, 110, 69, 120, 97, 99, 116, 73, 115, 70, 114, 105, 101, 110, 100, 108, 121, 32, 108, 111, 111, 112, 46, 101, 120, 97, 109, 112, 108, 101, 47, 103, 48, 49, 50, 53, 55, 47, 108, 97, 119, 115, 46, 70, 110, 69, 120, 97, 99, 116, 87, 105, 110, 100, 109, 105, 108, 108, 80, 97, 114, 116, 121, 32, 108, 111, 111, 112, 46, 101, 120, 97, 109, 112, 108, 101, 47, 103, 48, 49, 50, 53, 55, 47, 108, 97, 119, 115, 46, 70, 110, 69, 120, 97, 99, 116, 73, 115, 87, 105, 110, 100, 109, 105, 108, 108, 32, 108, 111, 111, 112, 46, 101, 120, 97, 109, 112, 108, 101, 47, 103, 48, 49, 50, 53, 55, 47, 108, 97, 119, 115, 46, 70, 110, 69, 120, 97, 99, 116, 80, 111, 108, 105, 116, 105, 99, 105, 97, 110, 79, 102, 32, 108, 111, 111, 112, 46, 101, 120, 97, 109, 112, 108, 101, 47, 103, 48, 49, 50, 53, 55, 47, 108, 97, 119, 115, 46, 70, 110, 69, 120, 97, 99, 116, 69, 113, 117, 97, 108, 78, 117, 109, 98, 101, 114, 32, 108, 111, 111, 112, 46, 101, 120, 97, 109, 112, 108, 101, 47, 103, 48, 49, 50, 53, 55, 47, 108, 97, 119, 115, 46, 70, 110, 69, 120, 97, 99, 116, 83, 116, 114, 111, 110, 103, 78, 117, 109, 98, 101, 114, 115, 32, 108, 111, 111, 112, 46, 101, 120, 97, 109, 112, 108, 101, 47, 103, 48, 49, 50, 53, 55, 47, 108, 97, 119, 115, 46, 70, 110, 69, 120, 97, 99, 116, 67, 105, 114, 99, 108, 101, 80, 97, 114, 116, 121, 32, 108, 111, 111, 112, 46, 101, 120, 97, 109, 112, 108, 101, 47, 103, 48, 49, 50, 53, 55, 47, 108, 97, 119, 115, 46, 70, 110, 69, 120, 97, 99, 116, 80, 97, 105, 114, 80, 97, 114, 116, 121, 32, 108, 111, 111, 112, 46, 101, 120, 97, 109, 112, 108, 101, 47, 103, 48, 49, 50, 53, 55, 47, 108, 97, 119, 115, 46, 70, 110, 69, 120, 97, 99, 116, 76, 105, 110, 101, 115, 79, 102, 32, 108, 111, 111, 112, 46, 101, 120, 97, 109, 112, 108, 101, 47, 103, 48, 49, 50, 53, 55, 47, 108, 97, 119, 115, 46, 70, 110, 69, 120, 97, 99, 116, 77, 111, 115, 116, 80, 101, 111, 112, 108, 101] : List Nat).map Char.ofNat
set_option maxRecDepth 100000 in
theorem Try.initOrder_is : Try.prog.initOrder = String.ofList headSigns := by kernel_rfl
theorem Try.initOrder_signs : Try.prog.initOrder.toList = headSigns := by rw [Try.initOrder_is]; exact String.toList_ofList
set_option maxRecDepth 100000 in
theorem head_words : (behindMainWord (wordsSigns headSigns)).take 1 = ["cut".toList] := by kernel_rfl
theorem Try.words : ∃ rest, behindMainWord (wordsSigns Try.prog.initOrder.toList) = "cut".toList :: rest := by
  rw [Try.initOrder_signs]
  have h := List.take_append_drop 1 (behindMainWord (wordsSigns headSigns))
  rw [head_words] at h
  exact ⟨_, h.symm⟩
theorem Try.make : Try.prog.make = some .cut := by obtain ⟨_, h⟩ := Try.words; exact make_of h
theorem Try.liftsFinal : Try.prog.liftsFinal = false := by obtain ⟨_, h⟩ := Try.words; exact final_of h
theorem Try.laysLater : Try.prog.laysLater = false := by kernel_rfl
theorem Try.bearsReflect : Try.prog.bearsReflect = false := by kernel_rfl
theorem Try.doorFits : Try.prog.doorFits [] = true := by kernel_rfl
theorem Try.mayEnter : Try.prog.mayEnter = true := by obtain ⟨_, h⟩ := Try.words; exact enter_of h Try.laysLater Try.bearsReflect Try.doorFits
theorem Try.mapsRowed : mapsRowed Try.prog = true := by kernel_rfl
theorem Try.stops : (Try.prog.stops == []) = true := by kernel_rfl
theorem Try.stopKnobs : (Try.prog.stopKnobs == []) = true := by kernel_rfl
theorem Try.plainKeys : Try.prog.plainKeys = true := by kernel_rfl
theorem Try.stopsHeard : Try.prog.stopsHeard = true := by kernel_rfl

/-- What the types of one law give: closed facts on its parameters and its result. -/
def typeFacts (P : Program) (fn : Func) (s : ChangeSpec) (c : OpenClaim) : Bool :=
  fn.params.all (P.readableRec ·) && namedTie P c.named s.vars && (c.stops == []) && (c.knobs == []) &&
  (c.maps == (fn.params.toList ++ s.plain.varTypes P).any (P.mapsRec ·)) && (c.ifaces == (fn.params.toList ++ s.plain.varTypes P).any (P.ifacesRec ·)) && (c.mapsOut == P.mapsAmong fn.resultTypes.toList) &&
  (c.loops == (fn.params.toList ++ s.plain.varTypes P).any (P.loopsFrom ·)) && (c.wideKeys == (fn.params.toList ++ s.plain.varTypes P ++ fn.resultTypes.toList).any (P.wideKeysFrom ·)) &&
  s.vars.all (P.varReadable ·) && fn.resultTypes.all (fun t => P.readableRec t && decide (t < P.types.size)) && (c.ifacesOut == fn.resultTypes.toList.any (P.ifacesRec ·)) && (c.loopsOut == fn.resultTypes.toList.any (P.loopsFrom ·)) && c.shortTexts.isNone &&
  (c.kinds == (if c.domain.isEmpty then [] else fn.params.toList.map fun t => match P.underlying t with | some (.int k) => some k | _ => none)) && (c.pinned == c.pinnedBy) &&
  (c.veiled == (fn.params.toList ++ s.plain.varTypes P ++ fn.resultTypes.toList).any (P.veiledRec ·)) && c.veiledFits P fn.params.toList (fn.params.toList ++ s.plain.varTypes P ++ fn.resultTypes.toList)
theorem joined_all {P : Program} {f : FuncId} {fn : Func} {s : ChangeSpec} {c : OpenClaim} (k1 : c.wf (OpenSpec.ofChange s) = true) (kt : typeFacts P fn s c = true)
    (k10 : (c.inPlace == P.inPlace f) = true) (k11 : (c.unfollowed == P.unfollowed f) = true) (k12 : (c.recurses == P.recurses f) = true) (k13 : (c.named == P.varsNamed f) = true)
    (e2 : laidOutB P = true) (e3 : mapsRowed P = true) (e7 : (P.stops == []) = true) (e9 : (P.stopKnobs == []) = true) (e22 : (c.plainKeys == P.plainKeys) = true) (e23 : P.stopsHeard = true) (e24 : P.mayEnter = true)
    (e24b : (c.lifted == P.liftsFinal) = true) (e24c : (P.make == some c.make) = true) : joinedFacts P f fn s c = true := by
  unfold typeFacts at kt
  unfold joinedFacts
  simp only [Bool.and_eq_true] at kt ⊢
  obtain ⟨⟨⟨⟨⟨⟨⟨⟨⟨⟨⟨⟨⟨⟨⟨⟨⟨t1, t2⟩, t3⟩, t4⟩, t5⟩, t6⟩, t7⟩, t8⟩, t9⟩, t10⟩, t11⟩, t12⟩, t13⟩, t14⟩, t15⟩, t16⟩, t17⟩, t18⟩ := kt
  exact ⟨⟨⟨⟨⟨⟨⟨⟨⟨⟨⟨⟨⟨⟨⟨⟨⟨⟨⟨⟨⟨⟨⟨⟨⟨⟨⟨⟨⟨⟨⟨k1, e2⟩, e3⟩, t1⟩, t2⟩, t3⟩, e7⟩, t4⟩, e9⟩, k10⟩, k11⟩, k12⟩, k13⟩, t5⟩, t6⟩, t7⟩, t8⟩, t9⟩, t10⟩, t11⟩, t12⟩, t13⟩, e22⟩, t14⟩, e23⟩, e24⟩, e24b⟩, e24c⟩, t15⟩, t16⟩, t17⟩, t18⟩
theorem joined_of {f : FuncId} {fn : Func} {s : ChangeSpec} {c : OpenClaim} (k1 : c.wf (OpenSpec.ofChange s) = true) (kt : typeFacts Try.prog fn s c = true)
    (k10 : (c.inPlace == Try.prog.inPlace f) = true) (k11 : (c.unfollowed == Try.prog.unfollowed f) = true) (k12 : (c.recurses == Try.prog.recurses f) = true) (k13 : (c.named == Try.prog.varsNamed f) = true)
    (k22 : c.plainKeys = true) (k24b : c.lifted = false) (k24c : c.make = .cut) : joinedFacts Try.prog f fn s c = true :=
  joined_all k1 kt k10 k11 k12 k13 Try.laidOut Try.mapsRowed Try.stops Try.stopKnobs (by rw [k22, Try.plainKeys]; rfl) Try.stopsHeard Try.mayEnter (by rw [k24b, Try.liftsFinal]; rfl) (by rw [k24c, Try.make]; rfl)
end Go.Proofs.Ythpapkfpcijpoaa
