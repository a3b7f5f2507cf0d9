/-
  Texts put together for the claim of 'ToldNumbers' (pack 3): CoupS, CoupD, CoupI, CoupJ, Tail, LawToldNumbers, Leave, Head, Facts.
-/
import Derived.Test.YtgkedgfbncljbaaToldNumbersP1
import Derived.Test.YtgkedgfbncljbaaToldNumbersP2
import Derived.Deep.RegionHeld3
import Derived.Conc.Holds
import Derived.Leaving
import Derived.Handed
import Derived.Test.YtgkedgfbncljbaaProg
import Derived.Test.YtgkedgfbncljbaaRows
/-
  'AreCouples', 'ToldNumbers', 'SpouseNumber': the model's, by their contracts.
-/
namespace Go.Proofs.Ytgkedgfbncljbaa
open Go.RowKit

theorem tail_read {w : World} {B g c : Nat} {x0 : Int} {q : List Int} (h : w.ownsRow B 3 1 (.slice (some ⟨g, 0, none⟩) (q.length + 1) c) (q.length + 1) (icells (x0 :: q))) : CRead w w.heap.size (some ⟨g, 1, none⟩) (icells q) := by
  intro j u hu
  obtain ⟨b, off, e, hlt, hc⟩ := CRead.of_own h (j + 1) u (by simpa [icells] using hu)
  simp only [Option.some.injEq, Addr.mk.injEq, and_true] at e
  obtain ⟨rfl, rfl⟩ := e
  exact ⟨g, 1, rfl, hlt, by rw [show 1 + j = 0 + (j + 1) by omega]; exact hc⟩
theorem CRead.take {w : World} {B : Nat} {A : Option Addr} {q : List Int} (h : CRead w B A (icells q)) (k : Nat) : CRead w B A (icells (q.take k)) := by
  intro j u hu
  refine h j u ?_
  have e : icells (q.take k) = (icells q).take k := by simp [icells, List.map_take]
  rw [e, List.getElem?_take] at hu
  split at hu
  · exact hu
  · cases hu
theorem told_form (m : Nat) (l : PL) : ∃ x0 q, numsOf (m + 1) l = x0 :: q ∧ toldC ((m : Int) + 1) l = q ∧ q.length = m := by
  have hl := numsOf_length (m + 1) l
  unfold toldC
  rw [show ((m : Int) + 1).toNat = m + 1 by omega]
  cases hh : numsOf (m + 1) l with
  | nil => rw [hh] at hl; simp at hl
  | cons x t => rw [hh] at hl; exact ⟨x, t, rfl, rfl, by simpa using hl⟩
theorem apart_no {l : PL} {k : Nat} {x y : Int} (hx : l[k]? = some (x, y)) (h : x / 2 = y / 2) : apartC l = false := by
  unfold apartC
  rw [List.all_eq_false]
  exact ⟨_, List.mem_of_getElem? hx, by simp [h]⟩
theorem apart_of {l : PL} (h : ∀ (j : Nat) (x y : Int), j < l.length → l[j]? = some (x, y) → x / 2 ≠ y / 2) : apartC l = true := by
  unfold apartC
  rw [List.all_eq_true]
  rintro ⟨x, y⟩ hx
  obtain ⟨j, hj, e⟩ := List.getElem_of_mem hx
  exact decide_eq_true (h j x y hj (by rw [List.getElem?_eq_getElem hj, e]))
set_option maxHeartbeats 1000000 in
set_option maxRecDepth 100000 in
theorem haEven_any (p : Int) (l : PL) (A : Option Addr) (c : Nat) (w : World) (hl : l.length ≤ 1048576) (hA : CRead w w.heap.size A (pcells l)) :
    Calls Try.prog 72 #[.agg #[.int .i64 p, .slice A l.length c]] w fun e w' => e = .returned (.bool (goodC p l)) ∧ Below w.heap.size w w' := by
  have hr : CRead (w.alloc (Obj.cells #[.int .i64 p, .slice A l.length c] 24)) (w.alloc (Obj.cells #[.int .i64 p, .slice A l.length c] 24)).heap.size A (pcells l) := (hA.below (B' := w.heap.size) (by go_grown) (Nat.le_refl _)).more (by go_size)
  cases hp : isP p l with
  | false =>
    have e : goodC p l = false := by simp [goodC, hp]
    rw [e]
    have Hp := Lib.hid hp
    clear hp e
    go_enter Try.func72, Try.ntmps72
    go_wp2_with fail
    refine (paGood_any _ _ _ _ _ hl hr).mono ?_
    rw [Hp.out]
    rintro e w2 ⟨rfl, hb2⟩
    simp only [World.size_alloc] at hb2
    have k2 : Below w.heap.size w w2 := Below.trans (b := _) (by go_grown) (hb2.mono (by omega))
    go_wp2
    go_ret
    exact ⟨rfl, k2⟩
  | true =>
    have hn := isP_range hp
    have e : goodC p l = (decide (2 ≤ p) && decide (p % 2 = 0)) := by simp [goodC, hp]
    obtain ⟨r, hr⟩ : ∃ r, (decide (2 ≤ p) && decide (p % 2 = 0)) = r := ⟨_, rfl⟩
    rw [e, hr]
    have Hr := Lib.hid hr
    clear hr
    have Hp := Lib.hid hp
    have hm : Int.tmod p 2 = p % 2 := Int.tmod_eq_emod_of_nonneg hn.1
    clear hp e
    go_enter Try.func72, Try.ntmps72
    go_wp2_with fail
    refine (paGood_any _ _ _ _ _ hl hr).mono ?_
    rw [Hp.out]
    rintro e w2 ⟨rfl, hb2⟩
    simp only [World.size_alloc] at hb2
    have a0 : w2.cell? ⟨w.heap.size, 0, none⟩ = some (.int .i64 p) := carry hb2 (by simp) (by omega)
    have a1 : w2.cell? ⟨w.heap.size, 1, none⟩ = some (.slice A l.length c) := carry hb2 (by simp) (by omega)
    have k2 : Below w.heap.size w w2 := Below.trans (b := _) (by go_grown) (hb2.mono (by omega))
    by_cases h2 : 2 ≤ p
    · by_cases ho : p % 2 = 0
      · rw [ho] at hm
        have e : r = true := by rw [← Hr.out]; simp [h2, ho]
        subst e
        clear Hr ho
        go_wp2
        go_ret
        exact ⟨rfl, k2⟩
      · have hm1 : Int.tmod p 2 = 1 := by rw [hm]; omega
        have e : r = false := by rw [← Hr.out]; simp [ho]
        subst e
        clear Hr ho hm
        go_wp2
        go_ret
        exact ⟨rfl, k2⟩
    · have e : r = false := by rw [← Hr.out]; simp [h2]
      subst e
      clear Hr
      go_wp2
      go_ret
      exact ⟨rfl, k2⟩
set_option maxHeartbeats 4000000 in
set_option maxRecDepth 100000 in
theorem haCouples_any (p : Int) (l : PL) (A : Option Addr) (c : Nat) (w : World) (hp : isP p l = true) (h2 : 2 ≤ p) (hl : l.length ≤ 1048576) (hA : CRead w w.heap.size A (pcells l)) :
    Calls Try.prog 73 #[.agg #[.int .i64 p, .slice A l.length c]] w fun e w' => e = .returned (.bool (areC p l)) ∧ Below w.heap.size w w' := by
  have hn := isP_range hp
  obtain ⟨n, rfl⟩ : ∃ n : Nat, p = (n : Int) + 1 := ⟨(p - 1).toNat, by omega⟩
  have hN : ((n : Int) + 1).toNat = n + 1 := by omega
  have HN := Lib.hid hN
  clear hN
  obtain ⟨r, hr⟩ : ∃ r, areC ((n : Int) + 1) l = r := ⟨_, rfl⟩
  rw [hr]
  have Hr := Lib.hid hr
  have Hp := Lib.hid hp
  clear hr hp
  go_enter Try.func73, Try.ntmps73
  go_wp2
  go_loopw [11] (fun i wr => ∃ k : Nat, k ≤ l.length ∧ i = .int .i64 k ∧ Below (w.heap.size + 1) (w.alloc (Obj.cells #[.int .i64 ((n : Int) + 1), .slice A l.length c] 24)) wr ∧ ∀ (j : Nat) (x y : Int), j < k → l[j]? = some (x, y) → x / 2 ≠ y / 2) (fun i _ => l.length - (intOf i).toNat)
  case atStart => exact ⟨0, Nat.zero_le _, rfl, Below.refl _ _, fun j x y hj => by omega⟩
  case round =>
    obtain ⟨k, hk, rfl, hb, hall⟩ := hrel
    have Hall := Lib.hid hall
    clear hall
    have s0 := hb.size
    simp only [World.size_alloc] at s0
    have a0 : wr.cell? ⟨w.heap.size, 0, none⟩ = some (.int .i64 ((n : Int) + 1)) := carry hb (by simp) (by simp)
    have a1 : wr.cell? ⟨w.heap.size, 1, none⟩ = some (.slice A l.length c) := carry hb (by simp) (by simp)
    have kw : Below w.heap.size w wr := Below.trans (b := _) (by go_grown) (hb.mono (by omega))
    by_cases hlt : k < l.length
    · obtain ⟨⟨x, y⟩, hx⟩ := getSome l k hlt
      have hxy := (isP_list Hp.out).2.2.1 _ (List.mem_of_getElem? hx)
      simp only at hxy
      obtain ⟨a, rfl⟩ : ∃ a : Nat, x = a := ⟨x.toNat, by omega⟩
      obtain ⟨b, rfl⟩ : ∃ b : Nat, y = b := ⟨y.toNat, by omega⟩
      obtain ⟨bb, off, rfl, hbb, c0, c1⟩ := (hA.below kw (Nat.le_refl _)).pair hx
      have hki : (k : Int) < (l.length : Int) := by omega
      obtain ⟨a', ha'⟩ : ∃ a', (a : Int) / 2 = a' := ⟨_, rfl⟩
      obtain ⟨b', hb'⟩ : ∃ b', (b : Int) / 2 = b' := ⟨_, rfl⟩
      have e1 : Int.tdiv (a : Int) 2 = a' := by rw [Int.tdiv_eq_ediv_of_nonneg (by omega), ha']
      have e2 : Int.tdiv (b : Int) 2 = b' := by rw [Int.tdiv_eq_ediv_of_nonneg (by omega), hb']
      have g1 : 0 ≤ a' ∧ a' ≤ 12 := by omega
      have g2 : 0 ≤ b' ∧ b' ≤ 12 := by omega
      obtain ⟨g10, g11⟩ := g1
      obtain ⟨g20, g21⟩ := g2
      have Hx := Lib.hid hx
      have Ha := Lib.hid ha'
      have Hb := Lib.hid hb'
      clear hx ha' hb' hxy
      by_cases hab : a' = b'
      · subst hab
        have Hf := Lib.hid (show r = false by rw [← Hr.out]; unfold areC; rw [apart_no Hx.out (by rw [Ha.out, Hb.out]), Bool.false_and])
        have hbq : (a' == a') = true := by simp
        go_wp2
        go_ret
        exact ⟨by rw [Hf.out]; rfl, kw.alloc (by omega) _⟩
      · have hbq : (a' == b') = false := by simp [hab]
        go_wp2
        go_roundw
        case rel => exact ⟨k + 1, by omega, by go_num, hb.alloc (by omega) _, fun j x y hj hxj => by
                      by_cases hjk : j = k
                      · subst hjk
                        rw [Hx.out] at hxj
                        have := Option.some.inj hxj
                        simp only [Prod.mk.injEq] at this
                        rw [← this.1, ← this.2, Ha.out, Hb.out]
                        exact hab
                      · exact Hall.out j x y (by omega) hxj⟩
        case measure => simp [intOf]; omega
    · have hkl : k = l.length := by omega
      subst hkl
      have hge : ¬ ((l.length : Int) < (l.length : Int)) := by omega
      have Hap := Lib.hid (apart_of fun j x y hj hx => Hall.out j x y hj hx)
      clear Hall hb
      have RD := Lib.hid ((hA.below kw (Nat.le_refl _)).more kw.size)
      go_wp2_with fail
      refine (paNumbers_any ((n : Int) + 1) l A c _ Hp.out RD.out).mono ?_
      rw [HN.out]
      rintro e w3 ⟨g, rfl, own3, hb3⟩
      obtain ⟨x0, q, hx0, hq, hnq⟩ := told_form n l
      rw [hx0] at own3
      have Hq := Lib.hid hq
      have Hnq := Lib.hid hnq
      clear hq hx0 hnq
      have rd3 : CRead w3 w3.heap.size (some ⟨g, 1, none⟩) (icells q) := tail_read (x0 := x0) (q := q) (c := n + 1) (B := wr.heap.size) (by rw [Hnq.out]; exact own3)
      have RD3 := Lib.hid rd3
      clear rd3
      have k3 := kw.trans (hb3.mono kw.size)
      have K3 := Lib.hid k3
      have hq1 : (1 : Int) ≤ (n : Int) := by omega
      have hq0 : ¬ (n = 0) := by omega
      have hq12 : n ≤ 12 := by omega
      clear own3 hb3 k3 kw RD a0 a1 hA
      go_wp2
      go_loop [28] (fun i => ∃ k : Nat, k ≤ n ∧ i = .int .i64 k ∧ ∀ (j : Nat) (x : Int), j < k → q[j]? = some x → x ∉ q.take j) (fun i => n - (intOf i).toNat)
      case atStart => exact ⟨0, Nat.zero_le _, rfl, fun j x hj => by omega⟩
      case round =>
        obtain ⟨k, hk, rfl, hall⟩ := hrel
        have Hall := Lib.hid hall
        clear hall
        by_cases hlt : k < n
        · obtain ⟨x, hx⟩ := getSome q k (by rw [Hnq.out]; exact hlt)
          have d0 : w3.cell? ⟨g, 1 + k, none⟩ = some (.int .i64 x) := by
            obtain ⟨b, off, e, _, hc⟩ := RD3.out k _ (icells_at hx)
            simp only [Option.some.injEq, Addr.mk.injEq, and_true] at e
            obtain ⟨rfl, rfl⟩ := e
            exact hc
          have hlk : (q.take k).length = k := by rw [List.length_take, Hnq.out]; omega
          have call := l1Has_any (q.take k) x (some ⟨g, 1, none⟩) n w3 (by omega) ((RD3.out).take k)
          rw [hlk] at call
          have hki : (k : Int) < (n : Int) := by omega
          have Hx := Lib.hid hx
          obtain ⟨b, hb⟩ : ∃ b, hasI (q.take k) x = b := ⟨_, rfl⟩
          rw [hb] at call
          have HB := Lib.hid hb
          have Call := Lib.hid call
          clear hx hlk call hb
          go_wp2_with fail
          refine Call.out.mono ?_
          rintro e w4 ⟨rfl, rfl⟩
          cases b with
          | true =>
            have hmem : x ∈ q.take k := hasI_mem.1 HB.out
            have Hf := Lib.hid (show r = false by rw [← Hr.out]; unfold areC; rw [Hq.out, decide_eq_false (nodup_no Hx.out hmem), Bool.and_false])
            go_wp2
            go_ret
            exact ⟨by rw [Hf.out]; rfl, K3.out⟩
          | false =>
            have hnm : x ∉ q.take k := fun h => by have := hasI_mem.2 h; rw [HB.out] at this; cases this
            have Hnm := Lib.hid hnm
            clear hnm
            go_wp2
            go_round
            case rel => exact ⟨k + 1, by omega, by go_num, fun j y hj hy => by
                          by_cases hjk : j = k
                          · subst hjk
                            rw [Hx.out] at hy
                            rw [← Option.some.inj hy]
                            exact Hnm.out
                          · exact Hall.out j y (by omega) hy⟩
            case measure => simp [intOf]; omega
        · have hkl : k = n := by omega
          have hge : ¬ ((k : Int) < (n : Int)) := by omega
          have Hf := Lib.hid (show r = true by
            rw [← Hr.out]; unfold areC
            rw [Hap.out, Hq.out, decide_eq_true (nodup_of fun i x hx => Hall.out i x (by have := (List.getElem?_eq_some_iff.1 hx).1; rw [Hnq.out] at this; omega) hx), Bool.true_and])
          go_wp2
          go_ret
          exact ⟨by rw [Hf.out]; rfl, K3.out⟩
end Go.Proofs.Ytgkedgfbncljbaa
/-
  'AreCouples', 'ToldNumbers', 'SpouseNumber': the model's, by their contracts.
-/
namespace Go.Proofs.Ytgkedgfbncljbaa
open Go.RowKit

theorem goodC_form {p : Int} {l : PL} (h : goodC p l = true) : isP p l = true ∧ 2 ≤ p ∧ p ≤ 12 := by
  obtain ⟨h1, h2, _⟩ := goodC_parts h
  exact ⟨h1, h2, (isP_range h1).2⟩
set_option maxHeartbeats 1000000 in
set_option maxRecDepth 100000 in
theorem specAreCouples_any (p : Int) (l : PL) (A : Option Addr) (c : Nat) (w : World) (hl : l.length ≤ 1048576) (hA : CRead w w.heap.size A (pcells l)) :
    Calls Try.prog 24 #[.agg #[.int .i64 p, .slice A l.length c]] w fun e w' => e = .returned (.tuple #[.bool (resAreCouples p l).1, .bool (resAreCouples p l).2]) ∧ Below w.heap.size w w' := by
  have hr : CRead (w.alloc (Obj.cells #[.int .i64 p, .slice A l.length c] 24)) (w.alloc (Obj.cells #[.int .i64 p, .slice A l.length c] 24)).heap.size A (pcells l) := (hA.below (B' := w.heap.size) (by go_grown) (Nat.le_refl _)).more (by go_size)
  have even := haEven_any p l A c _ hl hr
  have Even := Lib.hid even
  clear even hr
  cases hg : goodC p l with
  | false =>
    have e : resAreCouples p l = (false, false) := by simp [resAreCouples, hg]
    rw [e]
    have Hg := Lib.hid hg
    clear hg e
    go_enter Try.func24, Try.ntmps24
    go_wp2_with fail
    refine Even.out.mono ?_
    rw [Hg.out]
    rintro e w2 ⟨rfl, hb2⟩
    simp only [World.size_alloc] at hb2
    have k2 : Below w.heap.size w w2 := Below.trans (b := _) (by go_grown) (hb2.mono (by omega))
    go_wp2
    go_ret2
    exact ⟨rfl, k2⟩
  | true =>
    obtain ⟨hp, h2, h12⟩ := goodC_form hg
    have e : resAreCouples p l = (areC p l, true) := by simp [resAreCouples, hg]
    rw [e]
    have Hg := Lib.hid hg
    have Hp := Lib.hid hp
    clear hg e hp
    go_enter Try.func24, Try.ntmps24
    go_wp2_with fail
    refine Even.out.mono ?_
    rw [Hg.out]
    rintro e w2 ⟨rfl, hb2⟩
    simp only [World.size_alloc] at hb2
    have a0 : w2.cell? ⟨w.heap.size, 0, none⟩ = some (.int .i64 p) := carry hb2 (by simp) (by omega)
    have a1 : w2.cell? ⟨w.heap.size, 1, none⟩ = some (.slice A l.length c) := carry hb2 (by simp) (by omega)
    have k2 : Below w.heap.size w w2 := Below.trans (b := _) (by go_grown) (hb2.mono (by omega))
    go_wp2_with fail
    refine (haCouples_any p l A c _ Hp.out h2 hl ((hA.below k2 (Nat.le_refl _)).more k2.size)).mono ?_
    rintro e w3 ⟨rfl, hb3⟩
    have k3 := k2.trans (hb3.mono k2.size)
    clear a0 a1 hb2 hb3 k2
    go_wp2
    go_ret2
    exact ⟨rfl, k3⟩
/-- both tests of the model, one after the other -/
theorem told_no {p : Int} {l : PL} (h : (goodC p l && areC p l) = false) : resToldNumbers p l = ([], false) ∧ resSpouseNumber p l = (0, false) := by
  simp [resToldNumbers, resSpouseNumber, h]
set_option maxHeartbeats 1000000 in
set_option maxRecDepth 100000 in
theorem specSpouseNumber_any (p : Int) (l : PL) (A : Option Addr) (c : Nat) (w : World) (hl : l.length ≤ 1048576) (hA : CRead w w.heap.size A (pcells l)) :
    Calls Try.prog 32 #[.agg #[.int .i64 p, .slice A l.length c]] w fun e w' => e = .returned (.tuple #[.int .i64 (resSpouseNumber p l).1, .bool (resSpouseNumber p l).2]) ∧ Below w.heap.size w w' := by
  have hr : CRead (w.alloc (Obj.cells #[.int .i64 p, .slice A l.length c] 24)) (w.alloc (Obj.cells #[.int .i64 p, .slice A l.length c] 24)).heap.size A (pcells l) := (hA.below (B' := w.heap.size) (by go_grown) (Nat.le_refl _)).more (by go_size)
  have even := haEven_any p l A c _ hl hr
  have Even := Lib.hid even
  clear even hr
  cases hg : goodC p l with
  | false =>
    rw [(told_no (p := p) (l := l) (by rw [hg]; rfl)).2]
    have Hg := Lib.hid hg
    clear hg
    go_enter Try.func32, Try.ntmps32
    go_wp2_with fail
    refine Even.out.mono ?_
    rw [Hg.out]
    rintro e w2 ⟨rfl, hb2⟩
    simp only [World.size_alloc] at hb2
    have k2 : Below w.heap.size w w2 := Below.trans (b := _) (by go_grown) (hb2.mono (by omega))
    go_wp2
    go_ret2
    exact ⟨rfl, k2⟩
  | true =>
    obtain ⟨hp, h2, h12⟩ := goodC_form hg
    obtain ⟨⟨rv, rok⟩, hres⟩ : ∃ r, resSpouseNumber p l = r := ⟨_, rfl⟩
    have hres2 : (rv, rok) = (if areC p l then ((numsOf p.toNat l).getD 1 0, true) else (0, false)) := by rw [← hres]; simp [resSpouseNumber, hg]
    rw [hres]
    obtain ⟨n, rfl⟩ : ∃ n : Nat, p = (n : Int) + 1 := ⟨(p - 1).toNat, by omega⟩
    have hN : ((n : Int) + 1).toNat = n + 1 := by omega
    rw [hN] at hres2
    have HN := Lib.hid hN
    have Hg := Lib.hid hg
    have Hp := Lib.hid hp
    have HR := Lib.hid hres2
    clear hg hp hres hres2 hN
    go_enter Try.func32, Try.ntmps32
    go_wp2_with fail
    refine Even.out.mono ?_
    rw [Hg.out]
    rintro e w2 ⟨rfl, hb2⟩
    simp only [World.size_alloc] at hb2
    have a0 : w2.cell? ⟨w.heap.size, 0, none⟩ = some (.int .i64 ((n : Int) + 1)) := carry hb2 (by simp) (by omega)
    have a1 : w2.cell? ⟨w.heap.size, 1, none⟩ = some (.slice A l.length c) := carry hb2 (by simp) (by omega)
    have k2 : Below w.heap.size w w2 := Below.trans (b := _) (by go_grown) (hb2.mono (by omega))
    have g2 : w.heap.size < w2.heap.size := by have := hb2.size; simp only [World.size_alloc] at this; omega
    go_wp2_with fail
    refine (haCouples_any ((n : Int) + 1) l A c _ Hp.out h2 hl ((hA.below k2 (Nat.le_refl _)).more k2.size)).mono ?_
    rintro e w3 ⟨rfl, hb3⟩
    have k3 := k2.trans (hb3.mono k2.size)
    have b0 := carry hb3 a0 (by omega)
    have b1 := carry hb3 a1 (by omega)
    have g3 : w.heap.size < w3.heap.size := by have := hb3.size; omega
    clear a0 a1 hb2 hb3 k2
    cases ha : areC ((n : Int) + 1) l with
    | false =>
      have e := HR.out
      rw [ha, if_neg (by simp)] at e
      simp only [Prod.mk.injEq] at e
      obtain ⟨rfl, rfl⟩ := e
      clear ha HR
      go_wp2
      go_ret2
      exact ⟨rfl, k3⟩
    | true =>
      have e := HR.out
      rw [ha, if_pos rfl] at e
      simp only [Prod.mk.injEq] at e
      obtain ⟨e1, rfl⟩ := e
      have E1 := Lib.hid e1
      clear ha HR e1
      go_wp2_with fail
      refine (paNumbers_any ((n : Int) + 1) l A c _ Hp.out ((hA.below k3 (Nat.le_refl _)).more k3.size)).mono ?_
      rw [HN.out]
      rintro e w4 ⟨g, rfl, own4, hb4⟩
      have d0 : w4.cell? ⟨g, 1, none⟩ = some (.int .i64 rv) := by
        rw [E1.out]
        refine own_intAt own4 (k := 1) ?_
        rw [List.getD_eq_getElem?_getD, List.getElem?_eq_getElem (by rw [numsOf_length]; omega)]
        rfl
      have k4 := k3.trans (hb4.mono k3.size)
      have hn1 : (1 : Int) < (n : Int) + 1 := by omega
      clear own4 hb4 b0 b1
      go_wp2
      go_ret2
      exact ⟨rfl, k4⟩
set_option maxHeartbeats 2000000 in
set_option maxRecDepth 100000 in
theorem specToldNumbers_any (p : Int) (l : PL) (A : Option Addr) (c : Nat) (w : World) (hl : l.length ≤ 1048576) (hA : CRead w w.heap.size A (pcells l)) :
    Calls Try.prog 27 #[.agg #[.int .i64 p, .slice A l.length c]] w (GotIntsOk w (resToldNumbers p l).1 (resToldNumbers p l).2) := by
  have hr : CRead (w.alloc (Obj.cells #[.int .i64 p, .slice A l.length c] 24)) (w.alloc (Obj.cells #[.int .i64 p, .slice A l.length c] 24)).heap.size A (pcells l) := (hA.below (B' := w.heap.size) (by go_grown) (Nat.le_refl _)).more (by go_size)
  have even := haEven_any p l A c _ hl hr
  have Even := Lib.hid even
  clear even hr
  cases hg : goodC p l with
  | false =>
    rw [(told_no (p := p) (l := l) (by rw [hg]; rfl)).1]
    have Hg := Lib.hid hg
    clear hg
    go_enter Try.func27, Try.ntmps27
    go_wp2_with fail
    refine Even.out.mono ?_
    rw [Hg.out]
    rintro e w2 ⟨rfl, hb2⟩
    simp only [World.size_alloc] at hb2
    have k2 : Below w.heap.size w w2 := Below.trans (b := _) (by go_grown) (hb2.mono (by omega))
    go_wp2
    go_ret2
    exact ⟨none, 0, rfl, World.ownsRow_nil _ _ _ _, k2⟩
  | true =>
    obtain ⟨hp, h2, h12⟩ := goodC_form hg
    obtain ⟨⟨rl, rok⟩, hres⟩ : ∃ r, resToldNumbers p l = r := ⟨_, rfl⟩
    have hres2 : (rl, rok) = (if areC p l then (sortUp (toldC p l), true) else ([], false)) := by rw [← hres]; simp [resToldNumbers, hg]
    rw [hres]
    obtain ⟨n, rfl⟩ : ∃ n : Nat, p = (n : Int) + 1 := ⟨(p - 1).toNat, by omega⟩
    have hN : ((n : Int) + 1).toNat = n + 1 := by omega
    have HN := Lib.hid hN
    have Hg := Lib.hid hg
    have Hp := Lib.hid hp
    have HR := Lib.hid hres2
    clear hg hp hres hres2 hN
    go_enter Try.func27, Try.ntmps27
    go_wp2_with fail
    refine Even.out.mono ?_
    rw [Hg.out]
    rintro e w2 ⟨rfl, hb2⟩
    simp only [World.size_alloc] at hb2
    have a0 : w2.cell? ⟨w.heap.size, 0, none⟩ = some (.int .i64 ((n : Int) + 1)) := carry hb2 (by simp) (by omega)
    have a1 : w2.cell? ⟨w.heap.size, 1, none⟩ = some (.slice A l.length c) := carry hb2 (by simp) (by omega)
    have k2 : Below w.heap.size w w2 := Below.trans (b := _) (by go_grown) (hb2.mono (by omega))
    have g2 : w.heap.size < w2.heap.size := by have := hb2.size; simp only [World.size_alloc] at this; omega
    go_wp2_with fail
    refine (haCouples_any ((n : Int) + 1) l A c _ Hp.out h2 hl ((hA.below k2 (Nat.le_refl _)).more k2.size)).mono ?_
    rintro e w3 ⟨rfl, hb3⟩
    have k3 := k2.trans (hb3.mono k2.size)
    have b0 := carry hb3 a0 (by omega)
    have b1 := carry hb3 a1 (by omega)
    have g3 : w.heap.size < w3.heap.size := by have := hb3.size; omega
    clear a0 a1 hb2 hb3 k2
    cases ha : areC ((n : Int) + 1) l with
    | false =>
      have e := HR.out
      rw [ha, if_neg (by simp)] at e
      simp only [Prod.mk.injEq] at e
      obtain ⟨rfl, rfl⟩ := e
      clear ha HR
      go_wp2
      go_ret2
      exact ⟨none, 0, rfl, World.ownsRow_nil _ _ _ _, k3⟩
    | true =>
      have e := HR.out
      rw [ha, if_pos rfl] at e
      simp only [Prod.mk.injEq] at e
      obtain ⟨e1, rfl⟩ := e
      obtain ⟨x0, q, hx0, hq, hnq⟩ := told_form n l
      have hnd : q.Nodup := by
        unfold areC at ha
        rw [Bool.and_eq_true, hq] at ha
        exact of_decide_eq_true ha.2
      rw [hq] at e1
      have E1 := Lib.hid e1
      have Hnd := Lib.hid hnd
      have Hnq := Lib.hid hnq
      have Hx0 := Lib.hid hx0
      clear ha HR e1 hnd hnq hx0 hq
      go_wp2_with fail
      refine (paNumbers_any ((n : Int) + 1) l A c _ Hp.out ((hA.below k3 (Nat.le_refl _)).more k3.size)).mono ?_
      rw [HN.out]
      rintro e w4 ⟨g, rfl, own4, hb4⟩
      rw [Hx0.out] at own4
      have RD := Lib.hid (show CRead w4 w4.heap.size (some ⟨g, 1, none⟩) (icells q) from tail_read (x0 := x0) (q := q) (c := n + 1) (B := w3.heap.size) (by rw [Hnq.out]; exact own4))
      have k4 := k3.trans (hb4.mono k3.size)
      have K4 := Lib.hid k4
      have hn1 : (1 : Int) ≤ (n : Int) := by omega
      have hn0 : ¬ (n = 0) := by omega
      have hn12 : n ≤ 12 := by omega
      clear own4 hb4 b0 b1 k4 k3 hA
      go_wp2
      go_loopw [4, 19] (fun v i wr => ∃ k : Nat, k ≤ n ∧ i = .int .i64 k ∧ wr.ownsRow w4.heap.size 3 1 v k (icells (sortUp (q.take k))) ∧ Below w4.heap.size w4 wr ∧ (k = 0 → v = .slice none 0 0)) (fun _ i _ => n - (intOf i).toNat)
      case atStart => exact ⟨0, Nat.zero_le _, rfl, by rw [List.take_zero, show sortUp [] = [] from by simp [sortUp]]; exact World.ownsRow_nil _ _ _ _, Below.refl _ _, fun _ => rfl⟩
      case round =>
        obtain ⟨k, hk, rfl, hown, hb, hz⟩ := hrel
        have hs := hb.size
        by_cases hlt : k < n
        · obtain ⟨x, hx⟩ := getSome q k (by rw [Hnq.out]; exact hlt)
          have d0 : wr.cell? ⟨g, 1 + k, none⟩ = some (.int .i64 x) := by
            obtain ⟨b, off, e, hlb, hc⟩ := RD.out k _ (icells_at hx)
            simp only [Option.some.injEq, Addr.mk.injEq, and_true] at e
            obtain ⟨rfl, rfl⟩ := e
            exact carry hb hc hlb
          have hki : (k : Int) < (n : Int) := by omega
          have e2 : q.take (k + 1) = q.take k ++ [x] := by rw [List.take_add_one, hx, Option.toList_some]
          have hnd : (q.take k ++ [x]).Nodup := by rw [← e2]; exact Hnd.out.sublist (List.take_sublist _ _)
          have hpt := put_sortUp hnd
          rw [← e2] at hpt
          have hlk : (sortUp (q.take k)).length = k := by rw [sortUp_length, List.length_take, Hnq.out]; omega
          have hxn : x ∉ sortUp (q.take k) := fun hm => by
            have := (List.nodup_append.1 hnd).2.2
            exact absurd rfl (this x ((sortUp_perm _).mem_iff.1 hm) x (by simp))
          obtain ⟨A1, c1, rfl, _⟩ := own_shape hown
          have hcap := own_cap hown
          have Hpt := Lib.hid hpt
          clear hx e2 hnd hpt
          by_cases hk0 : k = 0
          · have e0 := hz hk0
            simp only [Value.slice.injEq] at e0
            obtain ⟨rfl, rfl, rfl⟩ := e0
            have hq1 : sortUp (q.take (0 + 1)) = [x] := by rw [← Hpt.out, List.take_zero, show sortUp [] = [] from by simp [sortUp]]; simp [putI, putAt]
            have call := l1Put_nil x wr
            rw [← hq1] at call
            have Call := Lib.hid call
            clear call hxn hlk hq1 hk0 hz hown Hpt
            go_wp2_with fail
            refine Call.out.mono ?_
            rintro e w5 ⟨A5, c5, rfl, own5, hb5⟩
            have own6 := own_lower own5 hs
            have k5 := hb.trans (hb5.mono hs)
            have Own6 := Lib.hid own6
            have K5 := Lib.hid k5
            clear own5 hb5 own6 k5 hb d0
            go_wp2
            go_roundw
            case rel => exact ⟨1, by omega, by go_num, Own6.out, K5.out, fun h => by omega⟩
            case measure => simp [intOf]; omega
          · obtain ⟨gg, rfl⟩ := own_form hown (by omega)
            have call := l1Put_any (sortUp (q.take k)) x gg c1 wr (by omega) (by omega) hxn (CRead.of_own hown) (own_lt hown).2
            rw [hlk, Hpt.out] at call
            have Call := Lib.hid call
            clear call hxn hlk hz
            go_wp2_with fail
            refine Call.out.mono ?_
            rintro e w5 ⟨A5, c5, rfl, own5, hb5⟩
            have own6 := own_lower own5 hs
            have k5 := hb.trans (hb5.mono hs)
            have Own6 := Lib.hid own6
            have K5 := Lib.hid k5
            clear own5 hb5 hown own6 k5 hb d0
            go_wp2
            go_roundw
            case rel => exact ⟨k + 1, by omega, by go_num, Own6.out, K5.out, fun h => by omega⟩
            case measure => simp [intOf]; omega
        · have hkl : k = n := by omega
          subst hkl
          have hge : ¬ ((k : Int) < (k : Int)) := by omega
          obtain ⟨A1, c1, rfl, _⟩ := own_shape hown
          have ht : q.take k = q := List.take_of_length_le (by rw [Hnq.out]; exact Nat.le_refl _)
          rw [ht] at hown
          have hrl : rl.length = k := by rw [E1.out, sortUp_length, Hnq.out]
          have Hrl := Lib.hid hrl
          have Hown := Lib.hid hown
          clear hown hrl ht
          go_wp2
          go_ret2
          refine ⟨A1, c1, by rw [Hrl.out]; rfl, ?_, K4.out.trans (hb.mono K4.out.size)⟩
          rw [Hrl.out, E1.out]
          exact own_lower Hown.out K4.out.size
end Go.Proofs.Ytgkedgfbncljbaa
/-
  'AreCouples', 'SpouseNumber', 'ToldNumbers': the program's, by their contracts.
-/
namespace Go.Proofs.Ytgkedgfbncljbaa
open Go.RowKit Go.Lib

theorem apart_any {n : Int} {l : PL} (h : isP n l = true) : apartC l = !l.any coupleB := by
  have hm := (isP_list h).2.2.1
  rw [Bool.eq_iff_iff]
  simp only [apartC, List.all_eq_true, Bool.not_eq_true', List.any_eq_false, decide_eq_true_eq]
  constructor
  · intro h x hx hc
    have h1 := hm x hx
    have h2 := h x hx
    simp only [coupleB, Bool.and_eq_true, decide_eq_true_eq] at hc
    omega
  · intro h x hx hc
    have h1 := hm x hx
    refine h x hx ?_
    simp only [coupleB, Bool.and_eq_true, decide_eq_true_eq]
    omega
/-- the length that slices.Compact leaves tells whether all are different -/
theorem told_len {p : Int} {l : PL} (h2 : 2 ≤ p) : (((compact (sortUp (toldC p l))).length : Int) == p - 1) = decide (toldC p l).Nodup := by
  have h1 := compact_len (sortUp_sorted (toldC p l))
  rw [sortUp_length] at h1
  have h3 := toldC_length l h2
  have h4 : decide (sortUp (toldC p l)).Nodup = decide (toldC p l).Nodup := by
    rw [Bool.eq_iff_iff, decide_eq_true_eq, decide_eq_true_eq]
    exact (sortUp_perm _).nodup_iff
  rw [h4] at h1
  rw [← h1, Bool.eq_iff_iff, beq_iff_eq, decide_eq_true_eq]
  omega
set_option maxHeartbeats 2000000 in
set_option maxRecDepth 100000 in
theorem implAreCouples_any (p : Int) (l : PL) (A : Option Addr) (c : Nat) (w : World) (hl : l.length ≤ 1048576) (hA : CRead w w.heap.size A (pcells l)) :
    Calls Try.prog 26 #[.agg #[.int .i64 p, .slice A l.length c]] w fun e w' => e = .returned (.tuple #[.bool (resAreCouples p l).1, .bool (resAreCouples p l).2]) ∧ Below w.heap.size w w' := by
  have hr : CRead (w.alloc (Obj.cells #[.int .i64 p, .slice A l.length c] 24)) (w.alloc (Obj.cells #[.int .i64 p, .slice A l.length c] 24)).heap.size A (pcells l) := (hA.below (B' := w.heap.size) (by go_grown) (Nat.le_refl _)).more (by go_size)
  have isp := isParty_any p l A c _ hl hr
  have Isp := Lib.hid isp
  clear isp hr
  cases hp : isP p l with
  | false =>
    have e : resAreCouples p l = (false, false) := by simp [resAreCouples, goodC, hp]
    rw [e]
    have Hp := Lib.hid hp
    clear hp e
    go_enter Try.func26, Try.ntmps26
    go_wp2_with fail
    refine Isp.out.mono ?_
    rw [Hp.out]
    rintro e w2 ⟨rfl, hb2⟩
    simp only [World.size_alloc] at hb2
    have k2 : Below w.heap.size w w2 := Below.trans (b := _) (by go_grown) (hb2.mono (by omega))
    go_wp2
    go_ret2
    exact ⟨rfl, k2⟩
  | true =>
    have hn := isP_range hp
    have hm : Int.tmod p 2 = p % 2 := Int.tmod_eq_emod_of_nonneg hn.1
    obtain ⟨⟨ra, rok⟩, hres⟩ : ∃ r, resAreCouples p l = r := ⟨_, rfl⟩
    rw [hres]
    have Hp := Lib.hid hp
    have HR := Lib.hid hres
    clear hp hres
    go_enter Try.func26, Try.ntmps26
    go_wp2_with fail
    refine Isp.out.mono ?_
    rw [Hp.out]
    rintro e w2 ⟨rfl, hb2⟩
    simp only [World.size_alloc] at hb2
    have a0 : w2.cell? ⟨w.heap.size, 0, none⟩ = some (.int .i64 p) := carry hb2 (by simp) (by omega)
    have a1 : w2.cell? ⟨w.heap.size, 1, none⟩ = some (.slice A l.length c) := carry hb2 (by simp) (by omega)
    have k2 : Below w.heap.size w w2 := Below.trans (b := _) (by go_grown) (hb2.mono (by omega))
    have g2 : w.heap.size < w2.heap.size := by have := hb2.size; simp only [World.size_alloc] at this; omega
    clear hb2
    by_cases h2 : 2 ≤ p
    · have h2' : ¬ p < 2 := by omega
      by_cases ho : p % 2 = 0
      · have hg : goodC p l = true := by simp [goodC, Hp.out, h2, ho]
        have hm0 : Int.tmod p 2 = 0 := by rw [hm, ho]
        have e := HR.out
        unfold resAreCouples at e
        rw [if_pos hg] at e
        simp only [Prod.mk.injEq] at e
        obtain ⟨e1, rfl⟩ := e
        have E1 := Lib.hid e1
        clear e1 hm ho hg HR
        have hin : ∀ m ∈ l, (0 ≤ m.1 ∧ m.1 ≤ 12) ∧ m.2 ≤ 12 := fun m hm => by
          have := (isP_list Hp.out).2.2.1 m hm
          omega
        have call := containsCouple_any l A c w2 hl hin ((hA.below k2 (Nat.le_refl _)).more k2.size)
        have hap := apart_any Hp.out
        cases hany : l.any coupleB with
        | true =>
          rw [hany] at call hap
          have e2 : ra = false := by rw [← E1.out]; unfold areC; rw [hap]; rfl
          subst e2
          have Call := Lib.hid call
          clear call hap hany hin E1
          go_wp2_with fail
          refine Call.out.mono ?_
          rintro e w3 ⟨rfl, hb3⟩
          have k3 := k2.trans (hb3.mono k2.size)
          clear a0 a1 hb3
          go_wp2
          go_ret2
          exact ⟨rfl, k3⟩
        | false =>
          rw [hany] at call hap
          have e2 : (((compact (sortUp (toldC p l))).length : Int) == p - 1) = ra := by rw [told_len h2, ← E1.out]; unfold areC; rw [hap]; rfl
          have hsl := sortUp_length (toldC p l)
          have htl := toldC_length l h2
          obtain ⟨S, hS⟩ : ∃ S, sortUp (toldC p l) = S := ⟨_, rfl⟩
          rw [hS] at e2 hsl
          have hSl : S.length ≤ 12 := by omega
          have HS := Lib.hid hS
          have Call := Lib.hid call
          clear call hap hany hin E1 hsl htl hS
          go_wp2_with fail
          refine Call.out.mono ?_
          rintro e w3 ⟨rfl, hb3⟩
          have k3 := k2.trans (hb3.mono k2.size)
          have b0 := carry hb3 a0 (by omega)
          have b1 := carry hb3 a1 (by omega)
          have g3 : w.heap.size < w3.heap.size := by have := hb3.size; omega
          clear a0 a1 hb3 g2 Call
          have hwr : IntKind.i64.wrap (p - 1) = p - 1 := by simp [IntKind.wrap, IntKind.bits, IntKind.signed]; omega
          go_wp2_with fail
          go_region_held3 (fun w' => w'.cell? ⟨w.heap.size, 0, none⟩ = some (.int .i64 p) ∧ w'.cell? ⟨w.heap.size, 1, none⟩ = some (.slice A l.length c)) (first | exact ⟨b0, b1⟩ | exact ⟨c0, c1⟩ | exact ⟨d0, d1⟩) ((first
            | (go_at_call 78; refine (toldNumbers_any p l A c _ Hp.out h2 hl ((hA.below k3.drew (Nat.le_refl _)).more k3.size)).mono ?_; rw [HS.out]; rintro e v1 ⟨g, cc, x0, rfl, tld⟩; have g1 : Below w3.heap.size w3 v1 := (Below.refl _ _).drew.trans tld.below; have c0 := carry g1 b0 (by omega); have c1 := carry g1 b1 (by omega); have s1 := g1.size)
            | (go_at_call 77; refine (compactTail_any x0 S g (cc + 1) cc _ _ (by omega) tld.cap tld.own).mono ?_; rintro e v2 ⟨rfl, hb2, hs2⟩; have g2 : Below w3.heap.size v1 v2 := hb2 _ (Nat.le_refl _); have d0 := carry g2 c0 (by omega); have d1 := carry g2 c1 (by omega))
            | skip))
          go_wp2
          go_ret2
          exact ⟨by rw [← e2]; rfl, k3.trans ((g1.trans g2).mono k3.size)⟩
      · have hm1 : Int.tmod p 2 = 1 := by rw [hm]; omega
        have hg : goodC p l = false := by simp [goodC, ho]
        have e := HR.out
        unfold resAreCouples at e
        rw [hg, if_neg (by simp)] at e
        simp only [Prod.mk.injEq] at e
        obtain ⟨rfl, rfl⟩ := e
        clear hm ho hg HR
        go_wp2
        go_ret2
        exact ⟨rfl, k2⟩
    · have h2' : p < 2 := by omega
      have hg : goodC p l = false := by simp [goodC, h2]
      have e := HR.out
      unfold resAreCouples at e
      rw [hg, if_neg (by simp)] at e
      simp only [Prod.mk.injEq] at e
      obtain ⟨rfl, rfl⟩ := e
      clear hm hg HR
      go_wp2
      go_ret2
      exact ⟨rfl, k2⟩
end Go.Proofs.Ytgkedgfbncljbaa
/-
  'SpouseNumber', 'ToldNumbers': the program's, by their contracts; the latter's result lies behind the first cell of a row.
-/
namespace Go.Proofs.Ytgkedgfbncljbaa
open Go.RowKit Go.Lib

theorem res_good {p : Int} {l : PL} : resAreCouples p l = (true, true) ∨ (resAreCouples p l ≠ (true, true) ∧ (goodC p l && areC p l) = false) := by
  unfold resAreCouples
  cases goodC p l <;> cases areC p l <;> simp
theorem res_yes {p : Int} {l : PL} (h : resAreCouples p l = (true, true)) : goodC p l = true ∧ areC p l = true := by
  unfold resAreCouples at h
  cases h1 : goodC p l <;> cases h2 : areC p l <;> simp [h1, h2] at h
  exact ⟨rfl, rfl⟩
set_option maxHeartbeats 2000000 in
set_option maxRecDepth 100000 in
theorem implSpouseNumber_any (p : Int) (l : PL) (A : Option Addr) (c : Nat) (w : World) (hl : l.length ≤ 1048576) (hA : CRead w w.heap.size A (pcells l)) :
    Calls Try.prog 33 #[.agg #[.int .i64 p, .slice A l.length c]] w fun e w' => e = .returned (.tuple #[.int .i64 (resSpouseNumber p l).1, .bool (resSpouseNumber p l).2]) ∧ Below w.heap.size w w' := by
  have hr : CRead (w.alloc (Obj.cells #[.int .i64 p, .slice A l.length c] 24)) (w.alloc (Obj.cells #[.int .i64 p, .slice A l.length c] 24)).heap.size A (pcells l) := (hA.below (B' := w.heap.size) (by go_grown) (Nat.le_refl _)).more (by go_size)
  have call := implAreCouples_any p l A c _ hl hr
  rcases res_good (p := p) (l := l) with hy | ⟨hno, hn2⟩
  · obtain ⟨hg, ha⟩ := res_yes hy
    obtain ⟨hp, h2, h12⟩ := goodC_form hg
    have hres : resSpouseNumber p l = ((numsOf p.toNat l).getD 1 0, true) := by simp [resSpouseNumber, hg, ha]
    have hnf : resNumbersOfFriends p l = (numsOf p.toNat l, true) := by simp [resNumbersOfFriends, hp]
    obtain ⟨rv, hrv⟩ : ∃ rv, (numsOf p.toNat l).getD 1 0 = rv := ⟨_, rfl⟩
    rw [hres, hrv]
    rw [hy] at call
    have hnl := numsOf_length p.toNat l
    obtain ⟨N, hN⟩ : ∃ N, numsOf p.toNat l = N := ⟨_, rfl⟩
    rw [hN] at hnf hrv hnl
    have Call := Lib.hid call
    have Hnf := Lib.hid hnf
    have Hrv := Lib.hid hrv
    have hN2 : 1 < N.length := by omega
    have hN2' : (1 : Int) < (N.length : Int) := by omega
    clear call hy hg ha hp hres hnf hrv hnl hN
    go_enter Try.func33, Try.ntmps33
    go_wp2_with fail
    refine Call.out.mono ?_
    rintro e w2 ⟨rfl, hb2⟩
    simp only [World.size_alloc] at hb2
    have a0 : w2.cell? ⟨w.heap.size, 0, none⟩ = some (.int .i64 p) := carry hb2 (by simp) (by omega)
    have a1 : w2.cell? ⟨w.heap.size, 1, none⟩ = some (.slice A l.length c) := carry hb2 (by simp) (by omega)
    have k2 : Below w.heap.size w w2 := Below.trans (b := _) (by go_grown) (hb2.mono (by omega))
    clear hb2 Call
    go_wp2_with fail
    refine (implNumbersOfFriends_any p l A c _ hl ((hA.below k2 (Nat.le_refl _)).more k2.size)).mono ?_
    rw [Hnf.out]
    rintro e w3 ⟨A3, c3, rfl, own3, hb3⟩
    obtain ⟨g, rfl⟩ := own_form own3 (by show 0 < N.length; omega)
    have d0 : w3.cell? ⟨g, 1, none⟩ = some (.int .i64 rv) := by
      refine own_intAt own3 (k := 1) ?_
      show N[1]? = some rv
      rw [← Hrv.out, List.getD_eq_getElem?_getD, List.getElem?_eq_getElem hN2]
      rfl
    have k3 := k2.trans (hb3.mono k2.size)
    clear own3 hb3 a0 a1 k2
    go_wp2
    go_ret2
    exact ⟨rfl, k3⟩
  · rw [(told_no hn2).2]
    have Call := Lib.hid call
    have Hno := Lib.hid hno
    clear call hno hn2
    go_enter Try.func33, Try.ntmps33
    go_wp2_with fail
    refine Call.out.mono ?_
    rintro e w2 ⟨rfl, hb2⟩
    simp only [World.size_alloc] at hb2
    have k2 : Below w.heap.size w w2 := Below.trans (b := _) (by go_grown) (hb2.mono (by omega))
    obtain ⟨⟨ra, rok⟩, hres⟩ : ∃ r, resAreCouples p l = r := ⟨_, rfl⟩
    rw [hres]
    have hc : (rok = true ∧ ra = false) ∨ rok = false := by
      have := Hno.out
      rw [hres] at this
      cases ra <;> cases rok <;> simp at this ⊢
    clear Call Hno hres
    rcases hc with ⟨rfl, rfl⟩ | rfl
    · go_wp2
      go_ret2
      exact ⟨rfl, k2⟩
    · go_wp2
      go_ret2
      exact ⟨rfl, k2⟩
/-- A call came back with the numbers told, which lie behind the first cell of a row of the call's own. -/
def GotTail (w : World) (q : List Int) (ok : Bool) (e : Ending) (w' : World) : Prop :=
  ∃ g cc x0, e = .returned (.tuple #[.slice (some ⟨g, 1, none⟩) q.length cc, .bool ok]) ∧ q.length ≤ cc ∧ w'.ownsRow w.heap.size 3 1 (.slice (some ⟨g, 0, none⟩) (q.length + 1) (cc + 1)) (q.length + 1) (icells (x0 :: q)) ∧ Below w.heap.size w w'
set_option maxHeartbeats 2000000 in
set_option maxRecDepth 100000 in
theorem implTold_yes (p : Int) (l : PL) (A : Option Addr) (c : Nat) (w : World) (hy : resAreCouples p l = (true, true)) (hl : l.length ≤ 1048576) (hA : CRead w w.heap.size A (pcells l)) :
    Calls Try.prog 28 #[.agg #[.int .i64 p, .slice A l.length c]] w (GotTail w (sortUp (toldC p l)) true) := by
  have hr : CRead (w.alloc (Obj.cells #[.int .i64 p, .slice A l.length c] 24)) (w.alloc (Obj.cells #[.int .i64 p, .slice A l.length c] 24)).heap.size A (pcells l) := (hA.below (B' := w.heap.size) (by go_grown) (Nat.le_refl _)).more (by go_size)
  have call := implAreCouples_any p l A c _ hl hr
  obtain ⟨hg, ha⟩ := res_yes hy
  obtain ⟨hp, h2, h12⟩ := goodC_form hg
  rw [hy] at call
  have Call := Lib.hid call
  have Hp := Lib.hid hp
  clear call hy hg ha hp
  obtain ⟨S, hS⟩ : ∃ S, sortUp (toldC p l) = S := ⟨_, rfl⟩
  rw [hS]
  have HS := Lib.hid hS
  clear hS
  go_enter Try.func28, Try.ntmps28
  go_wp2_with fail
  refine Call.out.mono ?_
  rintro e w2 ⟨rfl, hb2⟩
  simp only [World.size_alloc] at hb2
  have a0 : w2.cell? ⟨w.heap.size, 0, none⟩ = some (.int .i64 p) := carry hb2 (by simp) (by omega)
  have a1 : w2.cell? ⟨w.heap.size, 1, none⟩ = some (.slice A l.length c) := carry hb2 (by simp) (by omega)
  have k2 : Below w.heap.size w w2 := Below.trans (b := _) (by go_grown) (hb2.mono (by omega))
  clear hb2 Call
  go_wp2_with fail
  refine (toldNumbers_any p l A c _ Hp.out h2 hl ((hA.below k2 (Nat.le_refl _)).more k2.size)).mono ?_
  rw [HS.out]
  rintro e w3 ⟨g, cc, x0, rfl, tld⟩
  have k3 := k2.trans (tld.below.mono k2.size)
  have own4 := own_lower tld.own k2.size
  have hcap := tld.cap
  have Own4 := Lib.hid own4
  clear a0 a1 tld own4
  go_wp2
  go_ret2
  exact ⟨g, cc, x0, rfl, hcap, Own4.out, k3⟩
set_option maxHeartbeats 1000000 in
set_option maxRecDepth 100000 in
theorem implTold_no (p : Int) (l : PL) (A : Option Addr) (c : Nat) (w : World) (hno : resAreCouples p l ≠ (true, true)) (hl : l.length ≤ 1048576) (hA : CRead w w.heap.size A (pcells l)) :
    Calls Try.prog 28 #[.agg #[.int .i64 p, .slice A l.length c]] w (GotIntsOk w [] false) := by
  have hr : CRead (w.alloc (Obj.cells #[.int .i64 p, .slice A l.length c] 24)) (w.alloc (Obj.cells #[.int .i64 p, .slice A l.length c] 24)).heap.size A (pcells l) := (hA.below (B' := w.heap.size) (by go_grown) (Nat.le_refl _)).more (by go_size)
  have call := implAreCouples_any p l A c _ hl hr
  have Call := Lib.hid call
  have Hno := Lib.hid hno
  clear call hno
  go_enter Try.func28, Try.ntmps28
  go_wp2_with fail
  refine Call.out.mono ?_
  rintro e w2 ⟨rfl, hb2⟩
  simp only [World.size_alloc] at hb2
  have k2 : Below w.heap.size w w2 := Below.trans (b := _) (by go_grown) (hb2.mono (by omega))
  obtain ⟨⟨ra, rok⟩, hres⟩ : ∃ r, resAreCouples p l = r := ⟨_, rfl⟩
  rw [hres]
  have hc : (rok = true ∧ ra = false) ∨ rok = false := by
    have := Hno.out
    rw [hres] at this
    cases ra <;> cases rok <;> simp at this ⊢
  clear Call Hno hres
  rcases hc with ⟨rfl, rfl⟩ | rfl
  · go_wp2
    go_ret2
    exact ⟨none, 0, rfl, World.ownsRow_nil _ _ _ _, k2⟩
  · go_wp2
    go_ret2
    exact ⟨none, 0, rfl, World.ownsRow_nil _ _ _ _, k2⟩
end Go.Proofs.Ytgkedgfbncljbaa
/-
  A LIST OF NUMBERS THAT LIES BEHIND THE FIRST CELL OF A ROW OF THE CALL's OWN: read, and marked by the laws.
-/
namespace Go.Proofs.Ytgkedgfbncljbaa
open Go.RowKit

theorem tail_read2 {w : World} {B g m c : Nat} {x0 : Int} {q : List Int} (h : w.ownsRow B 3 1 (.slice (some ⟨g, 0, none⟩) m c) m (icells (x0 :: q))) : CRead w w.heap.size (some ⟨g, 1, none⟩) (icells q) := by
  intro j u hu
  obtain ⟨b, off, e, hlt, hc⟩ := CRead.of_own h (j + 1) u (by simpa [icells] using hu)
  simp only [Option.some.injEq, Addr.mk.injEq, and_true] at e
  obtain ⟨rfl, rfl⟩ := e
  exact ⟨g, 1, rfl, hlt, by rw [show 1 + j = 0 + (j + 1) by omega]; exact hc⟩
set_option maxHeartbeats 1000000 in
theorem markTail_any (x0 : Int) (l : List Int) (g n c cc : Nat) (k0 : Int) (base : Nat) (w : World) (hn : l.length = n) (hl : n ≤ 1048576) (hk0 : 0 ≤ k0 ∧ k0 ≤ 16777216) (hown0 : w.ownsRow base 3 1 (.slice (some ⟨g, 0, none⟩) (n + 1) c) (n + 1) (icells (x0 :: l))) :
    Calls Try.prog 30 #[.slice (some ⟨g, 1, none⟩) n cc, .int .i64 k0] w fun e w' =>
      e = .returned (.int .i64 (k0 + n)) ∧ w'.ownsRow base 3 1 (.slice (some ⟨g, 0, none⟩) (n + 1) c) (n + 1) (icells (x0 :: imarks k0 n)) ∧ w.grownBy w' (Value.ownBlock (.slice (some ⟨g, 0, none⟩) (n + 1) c)) := by
  have Hn := Lib.hid hn
  obtain ⟨hk00, hk01⟩ := hk0
  clear hn
  go_enter Try.func30, Try.ntmps30
  go_wp2
  go_loopw [1, 5] (fun q i wr => ∃ k : Nat, k ≤ n ∧ i = .int .i64 k ∧ q = .int .i64 (k0 + k) ∧ wr.ownsRow base 3 1 (.slice (some ⟨g, 0, none⟩) (n + 1) c) (n + 1) (icells (x0 :: ((imarks k0 n).take k ++ l.drop k))) ∧ w.grownBy wr (Value.ownBlock (.slice (some ⟨g, 0, none⟩) (n + 1) c))) (fun _ i _ => n - (intOf i).toNat)
  case atStart => exact ⟨0, Nat.zero_le _, rfl, by simp, by simpa using hown0, World.grownBy.refl _ _⟩
  case round =>
    obtain ⟨k, hk, rfl, rfl, hown, hb⟩ := hrel
    by_cases hlt : k < n
    · obtain ⟨x, hz, hx⟩ := take_drop_at (imarks k0 n) l n k (imarks_length _ _) Hn.out hlt
      have hlt' : (k : Int) < n := by omega
      have d0 := own_intAt hown (k := k + 1) (x := x) hz
      have f0 := hown.frozenAt (k + 1)
      rw [Nat.add_comm k 1] at d0 f0
      have Hz := Lib.hid hz
      clear hz hx
      go_wp2
      go_roundw
      case rel =>
        refine ⟨k + 1, by omega, by go_num, by go_num, ?_, ?_⟩
        · have h2 := own_setInt hown (k + 1) (k0 + k)
          rw [List.set_cons_succ, take_set_drop (imarks k0 n) l n k _ (imarks_length _ _) Hn.out (imarks_at hlt), Nat.add_comm k 1] at h2
          rw [Nat.add_comm k 1]
          exact h2
        · have h3 := gb_trans hb (hown.stored (k + 1) (.int .i64 (k0 + k))).2
          rw [Nat.add_comm k 1] at h3
          exact h3
      case measure => simp [intOf]; omega
    · have hkl : k = n := by omega
      subst hkl
      have hge : ¬ ((k : Int) < k) := by omega
      go_wp2
      go_ret
      refine ⟨rfl, ?_, hb⟩
      rwa [List.take_of_length_le (by rw [imarks_length]; exact Nat.le_refl _), List.drop_of_length_le (by rw [Hn.out]; exact Nat.le_refl _), List.append_nil] at hown
theorem implToldYes_any {p : Int} {l : PL} (hy : resAreCouples p l = (true, true)) (A : Option Addr) (c : Nat) (w : World) (hl : l.length ≤ 1048576) (hA : CRead w w.heap.size A (pcells l)) :
    Calls Try.prog 28 #[.agg #[.int .i64 p, .slice A l.length c]] w (GotTail w (resToldNumbers p l).1 (resToldNumbers p l).2) := by
  obtain ⟨hg, ha⟩ := res_yes hy
  have e : resToldNumbers p l = (sortUp (toldC p l), true) := by simp [resToldNumbers, hg, ha]
  rw [e]
  exact implTold_yes p l A c w hy hl hA
theorem implToldNo_any {p : Int} {l : PL} (hno : resAreCouples p l ≠ (true, true)) (A : Option Addr) (c : Nat) (w : World) (hl : l.length ≤ 1048576) (hA : CRead w w.heap.size A (pcells l)) :
    Calls Try.prog 28 #[.agg #[.int .i64 p, .slice A l.length c]] w (GotIntsOk w (resToldNumbers p l).1 (resToldNumbers p l).2) := by
  rcases res_good (p := p) (l := l) with hy | ⟨_, hn2⟩
  · exact absurd hy hno
  · rw [(told_no hn2).1]
    exact implTold_no p l A c w hno hl hA
end Go.Proofs.Ytgkedgfbncljbaa
/-
  'laws.FnExactToldNumbers' returns true, whatever its arguments: out of the contracts of the model's function and of the program's.
-/
namespace Go.Proofs.Ytgkedgfbncljbaa
open Go.RowKit

set_option maxHeartbeats 4000000 in
set_option maxRecDepth 100000 in
theorem lawToldNo_any (p0 : Int) (l0 : PL) (A0 : Option Addr) (c0 : Nat) (W : World) (hno : resAreCouples p0 l0 ≠ (true, true)) (hl0 : l0.length ≤ maxLen) (hA0 : CRead W W.heap.size A0 (pcells l0)) :
    Calls Try.prog 5 #[.agg #[.int .i64 p0, .slice A0 l0.length c0]] W fun e w' => e = .returned (.bool true) ∧ Below W.heap.size W w' := by
  have HNO := Lib.hid hno
  clear hno
  have hone : (0 : Int) ≤ 1 ∧ (1 : Int) ≤ 16777216 := by omega
  by_cases hz0 : szI (1048576) l0.length < 0
  · go_enter Try.func5, Try.ntmps5
    go_wp2_with fail
    refine (szParty_any _ _ _ _ _ hl0 (by omega) (by omega) _).mono ?_
    rintro e w1 ⟨rfl, hb1⟩
    simp only [World.size_alloc] at hb1
    have g1 : Below W.heap.size W w1 := Below.trans (b := _) (by go_grown) (hb1.mono (by omega))
    have s1 := hb1.size
    simp only [World.size_alloc] at s1
    have f1_0 : w1.cell? ⟨W.heap.size, 0, none⟩ = some (.int .i64 p0) := carry hb1 (by simp) (by omega)
    have f1_1 : w1.cell? ⟨W.heap.size, 1, none⟩ = some (.slice A0 l0.length c0) := carry hb1 (by simp) (by omega)
    have k1 : Below W.heap.size W w1 := g1
    go_wp2
    go_ret
    exact ⟨rfl, k1⟩
  have hn0 : l0.length ≤ 1048576 := by have h1 := szI_len _ _ hz0; have h2 := szI_hi (1048576) l0.length (by omega); omega
  have hz0' : 0 ≤ szI (1048576) l0.length := by omega
  have hz0'' : szI (1048576) l0.length ≤ 1048576 := by have h2 := szI_hi (1048576) l0.length (by omega); omega
  obtain ⟨⟨rm, rok⟩, hres⟩ : ∃ r, resToldNumbers p0 l0 = r := ⟨_, rfl⟩
  have hrn : rm.length ≤ 1048576 := by have h := resToldNumbers_len p0 l0; rw [hres] at h; exact h
  have hrl : rm.length ≤ maxLen := by unfold maxLen; omega
  have Hres := Lib.hid hres
  clear hres
  go_enter Try.func5, Try.ntmps5
  go_wp2_with fail
  refine (szParty_any _ _ _ _ _ hl0 (by omega) (by omega) _).mono ?_
  rintro e w1 ⟨rfl, hb1⟩
  simp only [World.size_alloc] at hb1
  have g1 : Below W.heap.size W w1 := Below.trans (b := _) (by go_grown) (hb1.mono (by omega))
  have s1 := hb1.size
  simp only [World.size_alloc] at s1
  have f1_0 : w1.cell? ⟨W.heap.size, 0, none⟩ = some (.int .i64 p0) := carry hb1 (by simp) (by omega)
  have f1_1 : w1.cell? ⟨W.heap.size, 1, none⟩ = some (.slice A0 l0.length c0) := carry hb1 (by simp) (by omega)
  have k1 : Below W.heap.size W w1 := g1
  go_wp2_with fail
  refine (toParty_any p0 l0 A0 c0 _ hn0 ((hA0.below k1 (Nat.le_refl _)).more k1.size)).mono ?_
  rintro e w2 ⟨T2, d2, rfl, n2, hb2⟩
  have g2 : Below w1.heap.size w1 w2 := hb2
  have s2 := hb2.size
  have f2_0 := carry g2 f1_0 (by omega)
  have f2_1 := carry g2 f1_1 (by omega)
  have k2 := k1.trans (g2.mono k1.size)
  clear f1_0 f1_1
  have r2 : Lies (.slice T2 l0.length d2) (w1.heap.size) w2.heap.size := own_lies n2
  go_wp2_with fail
  refine (specToldNumbers_any p0 l0 _ _ _ hn0 (CRead.of_own n2)).mono ?_
  rw [Hres.out]
  rintro e w3 ⟨T3, d3, rfl, n3, hb3⟩
  have g3 : Below w2.heap.size w2 w3 := hb3
  have s3 := hb3.size
  have f3_0 := carry g3 f2_0 (by omega)
  have f3_1 := carry g3 f2_1 (by omega)
  have o3_0 := own_below n2 g3 (Nat.le_refl _)
  have k3 := k2.trans (g3.mono k2.size)
  clear f2_0 f2_1 n2
  have r3 : Lies (.slice T3 rm.length d3) (w2.heap.size) w3.heap.size := own_lies n3
  clear o3_0 r2
  go_wp2_with fail
  refine (toParty_any p0 l0 A0 c0 _ hn0 ((hA0.below k3 (Nat.le_refl _)).more k3.size)).mono ?_
  rintro e w4 ⟨T4, d4, rfl, n4, hb4⟩
  have g4 : Below w3.heap.size w3 w4 := hb4
  have s4 := hb4.size
  have f4_0 := carry g4 f3_0 (by omega)
  have f4_1 := carry g4 f3_1 (by omega)
  have o4_0 := own_below n3 g4 (Nat.le_refl _)
  have k4 := k3.trans (g4.mono k3.size)
  clear f3_0 f3_1 n3
  have r4 : Lies (.slice T4 l0.length d4) (w3.heap.size) w4.heap.size := own_lies n4
  have q5_0 : (w4.alloc (Obj.cells #[.int .i64 p0, .slice T4 l0.length d4] 24)).cell? ⟨W.heap.size, 0, none⟩ = some (.int .i64 p0) := (World.cell?_alloc_lt _ _ _ (show W.heap.size < w4.heap.size by omega)).trans f4_0
  have q5_1 : (w4.alloc (Obj.cells #[.int .i64 p0, .slice T4 l0.length d4] 24)).cell? ⟨W.heap.size, 1, none⟩ = some (.slice A0 l0.length c0) := (World.cell?_alloc_lt _ _ _ (show W.heap.size < w4.heap.size by omega)).trans f4_1
  go_wp2_with fail
  refine (implToldNo_any HNO.out _ _ _ hn0 (((CRead.of_own n4).below (B' := w4.heap.size) (by go_grown) (Nat.le_refl _)).more (by go_size))).mono ?_
  rw [Hres.out]
  rintro e w6 ⟨T6, d6, rfl, n6, hb6⟩
  simp only [World.size_alloc] at n6
  simp only [World.size_alloc] at hb6
  have g6 : Below w4.heap.size w4 w6 := Below.trans (b := _) (by go_grown) (hb6.mono (by omega))
  have s6 := hb6.size
  simp only [World.size_alloc] at s6
  have f6_0 := carry g6 f4_0 (by omega)
  have f6_1 := carry g6 f4_1 (by omega)
  have f6_2 : w6.cell? ⟨w4.heap.size, 0, none⟩ = some (.int .i64 p0) := carry hb6 (by simp) (by omega)
  have f6_3 : w6.cell? ⟨w4.heap.size, 1, none⟩ = some (.slice T4 l0.length d4) := carry hb6 (by simp) (by omega)
  have o6_0 := own_below o4_0 g6 (Nat.le_refl _)
  have o6_1 := own_below n4 g6 (Nat.le_refl _)
  have k6 := k4.trans (g6.mono k4.size)
  clear f4_0 f4_1 o4_0 n4 q5_0 q5_1
  have r6 : Lies (.slice T6 rm.length d6) (w4.heap.size + 1) w6.heap.size := own_lies n6
  go_wp2_with fail
  refine (eqIntS_any rm rm _ _ _ _ _ hrl hrl (CRead.of_own n6) (CRead.of_own o6_0)).mono ?_
  rw [decide_eq_true rfl]
  rintro e w7 ⟨rfl, hb7⟩
  have g7 : Below w6.heap.size w6 w7 := hb7
  have s7 := hb7.size
  have f7_0 := carry g7 f6_0 (by omega)
  have f7_1 := carry g7 f6_1 (by omega)
  have f7_2 := carry g7 f6_2 (by omega)
  have f7_3 := carry g7 f6_3 (by omega)
  have o7_0 := own_below o6_0 g7 (Nat.le_refl _)
  have o7_1 := own_below o6_1 g7 (Nat.le_refl _)
  have o7_2 := own_below n6 g7 (Nat.le_refl _)
  have k7 := k6.trans (g7.mono k6.size)
  clear f6_0 f6_1 f6_2 f6_3 o6_0 o6_1 n6
  go_wp2
  go_region_held3 (fun w' => w'.cell? ⟨W.heap.size, 0, none⟩ = some (.int .i64 p0) ∧ w'.cell? ⟨W.heap.size, 1, none⟩ = some (.slice A0 l0.length c0) ∧ w'.cell? ⟨w4.heap.size, 0, none⟩ = some (.int .i64 p0) ∧ w'.cell? ⟨w4.heap.size, 1, none⟩ = some (.slice T4 l0.length d4)) (first | exact ⟨f7_0, f7_1, f7_2, f7_3⟩ | exact ⟨f8_0, f8_1, f8_2, f8_3⟩ | exact ⟨f9_0, f9_1, f9_2, f9_3⟩) ((first | (go_at_call 25; refine (toParty_any p0 l0 A0 c0 _ hn0 ((hA0.below k7.drew (Nat.le_refl _)).more k7.size)).mono ?_; rintro e w8 ⟨T8, d8, rfl, n8, hb8⟩; have g8 : Below w7.heap.size w7 w8 := (Below.refl _ _).drew.trans hb8; have s8 := g8.size; have f8_0 := carry g8 f7_0 (by omega); have f8_1 := carry g8 f7_1 (by omega); have f8_2 := carry g8 f7_2 (by omega); have f8_3 := carry g8 f7_3 (by omega); have o8_0 := own_below o7_0 g8 (Nat.le_refl _); have o8_1 := own_below o7_1 g8 (Nat.le_refl _); have o8_2 := own_below o7_2 g8 (Nat.le_refl _); have k8 := k7.trans (g8.mono k7.size)) | (go_at_call 20; refine (eqParty_any p0 p0 l0 l0 _ _ _ _ _ hl0 hl0 (CRead.of_own o8_1) (CRead.of_own n8)).mono ?_; rw [decide_eq_true ⟨rfl, rfl⟩]; rintro e w9 ⟨rfl, hb9⟩; have g9 : Below w8.heap.size w8 w9 := hb9; have s9 := g9.size; have f9_0 := carry g9 f8_0 (by omega); have f9_1 := carry g9 f8_1 (by omega); have f9_2 := carry g9 f8_2 (by omega); have f9_3 := carry g9 f8_3 (by omega); have o9_0 := own_below o8_0 g9 (Nat.le_refl _); have o9_1 := own_below o8_1 g9 (Nat.le_refl _); have o9_2 := own_below o8_2 g9 (Nat.le_refl _); have k9 := k8.trans (g9.mono k8.size))))
  clear f7_0 f7_1 f7_2 f7_3 o7_0 o7_1 o7_2 f8_0 f8_1 f8_2 f8_3 o8_0 o8_1 o8_2 n8
  go_wp2_with fail
  refine (markParty_any p0 l0 _ _ _ (1) _ _ rfl hn0 (by omega) o9_1).mono ?_
  rintro e w10 ⟨rfl, n10, hg10⟩
  have s10 := hg10.size
  have f10_0 := carryG hg10 r4 f9_0 (by omega)
  have f10_1 := carryG hg10 r4 f9_1 (by omega)
  have f10_2 := carryG hg10 r4 f9_2 (by omega)
  have f10_3 := carryG hg10 r4 f9_3 (by omega)
  have o10_0 := keptG hg10 r4 o9_0 r3 (by omega)
  have o10_2 := keptG hg10 r4 o9_2 r6 (by omega)
  have k10 := belowG k9 hg10 r4 k9.size (by omega)
  clear f9_0 f9_1 f9_2 f9_3 o9_0 o9_1 o9_2
  have hmk : ¬ (1 + 2 * (l0.length : Int) < 0) := by omega
  go_wp2_with fail
  refine (eqIntS_any rm rm _ _ _ _ _ hrl hrl (CRead.of_own o10_2) (CRead.of_own o10_0)).mono ?_
  rw [decide_eq_true rfl]
  rintro e w11 ⟨rfl, hb11⟩
  have g11 : Below w10.heap.size w10 w11 := hb11
  have s11 := hb11.size
  have f11_0 := carry g11 f10_0 (by omega)
  have f11_1 := carry g11 f10_1 (by omega)
  have f11_2 := carry g11 f10_2 (by omega)
  have f11_3 := carry g11 f10_3 (by omega)
  have o11_0 := own_below o10_0 g11 (Nat.le_refl _)
  have o11_1 := own_below n10 g11 (Nat.le_refl _)
  have o11_2 := own_below o10_2 g11 (Nat.le_refl _)
  have k11 := k10.trans (g11.mono k10.size)
  clear f10_0 f10_1 f10_2 f10_3 o10_0 n10 o10_2
  clear o11_1 r4
  go_wp2_with fail
  refine (markIntS_any rm _ _ _ 1 _ _ rfl hrn hone o11_2).mono ?_
  rintro e w12 ⟨rfl, n12, hg12⟩
  have s12 := hg12.size
  have f12_0 := carryG hg12 r6 f11_0 (by omega)
  have f12_1 := carryG hg12 r6 f11_1 (by omega)
  have f12_2 := carryG hg12 r6 f11_2 (by omega)
  have f12_3 := carryG hg12 r6 f11_3 (by omega)
  have o12_0 := keptG hg12 r6 o11_0 r3 (by omega)
  have k12 := belowG k11 hg12 r6 k11.size (by omega)
  clear f11_0 f11_1 f11_2 f11_3 o11_0 o11_2
  have hmr : ¬ (1 + (rm.length : Int) < 0) := by omega
  go_wp2_with fail
  refine (heldIntS_any _ _ _ 1 _ hrn hone (CRead.of_own n12)).mono ?_
  rintro e w13 ⟨rfl, h13⟩
  subst h13
  go_wp2_with fail
  refine (toParty_any p0 l0 A0 c0 _ hn0 ((hA0.below k12 (Nat.le_refl _)).more k12.size)).mono ?_
  rintro e w14 ⟨T14, d14, rfl, n14, hb14⟩
  have g14 : Below w12.heap.size w12 w14 := hb14
  have s14 := hb14.size
  have f14_0 := carry g14 f12_0 (by omega)
  have f14_1 := carry g14 f12_1 (by omega)
  have f14_2 := carry g14 f12_2 (by omega)
  have f14_3 := carry g14 f12_3 (by omega)
  have o14_0 := own_below o12_0 g14 (Nat.le_refl _)
  have o14_1 := own_below n12 g14 (Nat.le_refl _)
  have k14 := k12.trans (g14.mono k12.size)
  clear f12_0 f12_1 f12_2 f12_3 o12_0 n12
  have r14 : Lies (.slice T14 l0.length d14) (w12.heap.size) w14.heap.size := own_lies n14
  go_wp2_with fail
  refine (implToldNo_any HNO.out _ _ _ hn0 (CRead.of_own n14)).mono ?_
  rw [Hres.out]
  rintro e w15 ⟨T15, d15, rfl, n15, hb15⟩
  have g15 : Below w14.heap.size w14 w15 := hb15
  have s15 := hb15.size
  have f15_0 := carry g15 f14_0 (by omega)
  have f15_1 := carry g15 f14_1 (by omega)
  have f15_2 := carry g15 f14_2 (by omega)
  have f15_3 := carry g15 f14_3 (by omega)
  have o15_0 := own_below o14_0 g15 (Nat.le_refl _)
  have o15_1 := own_below o14_1 g15 (Nat.le_refl _)
  have o15_2 := own_below n14 g15 (Nat.le_refl _)
  have k15 := k14.trans (g15.mono k14.size)
  clear f14_0 f14_1 f14_2 f14_3 o14_0 o14_1 n14
  have r15 : Lies (.slice T15 rm.length d15) (w14.heap.size) w15.heap.size := own_lies n15
  clear o15_2 r14
  go_wp2_with fail
  refine (eqIntS_any rm rm _ _ _ _ _ hrl hrl (CRead.of_own n15) (CRead.of_own o15_0)).mono ?_
  rw [decide_eq_true rfl]
  rintro e w16 ⟨rfl, hb16⟩
  have g16 : Below w15.heap.size w15 w16 := hb16
  have s16 := hb16.size
  have f16_0 := carry g16 f15_0 (by omega)
  have f16_1 := carry g16 f15_1 (by omega)
  have f16_2 := carry g16 f15_2 (by omega)
  have f16_3 := carry g16 f15_3 (by omega)
  have o16_0 := own_below o15_0 g16 (Nat.le_refl _)
  have o16_1 := own_below o15_1 g16 (Nat.le_refl _)
  have o16_2 := own_below n15 g16 (Nat.le_refl _)
  have k16 := k15.trans (g16.mono k15.size)
  clear f15_0 f15_1 f15_2 f15_3 o15_0 o15_1 n15
  go_wp2_with fail
  refine (heldIntS_any _ _ _ 1 _ hrn hone (CRead.of_own o16_1)).mono ?_
  rintro e w17 ⟨rfl, h17⟩
  subst h17
  go_wp2
  go_ret
  exact ⟨rfl, k16⟩
set_option maxHeartbeats 4000000 in
set_option maxRecDepth 100000 in
theorem lawToldYes_any (p0 : Int) (l0 : PL) (A0 : Option Addr) (c0 : Nat) (W : World) (hy : resAreCouples p0 l0 = (true, true)) (hl0 : l0.length ≤ maxLen) (hA0 : CRead W W.heap.size A0 (pcells l0)) :
    Calls Try.prog 5 #[.agg #[.int .i64 p0, .slice A0 l0.length c0]] W fun e w' => e = .returned (.bool true) ∧ Below W.heap.size W w' := by
  have HY := Lib.hid hy
  clear hy
  have hone : (0 : Int) ≤ 1 ∧ (1 : Int) ≤ 16777216 := by omega
  by_cases hz0 : szI (1048576) l0.length < 0
  · go_enter Try.func5, Try.ntmps5
    go_wp2_with fail
    refine (szParty_any _ _ _ _ _ hl0 (by omega) (by omega) _).mono ?_
    rintro e w1 ⟨rfl, hb1⟩
    simp only [World.size_alloc] at hb1
    have g1 : Below W.heap.size W w1 := Below.trans (b := _) (by go_grown) (hb1.mono (by omega))
    have s1 := hb1.size
    simp only [World.size_alloc] at s1
    have f1_0 : w1.cell? ⟨W.heap.size, 0, none⟩ = some (.int .i64 p0) := carry hb1 (by simp) (by omega)
    have f1_1 : w1.cell? ⟨W.heap.size, 1, none⟩ = some (.slice A0 l0.length c0) := carry hb1 (by simp) (by omega)
    have k1 : Below W.heap.size W w1 := g1
    go_wp2
    go_ret
    exact ⟨rfl, k1⟩
  have hn0 : l0.length ≤ 1048576 := by have h1 := szI_len _ _ hz0; have h2 := szI_hi (1048576) l0.length (by omega); omega
  have hz0' : 0 ≤ szI (1048576) l0.length := by omega
  have hz0'' : szI (1048576) l0.length ≤ 1048576 := by have h2 := szI_hi (1048576) l0.length (by omega); omega
  obtain ⟨⟨rm, rok⟩, hres⟩ : ∃ r, resToldNumbers p0 l0 = r := ⟨_, rfl⟩
  have hrn : rm.length ≤ 1048576 := by have h := resToldNumbers_len p0 l0; rw [hres] at h; exact h
  have hrl : rm.length ≤ maxLen := by unfold maxLen; omega
  have Hres := Lib.hid hres
  clear hres
  go_enter Try.func5, Try.ntmps5
  go_wp2_with fail
  refine (szParty_any _ _ _ _ _ hl0 (by omega) (by omega) _).mono ?_
  rintro e w1 ⟨rfl, hb1⟩
  simp only [World.size_alloc] at hb1
  have g1 : Below W.heap.size W w1 := Below.trans (b := _) (by go_grown) (hb1.mono (by omega))
  have s1 := hb1.size
  simp only [World.size_alloc] at s1
  have f1_0 : w1.cell? ⟨W.heap.size, 0, none⟩ = some (.int .i64 p0) := carry hb1 (by simp) (by omega)
  have f1_1 : w1.cell? ⟨W.heap.size, 1, none⟩ = some (.slice A0 l0.length c0) := carry hb1 (by simp) (by omega)
  have k1 : Below W.heap.size W w1 := g1
  go_wp2_with fail
  refine (toParty_any p0 l0 A0 c0 _ hn0 ((hA0.below k1 (Nat.le_refl _)).more k1.size)).mono ?_
  rintro e w2 ⟨T2, d2, rfl, n2, hb2⟩
  have g2 : Below w1.heap.size w1 w2 := hb2
  have s2 := hb2.size
  have f2_0 := carry g2 f1_0 (by omega)
  have f2_1 := carry g2 f1_1 (by omega)
  have k2 := k1.trans (g2.mono k1.size)
  clear f1_0 f1_1
  have r2 : Lies (.slice T2 l0.length d2) (w1.heap.size) w2.heap.size := own_lies n2
  go_wp2_with fail
  refine (specToldNumbers_any p0 l0 _ _ _ hn0 (CRead.of_own n2)).mono ?_
  rw [Hres.out]
  rintro e w3 ⟨T3, d3, rfl, n3, hb3⟩
  have g3 : Below w2.heap.size w2 w3 := hb3
  have s3 := hb3.size
  have f3_0 := carry g3 f2_0 (by omega)
  have f3_1 := carry g3 f2_1 (by omega)
  have o3_0 := own_below n2 g3 (Nat.le_refl _)
  have k3 := k2.trans (g3.mono k2.size)
  clear f2_0 f2_1 n2
  have r3 : Lies (.slice T3 rm.length d3) (w2.heap.size) w3.heap.size := own_lies n3
  clear o3_0 r2
  go_wp2_with fail
  refine (toParty_any p0 l0 A0 c0 _ hn0 ((hA0.below k3 (Nat.le_refl _)).more k3.size)).mono ?_
  rintro e w4 ⟨T4, d4, rfl, n4, hb4⟩
  have g4 : Below w3.heap.size w3 w4 := hb4
  have s4 := hb4.size
  have f4_0 := carry g4 f3_0 (by omega)
  have f4_1 := carry g4 f3_1 (by omega)
  have o4_0 := own_below n3 g4 (Nat.le_refl _)
  have k4 := k3.trans (g4.mono k3.size)
  clear f3_0 f3_1 n3
  have r4 : Lies (.slice T4 l0.length d4) (w3.heap.size) w4.heap.size := own_lies n4
  have q5_0 : (w4.alloc (Obj.cells #[.int .i64 p0, .slice T4 l0.length d4] 24)).cell? ⟨W.heap.size, 0, none⟩ = some (.int .i64 p0) := (World.cell?_alloc_lt _ _ _ (show W.heap.size < w4.heap.size by omega)).trans f4_0
  have q5_1 : (w4.alloc (Obj.cells #[.int .i64 p0, .slice T4 l0.length d4] 24)).cell? ⟨W.heap.size, 1, none⟩ = some (.slice A0 l0.length c0) := (World.cell?_alloc_lt _ _ _ (show W.heap.size < w4.heap.size by omega)).trans f4_1
  go_wp2_with fail
  refine (implToldYes_any HY.out _ _ _ hn0 (((CRead.of_own n4).below (B' := w4.heap.size) (by go_grown) (Nat.le_refl _)).more (by go_size))).mono ?_
  rw [Hres.out]
  rintro e w6 ⟨T6, d6, x6, rfl, c6, n6, hb6⟩
  simp only [World.size_alloc] at n6
  simp only [World.size_alloc] at hb6
  have g6 : Below w4.heap.size w4 w6 := Below.trans (b := _) (by go_grown) (hb6.mono (by omega))
  have s6 := hb6.size
  simp only [World.size_alloc] at s6
  have f6_0 := carry g6 f4_0 (by omega)
  have f6_1 := carry g6 f4_1 (by omega)
  have f6_2 : w6.cell? ⟨w4.heap.size, 0, none⟩ = some (.int .i64 p0) := carry hb6 (by simp) (by omega)
  have f6_3 : w6.cell? ⟨w4.heap.size, 1, none⟩ = some (.slice T4 l0.length d4) := carry hb6 (by simp) (by omega)
  have o6_0 := own_below o4_0 g6 (Nat.le_refl _)
  have o6_1 := own_below n4 g6 (Nat.le_refl _)
  have k6 := k4.trans (g6.mono k4.size)
  clear f4_0 f4_1 o4_0 n4 q5_0 q5_1
  have r6 : Lies (.slice (some ⟨T6, 0, none⟩) (rm.length + 1) (d6 + 1)) (w4.heap.size + 1) w6.heap.size := own_lies n6
  go_wp2_with fail
  refine (eqIntS_any rm rm _ _ _ _ _ hrl hrl (tail_read2 n6) (CRead.of_own o6_0)).mono ?_
  rw [decide_eq_true rfl]
  rintro e w7 ⟨rfl, hb7⟩
  have g7 : Below w6.heap.size w6 w7 := hb7
  have s7 := hb7.size
  have f7_0 := carry g7 f6_0 (by omega)
  have f7_1 := carry g7 f6_1 (by omega)
  have f7_2 := carry g7 f6_2 (by omega)
  have f7_3 := carry g7 f6_3 (by omega)
  have o7_0 := own_below o6_0 g7 (Nat.le_refl _)
  have o7_1 := own_below o6_1 g7 (Nat.le_refl _)
  have o7_2 := own_below n6 g7 (Nat.le_refl _)
  have k7 := k6.trans (g7.mono k6.size)
  clear f6_0 f6_1 f6_2 f6_3 o6_0 o6_1 n6
  go_wp2
  go_region_held3 (fun w' => w'.cell? ⟨W.heap.size, 0, none⟩ = some (.int .i64 p0) ∧ w'.cell? ⟨W.heap.size, 1, none⟩ = some (.slice A0 l0.length c0) ∧ w'.cell? ⟨w4.heap.size, 0, none⟩ = some (.int .i64 p0) ∧ w'.cell? ⟨w4.heap.size, 1, none⟩ = some (.slice T4 l0.length d4)) (first | exact ⟨f7_0, f7_1, f7_2, f7_3⟩ | exact ⟨f8_0, f8_1, f8_2, f8_3⟩ | exact ⟨f9_0, f9_1, f9_2, f9_3⟩) ((first | (go_at_call 25; refine (toParty_any p0 l0 A0 c0 _ hn0 ((hA0.below k7.drew (Nat.le_refl _)).more k7.size)).mono ?_; rintro e w8 ⟨T8, d8, rfl, n8, hb8⟩; have g8 : Below w7.heap.size w7 w8 := (Below.refl _ _).drew.trans hb8; have s8 := g8.size; have f8_0 := carry g8 f7_0 (by omega); have f8_1 := carry g8 f7_1 (by omega); have f8_2 := carry g8 f7_2 (by omega); have f8_3 := carry g8 f7_3 (by omega); have o8_0 := own_below o7_0 g8 (Nat.le_refl _); have o8_1 := own_below o7_1 g8 (Nat.le_refl _); have o8_2 := own_below o7_2 g8 (Nat.le_refl _); have k8 := k7.trans (g8.mono k7.size)) | (go_at_call 20; refine (eqParty_any p0 p0 l0 l0 _ _ _ _ _ hl0 hl0 (CRead.of_own o8_1) (CRead.of_own n8)).mono ?_; rw [decide_eq_true ⟨rfl, rfl⟩]; rintro e w9 ⟨rfl, hb9⟩; have g9 : Below w8.heap.size w8 w9 := hb9; have s9 := g9.size; have f9_0 := carry g9 f8_0 (by omega); have f9_1 := carry g9 f8_1 (by omega); have f9_2 := carry g9 f8_2 (by omega); have f9_3 := carry g9 f8_3 (by omega); have o9_0 := own_below o8_0 g9 (Nat.le_refl _); have o9_1 := own_below o8_1 g9 (Nat.le_refl _); have o9_2 := own_below o8_2 g9 (Nat.le_refl _); have k9 := k8.trans (g9.mono k8.size))))
  clear f7_0 f7_1 f7_2 f7_3 o7_0 o7_1 o7_2 f8_0 f8_1 f8_2 f8_3 o8_0 o8_1 o8_2 n8
  go_wp2_with fail
  refine (markParty_any p0 l0 _ _ _ (1) _ _ rfl hn0 (by omega) o9_1).mono ?_
  rintro e w10 ⟨rfl, n10, hg10⟩
  have s10 := hg10.size
  have f10_0 := carryG hg10 r4 f9_0 (by omega)
  have f10_1 := carryG hg10 r4 f9_1 (by omega)
  have f10_2 := carryG hg10 r4 f9_2 (by omega)
  have f10_3 := carryG hg10 r4 f9_3 (by omega)
  have o10_0 := keptG hg10 r4 o9_0 r3 (by omega)
  have o10_2 := keptG hg10 r4 o9_2 r6 (by omega)
  have k10 := belowG k9 hg10 r4 k9.size (by omega)
  clear f9_0 f9_1 f9_2 f9_3 o9_0 o9_1 o9_2
  have hmk : ¬ (1 + 2 * (l0.length : Int) < 0) := by omega
  go_wp2_with fail
  refine (eqIntS_any rm rm _ _ _ _ _ hrl hrl (tail_read2 o10_2) (CRead.of_own o10_0)).mono ?_
  rw [decide_eq_true rfl]
  rintro e w11 ⟨rfl, hb11⟩
  have g11 : Below w10.heap.size w10 w11 := hb11
  have s11 := hb11.size
  have f11_0 := carry g11 f10_0 (by omega)
  have f11_1 := carry g11 f10_1 (by omega)
  have f11_2 := carry g11 f10_2 (by omega)
  have f11_3 := carry g11 f10_3 (by omega)
  have o11_0 := own_below o10_0 g11 (Nat.le_refl _)
  have o11_1 := own_below n10 g11 (Nat.le_refl _)
  have o11_2 := own_below o10_2 g11 (Nat.le_refl _)
  have k11 := k10.trans (g11.mono k10.size)
  clear f10_0 f10_1 f10_2 f10_3 o10_0 n10 o10_2
  clear o11_1 r4
  go_wp2_with fail
  refine (markTail_any x6 rm _ _ _ _ 1 _ _ rfl hrn hone o11_2).mono ?_
  rintro e w12 ⟨rfl, n12, hg12⟩
  have s12 := hg12.size
  have f12_0 := carryG hg12 r6 f11_0 (by omega)
  have f12_1 := carryG hg12 r6 f11_1 (by omega)
  have f12_2 := carryG hg12 r6 f11_2 (by omega)
  have f12_3 := carryG hg12 r6 f11_3 (by omega)
  have o12_0 := keptG hg12 r6 o11_0 r3 (by omega)
  have k12 := belowG k11 hg12 r6 k11.size (by omega)
  clear f11_0 f11_1 f11_2 f11_3 o11_0 o11_2
  have hmr : ¬ (1 + (rm.length : Int) < 0) := by omega
  go_wp2_with fail
  refine (heldIntS_any _ _ _ 1 _ hrn hone (tail_read2 n12)).mono ?_
  rintro e w13 ⟨rfl, h13⟩
  subst h13
  go_wp2_with fail
  refine (toParty_any p0 l0 A0 c0 _ hn0 ((hA0.below k12 (Nat.le_refl _)).more k12.size)).mono ?_
  rintro e w14 ⟨T14, d14, rfl, n14, hb14⟩
  have g14 : Below w12.heap.size w12 w14 := hb14
  have s14 := hb14.size
  have f14_0 := carry g14 f12_0 (by omega)
  have f14_1 := carry g14 f12_1 (by omega)
  have f14_2 := carry g14 f12_2 (by omega)
  have f14_3 := carry g14 f12_3 (by omega)
  have o14_0 := own_below o12_0 g14 (Nat.le_refl _)
  have o14_1 := own_below n12 g14 (Nat.le_refl _)
  have k14 := k12.trans (g14.mono k12.size)
  clear f12_0 f12_1 f12_2 f12_3 o12_0 n12
  have r14 : Lies (.slice T14 l0.length d14) (w12.heap.size) w14.heap.size := own_lies n14
  go_wp2_with fail
  refine (implToldYes_any HY.out _ _ _ hn0 (CRead.of_own n14)).mono ?_
  rw [Hres.out]
  rintro e w15 ⟨T15, d15, x15, rfl, c15, n15, hb15⟩
  have g15 : Below w14.heap.size w14 w15 := hb15
  have s15 := hb15.size
  have f15_0 := carry g15 f14_0 (by omega)
  have f15_1 := carry g15 f14_1 (by omega)
  have f15_2 := carry g15 f14_2 (by omega)
  have f15_3 := carry g15 f14_3 (by omega)
  have o15_0 := own_below o14_0 g15 (Nat.le_refl _)
  have o15_1 := own_below o14_1 g15 (Nat.le_refl _)
  have o15_2 := own_below n14 g15 (Nat.le_refl _)
  have k15 := k14.trans (g15.mono k14.size)
  clear f14_0 f14_1 f14_2 f14_3 o14_0 o14_1 n14
  have r15 : Lies (.slice (some ⟨T15, 0, none⟩) (rm.length + 1) (d15 + 1)) (w14.heap.size) w15.heap.size := own_lies n15
  clear o15_2 r14
  go_wp2_with fail
  refine (eqIntS_any rm rm _ _ _ _ _ hrl hrl (tail_read2 n15) (CRead.of_own o15_0)).mono ?_
  rw [decide_eq_true rfl]
  rintro e w16 ⟨rfl, hb16⟩
  have g16 : Below w15.heap.size w15 w16 := hb16
  have s16 := hb16.size
  have f16_0 := carry g16 f15_0 (by omega)
  have f16_1 := carry g16 f15_1 (by omega)
  have f16_2 := carry g16 f15_2 (by omega)
  have f16_3 := carry g16 f15_3 (by omega)
  have o16_0 := own_below o15_0 g16 (Nat.le_refl _)
  have o16_1 := own_below o15_1 g16 (Nat.le_refl _)
  have o16_2 := own_below n15 g16 (Nat.le_refl _)
  have k16 := k15.trans (g16.mono k15.size)
  clear f15_0 f15_1 f15_2 f15_3 o15_0 o15_1 n15
  go_wp2_with fail
  refine (heldIntS_any _ _ _ 1 _ hrn hone (tail_read2 o16_1)).mono ?_
  rintro e w17 ⟨rfl, h17⟩
  subst h17
  go_wp2
  go_ret
  exact ⟨rfl, k16⟩
theorem lawToldNumbers_any (p0 : Int) (l0 : PL) (A0 : Option Addr) (c0 : Nat) (W : World) (hl0 : l0.length ≤ maxLen) (hA0 : CRead W W.heap.size A0 (pcells l0)) :
    Calls Try.prog 5 #[.agg #[.int .i64 p0, .slice A0 l0.length c0]] W fun e w' => e = .returned (.bool true) ∧ Below W.heap.size W w' := by
  by_cases hy : resAreCouples p0 l0 = (true, true)
  · exact lawToldYes_any p0 l0 A0 c0 W hy hl0 hA0
  · exact lawToldNo_any p0 l0 A0 c0 W hy hl0 hA0
end Go.Proofs.Ytgkedgfbncljbaa
/-
  A CALL THAT RUNS ALONE, AT A ROW THAT WOULD LET OTHERS BE LEAVING: what holds of it alone holds there, too.
-/
namespace Go.Proofs.Ytgkedgfbncljbaa
open Go.Conc

theorem leaving_of_handed {a : Assume} {C : Checked} {os : Os} {f : FuncId} {r : Reach} {Pre : World → Array Value → Prop} {Post : World → Array Value → Value → World → Prop}
    (h : ReturnsInHanded a C os f r Pre Post) : ReturnsInLeavingWide a C os f r Pre Post :=
  fun enter => ReturnsInOpen.mono (fun _ _ _ x => ⟨x.2.1, onlyLeaving_of_quiet x.1, x.2.2⟩) (fun _ x => x) (h enter)
end Go.Proofs.Ytgkedgfbncljbaa
/-
  THE PROGRAM's HEAD, LOOKED AT ONCE: which make it is, and that a call may enter it. (The head's text is long: the kernel must not read it twice.)
-/
namespace Go.Proofs.Ytgkedgfbncljbaa

theorem make_of {P : Program} {rest : List (List Char)} (h : behindMainWord (wordsSigns P.initOrder.toList) = "cut".toList :: rest) : P.make = some .cut := by
  unfold Program.make
  rw [h]
  rfl
theorem strip_cut (rest : List (List Char)) : stripLifts liftWords ("cut".toList :: rest) = ([], "cut".toList :: rest) := rfl
theorem lifts_of {P : Program} {rest : List (List Char)} (h : behindMainWord (wordsSigns P.initOrder.toList) = "cut".toList :: rest) : P.headLifts = [] := by
  unfold Program.headLifts
  rw [h, strip_cut]
  rfl
theorem final_of {P : Program} {rest : List (List Char)} (h : behindMainWord (wordsSigns P.initOrder.toList) = "cut".toList :: rest) : P.liftsFinal = false := by
  unfold Program.liftsFinal
  rw [lifts_of h, h]
  rfl
theorem enter_of {P : Program} {rest : List (List Char)} (h : behindMainWord (wordsSigns P.initOrder.toList) = "cut".toList :: rest) (h1 : P.laysLater = false) (h2 : P.bearsReflect = false) (h3 : P.doorFits [] = true) : P.mayEnter = true := by
  unfold Program.mayEnter
  rw [h]
  show (_ || _ || _) = true
  rw [strip_cut, h1, h2, h3]
  rfl
end Go.Proofs.Ytgkedgfbncljbaa
/-
  THE PROGRAM's CLOSED FACTS, EACH ONCE; and how a row's facts are put together out of them.
-/
namespace Go.Proofs.Ytgkedgfbncljbaa
open Go.ChangeShapes Go.WideShapes Go.ChangeAt Go.RowKit

def headSigns : List Char := ([104, 97, 114, 110, 101, 115, 115, 32, 101, 55, 102, 51, 56, 98, 52, 99, 56, 52, 101, 50, 52, 55, 100, 53, 55, 53, 52, 101, 101, 51, 99, 55, 55, 100, 100, 100, 52, 97, 57, 101, 49, 49, 56, 97, 50, 100, 56, 53, 49, 101, 48, 48, 48, 56, 100, 101, 54, 100, 49, 48, 57, 102, 53, 50, 50, 55, 49, 51, 56, 55, 100, 101, 32, 99, 117, 116, 32, 97, 116, 32, 108, 111, 111, 112, 46, 101, 120, 97, 109, 112, 108, 101, 47, 103, 48, 49, 50, 53, 55, 47, 108, 97, 119, 115, 46, 70, 110, 69, 120, 97, 99, 116, 67, 111, 117, 112, 108, 101, 115, 80, 97, 114, 116, 121, 32, 108, 111, 111, 112, 46, 101, 120, 97, 109, 112, 108, 101, 47, 103, 48, 49, 50, 53, 55, 47, 108, 97, 119, 115, 46, 70, 110, 69, 120, 97, 99, 116, 65, 114, 101, 67, 111, 117, 112, 108, 101, 115, 32, 108, 111, 111, 112, 46, 101, 120, 97, 109, 112, 108, 101, 47, 103, 48, 49, 50, 53, 55, 47, 108, 97, 119, 115, 46, 70, 110, 69, 120, 97, 99, 116, 84, 111, 108, 100, 78, 117, 109, 98, 101, 114, 115, 32, 108, 111, 111, 112, 46, 101, 120, 97, 109, 112, 108, 101, 47, 103, 48, 49, 50, 53, 55, 47, 108, 97, 119, 115, 46, 70, 110, 69, 120, 97, 99, 116, 83, 112, 111, 117, 115, 101, 78, 117, 109, 98, 101, 114, 32, 108, 111, 111, 112, 46, 101, 120, 97, 109, 112, 108, 101, 47, 103, 48, 49, 50, 53, 55, 47, 108, 97, 119, 115, 46, 70, 110, 69, 120, 97, 99, 116, 73, 115, 70, 97, 109, 101, 32, 108, 111, 111, 112, 46, 101, 120, 97, 109, 112, 108, 101, 47, 103, 48, 49, 50, 53, 55, 47, 108, 97, 119, 115, 46, 70, 110, 69, 120, 97, 99, 116, 83, 116, 97, 114, 79, 102, 32, 108, 111, 111, 112, 46, 101, 120, 97, 109, 112, 108, 101, 47, 103, 48, 49, 50, 53, 55, 47, 108, 97, 119, 115, 46, 70, 110, 69, 120, 97, 99, 116, 81, 117, 101, 115, 116, 105, 111, 110, 115, 70, 111, 114, 83, 116, 97, 114, 32, 108, 111, 111, 112, 46, 101, 120, 97, 109, 112, 108, 101, 47, 103, 48, 49, 50, 53, 55, 47, 108, 97, 119, 115, 46, 70, 110, 69, 120, 97, 99, 116, 65, 114, 101, 67, 97, 108, 108, 115, 32, 108, 111, 111, 112, 46, 101, 120, 97, 109, 112, 108, 101, 47, 103, 48, 49, 50, 53, 55, 47, 108, 97, 119, 115, 46, 70, 110, 69, 120, 97, 99, 116, 65, 108, 108, 75, 110, 111, 119, 65, 108, 108, 32, 108, 111, 111, 112, 46, 101, 120, 97, 109, 112, 108, 101, 47, 103, 48, 49, 50, 53, 55, 47, 108, 97, 119, 115, 46, 70, 110, 69, 120, 97, 99, 116, 70, 101, 119, 101, 115, 116, 67, 97, 108, 108, 115, 32, 108, 111, 111, 112, 46, 101, 120, 97, 109, 112, 108, 101, 47, 103, 48, 49, 50, 53, 55, 47, 108, 97, 119, 115, 46, 70, 110, 69, 120, 97, 99, 116, 71, 111, 115, 115, 105, 112, 67, 97, 108, 108, 115, 32, 108, 111, 111, 112, 46, 101, 120, 97, 109, 112, 108, 101, 47, 103, 48, 49, 50, 53, 55, 47, 108, 97, 119, 115, 46, 70, 110, 69, 120, 97, 99, 116, 85, 115, 101, 108, 101, 115, 115, 67, 97, 108, 108, 115, 32, 108, 111, 111, 112, 46, 101, 120, 97, 109, 112, 108, 101, 47, 103, 48, 49, 50, 53, 55, 47, 108, 97, 119, 115, 46, 70, 110, 69, 120, 97, 99, 116, 70, 105, 114, 115, 116, 72, 101, 97, 114, 100, 32, 108, 111, 111, 112, 46, 101, 120, 97, 109, 112, 108, 101, 47, 103, 48, 49, 50, 53, 55, 47, 108, 97, 119, 115, 46, 70, 110, 69, 120, 97, 99, 116, 82, 111, 117, 110, 100, 115, 70, 111, 114, 65, 108, 108, 32, 108, 111, 111, 112, 46, 101, 120, 97, 109, 112, 108, 101, 47, 103, 48, 49, 50, 53, 55, 47, 108, 97, 119, 115, 46, 70, 110, 69, 120, 97, 99, 116, 82, 111, 117, 110, 100, 67, 97, 108, 108, 115] : List Nat).map Char.ofNat
set_option maxRecDepth 100000 in
theorem Try.initOrder_is : Try.prog.initOrder = String.ofList headSigns := by kernel_rfl
theorem Try.initOrder_signs : Try.prog.initOrder.toList = headSigns := by rw [Try.initOrder_is]; exact String.toList_ofList
set_option maxRecDepth 100000 in
theorem head_words : (behindMainWord (wordsSigns headSigns)).take 1 = ["cut".toList] := by kernel_rfl
theorem Try.words : ∃ rest, behindMainWord (wordsSigns Try.prog.initOrder.toList) = "cut".toList :: rest := by
  rw [Try.initOrder_signs]
  have h := List.take_append_drop 1 (behindMainWord (wordsSigns headSigns))
  rw [head_words] at h
  exact ⟨_, h.symm⟩
theorem Try.make : Try.prog.make = some .cut := by obtain ⟨_, h⟩ := Try.words; exact make_of h
theorem Try.liftsFinal : Try.prog.liftsFinal = false := by obtain ⟨_, h⟩ := Try.words; exact final_of h
theorem Try.laysLater : Try.prog.laysLater = false := by kernel_rfl
theorem Try.bearsReflect : Try.prog.bearsReflect = false := by kernel_rfl
theorem Try.doorFits : Try.prog.doorFits [] = true := by kernel_rfl
theorem Try.mayEnter : Try.prog.mayEnter = true := by obtain ⟨_, h⟩ := Try.words; exact enter_of h Try.laysLater Try.bearsReflect Try.doorFits
theorem Try.mapsRowed : mapsRowed Try.prog = true := by kernel_rfl
theorem Try.stops : (Try.prog.stops == []) = true := by kernel_rfl
theorem Try.stopKnobs : (Try.prog.stopKnobs == []) = true := by kernel_rfl
theorem Try.plainKeys : Try.prog.plainKeys = true := by kernel_rfl
theorem Try.stopsHeard : Try.prog.stopsHeard = true := by kernel_rfl

/-- What the types of one law give: closed facts on its parameters and its result. -/
def typeFacts (P : Program) (fn : Func) (s : ChangeSpec) (c : OpenClaim) : Bool :=
  fn.params.all (P.readableRec ·) && namedTie P c.named s.vars && (c.stops == []) && (c.knobs == []) &&
  (c.maps == (fn.params.toList ++ s.plain.varTypes P).any (P.mapsRec ·)) && (c.ifaces == (fn.params.toList ++ s.plain.varTypes P).any (P.ifacesRec ·)) && (c.mapsOut == P.mapsAmong fn.resultTypes.toList) &&
  (c.loops == (fn.params.toList ++ s.plain.varTypes P).any (P.loopsFrom ·)) && (c.wideKeys == (fn.params.toList ++ s.plain.varTypes P ++ fn.resultTypes.toList).any (P.wideKeysFrom ·)) &&
  s.vars.all (P.varReadable ·) && fn.resultTypes.all (fun t => P.readableRec t && decide (t < P.types.size)) && (c.ifacesOut == fn.resultTypes.toList.any (P.ifacesRec ·)) && (c.loopsOut == fn.resultTypes.toList.any (P.loopsFrom ·)) && c.shortTexts.isNone &&
  (c.kinds == (if c.domain.isEmpty then [] else fn.params.toList.map fun t => match P.underlying t with | some (.int k) => some k | _ => none)) && (c.pinned == c.pinnedBy) &&
  (c.veiled == (fn.params.toList ++ s.plain.varTypes P ++ fn.resultTypes.toList).any (P.veiledRec ·)) && c.veiledFits P fn.params.toList (fn.params.toList ++ s.plain.varTypes P ++ fn.resultTypes.toList)
theorem joined_all {P : Program} {f : FuncId} {fn : Func} {s : ChangeSpec} {c : OpenClaim} (k1 : c.wf (OpenSpec.ofChange s) = true) (kt : typeFacts P fn s c = true)
    (k10 : (c.inPlace == P.inPlace f) = true) (k11 : (c.unfollowed == P.unfollowed f) = true) (k12 : (c.recurses == P.recurses f) = true) (k13 : (c.named == P.varsNamed f) = true)
    (e2 : laidOutB P = true) (e3 : mapsRowed P = true) (e7 : (P.stops == []) = true) (e9 : (P.stopKnobs == []) = true) (e22 : (c.plainKeys == P.plainKeys) = true) (e23 : P.stopsHeard = true) (e24 : P.mayEnter = true)
    (e24b : (c.lifted == P.liftsFinal) = true) (e24c : (P.make == some c.make) = true) : joinedFacts P f fn s c = true := by
  unfold typeFacts at kt
  unfold joinedFacts
  simp only [Bool.and_eq_true] at kt ⊢
  obtain ⟨⟨⟨⟨⟨⟨⟨⟨⟨⟨⟨⟨⟨⟨⟨⟨⟨t1, t2⟩, t3⟩, t4⟩, t5⟩, t6⟩, t7⟩, t8⟩, t9⟩, t10⟩, t11⟩, t12⟩, t13⟩, t14⟩, t15⟩, t16⟩, t17⟩, t18⟩ := kt
  exact ⟨⟨⟨⟨⟨⟨⟨⟨⟨⟨⟨⟨⟨⟨⟨⟨⟨⟨⟨⟨⟨⟨⟨⟨⟨⟨⟨⟨⟨⟨⟨k1, e2⟩, e3⟩, t1⟩, t2⟩, t3⟩, e7⟩, t4⟩, e9⟩, k10⟩, k11⟩, k12⟩, k13⟩, t5⟩, t6⟩, t7⟩, t8⟩, t9⟩, t10⟩, t11⟩, t12⟩, t13⟩, e22⟩, t14⟩, e23⟩, e24⟩, e24b⟩, e24c⟩, t15⟩, t16⟩, t17⟩, t18⟩
theorem joined_of {f : FuncId} {fn : Func} {s : ChangeSpec} {c : OpenClaim} (k1 : c.wf (OpenSpec.ofChange s) = true) (kt : typeFacts Try.prog fn s c = true)
    (k10 : (c.inPlace == Try.prog.inPlace f) = true) (k11 : (c.unfollowed == Try.prog.unfollowed f) = true) (k12 : (c.recurses == Try.prog.recurses f) = true) (k13 : (c.named == Try.prog.varsNamed f) = true)
    (k22 : c.plainKeys = true) (k24b : c.lifted = false) (k24c : c.make = .cut) : joinedFacts Try.prog f fn s c = true :=
  joined_all k1 kt k10 k11 k12 k13 Try.laidOut Try.mapsRowed Try.stops Try.stopKnobs (by rw [k22, Try.plainKeys]; rfl) Try.stopsHeard Try.mayEnter (by rw [k24b, Try.liftsFinal]; rfl) (by rw [k24c, Try.make]; rfl)
end Go.Proofs.Ytgkedgfbncljbaa
