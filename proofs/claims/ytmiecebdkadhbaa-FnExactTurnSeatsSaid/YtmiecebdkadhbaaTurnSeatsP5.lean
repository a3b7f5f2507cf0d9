/-
  Texts put together for the claim of 'TurnSeats' (pack 5): TurnI, Nums, NumsW, Fof, Numbers, DistS, TurnS, LawTurnSeats, Head, Facts.
-/
import Derived.Test.YtmiecebdkadhbaaTurnSeatsP1
import Derived.Test.YtmiecebdkadhbaaTurnSeatsP2
import Derived.Test.YtmiecebdkadhbaaTurnSeatsP3
import Derived.Test.YtmiecebdkadhbaaTurnSeatsP4
import Derived.Maps.AppendAt
import Derived.Deep.RegionHeld3
import Derived.Test.YtmiecebdkadhbaaRows
/-
  SEATS TURNED, the program's, by its contracts: slices.Clone and slices.Reverse of places, 'behind', 'TurnSeats'.
-/
namespace Go.Proofs.Ytmiecebdkadhbaa
open Go.RowKit

set_option maxHeartbeats 1000000 in
set_option maxRecDepth 100000 in
theorem cloneS_any (l : List Int) (A : Option Addr) (c : Nat) (w : World) (hl : l.length ≤ 1048576) (hA : CRead w w.heap.size A (icells l)) :
    Calls Try.prog 76 #[.slice A l.length c] w fun e w' => ∃ A' c', e = .returned (.slice A' l.length c') ∧ w'.ownsRow w.heap.size 3 1 (.slice A' l.length c') l.length (icells l) ∧ Below w.heap.size w w' := by
  obtain ⟨i0, hi, hz0, hz1, hz2⟩ := info_parts Try.infoInt
  have q22 : ∀ (w : World) (a : Option Addr) (n c n' c' : Nat), (binOp .eql 69 (.slice a n c) (.slice none n' c')).run Try.prog w = .ok (.bool a.isNone) w := fun w a n c n' c' => Lib.run_eql_slice_nil w _ _ a n c n' c' Try.underlying69
  have u22 : ∀ w, Sem.run Try.prog (underlying 69) w = .ok (TypeDesc.slice 3) w := run_underlying Try.underlying69
  cases A with
  | none =>
    have hq : l = [] := by
      cases l with
      | nil => rfl
      | cons x l =>
        obtain ⟨b, off, e, _⟩ := hA 0 _ (by simp [icells]; rfl)
        cases e
    subst hq
    go_enter Try.func76, Try.ntmps76
    go_wp2
    go_ret
    exact ⟨none, 0, rfl, World.ownsRow_nil _ _ _ _, Below.refl _ _⟩
  | some a =>
    have hc := read_add_I hA
    have H : Aside (∀ j u, (icells l)[j]? = some u → w.cell? (a.add j) = some u) := hc
    clear hc hA
    go_enter Try.func76, Try.ntmps76
    go_wp2_with (at_builtin; refine wpList_append_own _ rfl _ _ 69 rfl w.heap.size 3 i0 (.int .i64 0) 1 8 Try.underlying69 hi hz0 hz1 hz2 rfl (by decide) _ _ _ rfl (World.ownsRow_made w #[] 0 (Nat.le_refl _) (Nat.zero_le _) rfl) a l.length c (icells l) rfl ?qc1 ?qc2 ?qc3 ?qc4 ?qc5 ?qc6 ?_)
    case qc1 => rw [icells_length, Nat.mul_one]
    case qc2 =>
      intro j u hj
      exact Lib.cell?_alloc_some _ (H.out j u hj)
    case qc3 => exact icells_one l
    case qc4 => unfold maxLen; omega
    case qc5 => omega
    case qc6 => simp
    intro v' w1 hown hgrow _

    obtain ⟨A1, c1, rfl, _⟩ := own_shape hown
    go_wp2
    go_ret
    exact ⟨A1, c1, rfl, hown, ((Below.refl _ w).alloc (Nat.le_refl _) _).grown hgrow (by simp) (by intro k hk; simp [Value.ownBlock] at hk; omega)⟩
set_option maxHeartbeats 1000000 in
set_option maxRecDepth 100000 in
theorem reverse_any (q : List Int) (i j g c c' B : Nat) (w : World) (hq : q.length ≤ 12) (hij : i ≤ j) (hj : j < q.length) (hown : w.ownsRow B 3 1 (.slice (some ⟨g, 0, none⟩) q.length c) q.length (icells q)) :
    Calls Try.prog 102 #[.slice (some ⟨g, i, none⟩) (j + 1 - i) c'] w fun e w' => (∃ v, e = .returned v) ∧ w'.ownsRow B 3 1 (.slice (some ⟨g, 0, none⟩) q.length c) q.length (icells (turnI q i j)) ∧ Below B w w' := by
  have hst : (icells q) = icells ((List.range q.length).map (turnB q i j 0)) := by rw [turnB_start]
  rw [hst] at hown
  have gB := (own_lt hown).1
  have Hown := Lib.hid hown
  obtain ⟨m, hm⟩ : ∃ m, j + 1 - i = m := ⟨_, rfl⟩
  rw [hm]
  clear hown hst
  go_enter Try.func102, Try.ntmps102
  go_wp2
  go_loopw [2, 3] (fun iv jv wr => ∃ s : Nat, 2 * s ≤ j - i + 1 ∧ iv = .int .i64 s ∧ jv = .int .i64 ((m : Int) - 1 - s) ∧ wr.ownsRow B 3 1 (.slice (some ⟨g, 0, none⟩) q.length c) q.length (icells ((List.range q.length).map (turnB q i j s))) ∧ Below B w wr) (fun iv _ _ => j + 1 - (intOf iv).toNat)
  case atStart => exact ⟨0, by omega, rfl, by go_num, Hown.out, Below.refl _ _⟩
  case round =>
    obtain ⟨s, hs, rfl, rfl, own, hb⟩ := hrel
    have hjs : s ≤ j := by omega
    by_cases hlt : i + s < j - s
    · have hlti : (s : Int) < (m : Int) - 1 - s := by omega
      obtain ⟨u, hu⟩ : ∃ u, turnB q i j s (i + s) = u := ⟨_, rfl⟩
      obtain ⟨v, hv⟩ : ∃ v, turnB q i j s (j - s) = v := ⟨_, rfl⟩
      have cu : wr.cell? ⟨g, i + s, none⟩ = some (.int .i64 u) := own_intAt own (by rw [List.getElem?_map, List.getElem?_range (by omega)]; simp [hu])
      have cv : wr.cell? ⟨g, j - s, none⟩ = some (.int .i64 v) := own_intAt own (by rw [List.getElem?_map, List.getElem?_range (by omega)]; simp [hv])
      have own2 := own_setInt own (i + s) v
      have own3 := own_setInt own2 (j - s) u
      have fz := own.frozenAt (i + s)
      have fz2 := own2.frozenAt (j - s)
      rw [range_set, range_set, ← hu, ← hv, turnB_next q hlt hjs, hu, hv] at own3
      have hm1 : ((s : Int)) < (m : Int) := by omega
      have hm2 : (m : Int) - 1 - s < (m : Int) := by omega
      have hm3 : (0 : Int) ≤ (m : Int) - 1 - s := by omega
      have ht1 : ((m : Int) - 1 - s).toNat = m - 1 - s := by omega
      have ea : i + (m - 1 - s) = j - s := by omega
      rw [← ea] at cv fz2 own3
      have hb3 := (hb.setCell (p := ⟨g, i + s, none⟩) gB (.int .i64 v)).setCell (p := ⟨g, i + (m - 1 - s), none⟩) gB (.int .i64 u)
      have Own3 := Lib.hid (own_below own3 (Below.refl _ _).drew (Nat.le_refl _))
      have Hb3 := Lib.hid hb3.drew
      clear hb3
      have fz1 := own.frozenAt (i + (m - 1 - s))
      clear own own2 own3 hb hu hv ea
      go_wp2
      go_region
      go_wp2
      go_roundw
      case rel => exact ⟨s + 1, by omega, by go_num, by congr 1; omega, Own3.out, Hb3.out⟩
      case measure => simp [intOf]; omega
    · have hge : ¬ ((s : Int) < (m : Int) - 1 - s) := by omega
      rw [turnB_done q hlt hs hij] at own
      have Own := Lib.hid own
      clear own
      go_wp2
      refine show _ = [] ∧ _ from ⟨rfl, .tuple #[], by simp [results, Try.results102, go_sem], ?_⟩
      exact ⟨⟨_, rfl⟩, Own.out, hb⟩
set_option maxHeartbeats 1000000 in
set_option maxRecDepth 100000 in
theorem behind_any (q : List Int) (i j : Nat) (A : Option Addr) (c : Nat) (w : World) (hq : q.length ≤ 12) (hij : i ≤ j) (hj : j < q.length) (hA : CRead w w.heap.size A (icells q)) :
    Calls Try.prog 72 #[.slice A q.length c, .agg #[.int .i64 i, .int .i64 j]] w fun e w' => ∃ A' c', e = .returned (.slice A' (turnI q i j).length c') ∧ w'.ownsRow w.heap.size 3 1 (.slice A' (turnI q i j).length c') (turnI q i j).length (icells (turnI q i j)) ∧ Below w.heap.size w w' := by
  rw [turnI_length]
  have call := fun X hX => cloneS_any q A c X (by omega) hX
  have calr := fun (g c2 c' B : Nat) (X : World) (h : X.ownsRow B 3 1 (.slice (some ⟨g, 0, none⟩) q.length c2) q.length (icells q)) => reverse_any q i j g c2 c' B X hq hij hj h
  have Call := Lib.hid call
  have Calr := Lib.hid calr
  have hr : CRead (w.alloc (Obj.cells #[.int .i64 i, .int .i64 j] 84)) (w.alloc (Obj.cells #[.int .i64 i, .int .i64 j] 84)).heap.size A (icells q) := (hA.below (B' := w.heap.size) (by go_grown) (Nat.le_refl _)).more (by go_size)
  obtain ⟨R, hR⟩ : ∃ R, turnI q i j = R := ⟨_, rfl⟩
  simp only [hR] at Calr ⊢
  clear call calr hR
  go_enter Try.func72, Try.ntmps72
  go_wp2_with fail
  refine (Call.out _ hr).mono ?_
  rintro e w2 ⟨A2, c2, rfl, own2, hb2⟩
  obtain ⟨g, rfl⟩ := own_form own2 (by omega)
  have c0 : w2.cell? ⟨w.heap.size, 0, none⟩ = some (.int .i64 i) := carry hb2 (by simp) (by simp)
  have c1 : w2.cell? ⟨w.heap.size, 1, none⟩ = some (.int .i64 j) := carry hb2 (by simp) (by simp)
  have hcap := own_cap own2
  have hji : (j : Int) + 1 ≤ (c2 : Int) := by omega
  have hij2 : (i : Int) ≤ (j : Int) + 1 := by omega
  have k2 : Below w.heap.size w w2 := Below.trans (b := _) (by go_grown) (hb2.mono (by simp))
  simp only [World.size_alloc] at own2
  have own2' := own_lower own2 (Nat.le_succ _)
  have Own2 := Lib.hid own2'
  have s2 := hb2.size
  simp only [World.size_alloc] at s2
  clear own2 own2' hb2
  go_wp2_with fail
  refine (Calr.out g c2 (c2 - i) w.heap.size w2 Own2.out).mono ?_
  rintro e w3 ⟨⟨v, rfl⟩, own3, hb3⟩
  have Own3 := Lib.hid own3
  clear own3
  go_wp2
  go_ret
  exact ⟨_, c2, rfl, Own3.out, k2.trans hb3⟩
set_option maxHeartbeats 1000000 in
set_option maxRecDepth 100000 in
theorem implTurnSeats_any (q : List Int) (A : Option Addr) (c : Nat) (i j : Int) (w : World) (hl : q.length ≤ 1048576) (hA : CRead w w.heap.size A (icells q)) (hd : q.length ≤ c) :
    Calls Try.prog 27 #[.slice A q.length c, .int .i64 i, .int .i64 j] w (GotIntsOk w (resTurnSeats q i j).1 (resTurnSeats q i j).2) := by
  obtain ⟨⟨rv, rok⟩, hres⟩ : ∃ x, resTurnSeats q i j = x := ⟨_, rfl⟩
  rw [hres]
  cases ht : turnsI q i j with
  | false =>
    have e : rv = [] ∧ rok = false := by
      unfold resTurnSeats at hres
      rw [ht] at hres
      exact ⟨(Prod.mk.injEq .. ▸ hres).1.symm, (Prod.mk.injEq .. ▸ hres).2.symm⟩
    obtain ⟨rfl, rfl⟩ := e
    have call := fun (B0 : Option Addr) (n0 c0 : Nat) (X : World) hX => areDifferent_any 12 q B0 A n0 c0 c X hl hd hX
    cases hd12 : diffI 12 q with
    | false =>
      rw [hd12] at call
      have Call := Lib.hid call
      clear call ht hres
      go_enter Try.func27, Try.ntmps27
      go_wp2_with fail
      refine (Call.out none 0 0 _ hA).mono ?_
      rintro e w2 ⟨rfl, hb2⟩
      go_wp2
      go_ret2
      exact ⟨none, 0, rfl, World.ownsRow_nil _ _ _ _, hb2⟩
    | true =>
      rw [hd12] at call
      have Call := Lib.hid call
      have hbad : ¬ (0 ≤ i ∧ i ≤ j ∧ j < q.length) := by
        intro h
        unfold turnsI at ht
        rw [hd12, decide_eq_true h] at ht
        cases ht
      clear call ht hres
      by_cases h1 : i < 0
      · clear hbad
        go_enter Try.func27, Try.ntmps27
        go_wp2_with fail
        refine (Call.out none 0 0 _ hA).mono ?_
        rintro e w2 ⟨rfl, hb2⟩
        go_wp2
        go_ret2
        exact ⟨none, 0, rfl, World.ownsRow_nil _ _ _ _, hb2⟩
      · by_cases h2 : j < i
        · clear hbad
          go_enter Try.func27, Try.ntmps27
          go_wp2_with fail
          refine (Call.out none 0 0 _ hA).mono ?_
          rintro e w2 ⟨rfl, hb2⟩
          go_wp2
          go_ret2
          exact ⟨none, 0, rfl, World.ownsRow_nil _ _ _ _, hb2⟩
        · have h3 : (q.length : Int) ≤ j := by omega
          clear hbad
          go_enter Try.func27, Try.ntmps27
          go_wp2_with fail
          refine (Call.out none 0 0 _ hA).mono ?_
          rintro e w2 ⟨rfl, hb2⟩
          go_wp2
          go_ret2
          exact ⟨none, 0, rfl, World.ownsRow_nil _ _ _ _, hb2⟩
  | true =>
    have e : rv = turnI q i.toNat j.toNat ∧ rok = true := by
      unfold resTurnSeats at hres
      rw [ht] at hres
      exact ⟨(Prod.mk.injEq .. ▸ hres).1.symm, (Prod.mk.injEq .. ▸ hres).2.symm⟩
    obtain ⟨hrv, rfl⟩ := e
    obtain ⟨h1, h2, h3, h4, h5⟩ := turnsI_parts ht
    obtain ⟨i, rfl⟩ : ∃ x : Nat, i = x := ⟨i.toNat, by omega⟩
    obtain ⟨j, rfl⟩ : ∃ x : Nat, j = x := ⟨j.toNat, by omega⟩
    simp only [Int.toNat_natCast] at hrv
    have call := fun (B0 : Option Addr) (n0 c0 : Nat) (X : World) hX => areDifferent_any 12 q B0 A n0 c0 c X hl hd hX
    rw [h1] at call
    have calb := fun (X : World) hX => behind_any q i j A c X h2 (by omega) (by omega) hX
    rw [← hrv] at calb
    have Call := Lib.hid call
    have Calb := Lib.hid calb
    clear call calb ht hres hrv h1
    go_enter Try.func27, Try.ntmps27
    go_wp2_with fail
    refine (Call.out none 0 0 _ hA).mono ?_
    rintro e w2 ⟨rfl, hb2⟩
    go_wp2_with fail
    refine (Calb.out w2 ((hA.below hb2 (Nat.le_refl _)).more hb2.size)).mono ?_
    rintro e w3 ⟨A3, c3, rfl, own3, hb3⟩
    have Own3 := Lib.hid (own_lower own3 hb2.size)
    clear own3
    go_wp2
    go_ret2
    exact ⟨A3, c3, rfl, Own3.out, hb2.trans (hb3.mono hb2.size)⟩
end Go.Proofs.Ytmiecebdkadhbaa
/-
  LISTS OF NUMBERS OF FRIENDS AS PLAIN LISTS: what numbers are; sorted so that they are falling; sums; where they fail. Nothing here speaks of the program.
-/
namespace Go.Proofs.Ytmiecebdkadhbaa

def isNums (q : List Int) : Bool := decide (q.length ≤ 12) && q.all fun x => decide (0 ≤ x ∧ x < q.length)
theorem isNums_len {q : List Int} (h : isNums q = true) : q.length ≤ 12 := by
  simp only [isNums, Bool.and_eq_true, decide_eq_true_eq] at h
  exact h.1
theorem isNums_mem {q : List Int} (h : isNums q = true) : ∀ x ∈ q, 0 ≤ x ∧ x < q.length := by
  simp only [isNums, Bool.and_eq_true, List.all_eq_true, decide_eq_true_eq] at h
  exact h.2
theorem isNums_at {q : List Int} (h : isNums q = true) {k : Nat} {x : Int} (hx : q[k]? = some x) : 0 ≤ x ∧ x < q.length := isNums_mem h x (List.mem_of_getElem? hx)
theorem isNums_of {q : List Int} (h : q.length ≤ 12) (h2 : ∀ (k : Nat) (x : Int), k < q.length → q[k]? = some x → 0 ≤ x ∧ x < q.length) : isNums q = true := by
  simp only [isNums, Bool.and_eq_true, List.all_eq_true, decide_eq_true_eq]
  refine ⟨h, fun x hx => ?_⟩
  obtain ⟨i, hi, rfl⟩ := List.getElem_of_mem hx
  exact h2 i _ hi (List.getElem?_eq_getElem hi)
theorem isNums_bad {q : List Int} {k : Nat} {x : Int} (hx : q[k]? = some x) (h : ¬ (0 ≤ x ∧ x < q.length)) : isNums q = false := by
  cases he : isNums q with
  | false => rfl
  | true => exact absurd (isNums_at he hx) h
theorem isNums_many {q : List Int} (h : 12 < q.length) : isNums q = false := by
  cases he : isNums q with
  | false => rfl
  | true => have := isNums_len he; omega

/-! ## Falling -/
def fall (q : List Int) : List Int := q.mergeSort fun x y => decide (y ≤ x)
theorem fall_perm (q : List Int) : (fall q).Perm q := List.mergeSort_perm _ _
theorem fall_length (q : List Int) : (fall q).length = q.length := (fall_perm q).length_eq
theorem fall_mem {q : List Int} {x : Int} : x ∈ fall q ↔ x ∈ q := (fall_perm q).mem_iff
theorem fall_sorted (q : List Int) : (fall q).Pairwise fun x y => y ≤ x := by
  have h := List.pairwise_mergeSort (le := fun x y : Int => decide (y ≤ x)) (by intro a b c; simp; omega) (by intro a b; simp; omega) q
  exact h.imp (by simp)
theorem fall_unique {l q : List Int} (hs : l.Pairwise fun x y => y ≤ x) (hp : l.Perm q) : l = fall q :=
  List.Perm.eq_of_pairwise (le := fun x y : Int => y ≤ x) (fun a b _ _ h1 h2 => by omega) hs (fall_sorted q) (hp.trans (fall_perm q).symm)
theorem fall_nums {q : List Int} (h : isNums q = true) : isNums (fall q) = true := by
  refine isNums_of (by rw [fall_length]; exact isNums_len h) fun k x _ hx => ?_
  have := isNums_mem h x (fall_mem.1 (List.mem_of_getElem? hx))
  rw [fall_length]
  exact this

/-- the numbers from n down, j of them, each as often as it is in the list -/
def blockI (q : List Int) (x : Int) : List Int := q.filter fun y => decide (x = y)
def descI (q : List Int) (n j : Nat) : List Int := (List.range j).flatMap fun i : Nat => blockI q ((n : Int) - (i : Int))
theorem descI_zero (q : List Int) (n : Nat) : descI q n 0 = [] := rfl
theorem descI_next (q : List Int) (n j : Nat) : descI q n (j + 1) = descI q n j ++ blockI q ((n : Int) - j) := by
  unfold descI
  rw [List.range_succ, List.flatMap_append]
  simp
theorem blockI_snoc (q : List Int) (x y : Int) : blockI (q ++ [y]) x = blockI q x ++ if x = y then [y] else [] := by
  unfold blockI
  rw [List.filter_append]
  congr 1
  by_cases h : x = y
  · rw [if_pos h, List.filter_cons_of_pos (by simpa using h)]; rfl
  · rw [if_neg h, List.filter_cons_of_neg (by simpa using h)]; rfl
theorem mem_blockI {q : List Int} {x y : Int} : y ∈ blockI q x ↔ y ∈ q ∧ x = y := by simp [blockI]
theorem mem_descI {q : List Int} {n j : Nat} {y : Int} : y ∈ descI q n j ↔ y ∈ q ∧ (n : Int) - j < y ∧ y ≤ n := by
  simp only [descI, List.mem_flatMap, List.mem_range, mem_blockI]
  constructor
  · rintro ⟨i, hi, hy, rfl⟩; exact ⟨hy, by omega, by omega⟩
  · rintro ⟨hy, h1, h2⟩; exact ⟨((n : Int) - y).toNat, by omega, hy, by omega⟩
theorem descI_sorted (q : List Int) (n j : Nat) : (descI q n j).Pairwise fun x y => y ≤ x := by
  induction j with
  | zero => exact List.Pairwise.nil
  | succ j ih =>
    rw [descI_next, List.pairwise_append]
    refine ⟨ih, ?_, fun a ha b hb => ?_⟩
    · rw [List.pairwise_iff_getElem]
      intro a b ha hb _
      have h1 := (mem_blockI.1 (List.getElem_mem ha)).2
      have h2 := (mem_blockI.1 (List.getElem_mem hb)).2
      omega
    · have h1 := mem_descI.1 ha
      have h2 := (mem_blockI.1 hb).2
      omega
theorem count_blockI (q : List Int) (x y : Int) : (blockI q x).count y = if x = y then q.count y else 0 := by
  unfold blockI
  by_cases h : x = y
  · subst h
    rw [if_pos rfl, List.count_filter (by simp)]
  · rw [if_neg h, List.count_eq_zero]
    intro hm
    exact h (by simpa using (List.mem_filter.1 hm).2)
theorem count_descI (q : List Int) (n j : Nat) (y : Int) : (descI q n j).count y = if (n : Int) - j < y ∧ y ≤ n then q.count y else 0 := by
  induction j with
  | zero => rw [descI_zero, if_neg (by omega)]; rfl
  | succ j ih =>
    rw [descI_next, List.count_append, ih, count_blockI]
    by_cases h1 : (n : Int) - j = y
    · rw [if_pos h1, if_neg (by omega), if_pos (by omega), Nat.zero_add]
    · rw [if_neg h1, Nat.add_zero]
      by_cases h2 : (n : Int) - j < y ∧ y ≤ n
      · rw [if_pos h2, if_pos (by omega)]
      · rw [if_neg h2, if_neg (by omega)]
theorem descI_fall {q : List Int} (h : isNums q = true) : descI q q.length (q.length + 1) = fall q := by
  refine fall_unique (descI_sorted _ _ _) (List.perm_iff_count.2 fun y => ?_)
  rw [count_descI]
  split
  · rfl
  · rename_i hn
    symm
    rw [List.count_eq_zero]
    intro hy
    have := isNums_mem h y hy
    omega
theorem descI_le (q : List Int) (n j : Nat) : (descI q n j).length ≤ j * q.length := by
  induction j with
  | zero => simp [descI_zero]
  | succ j ih =>
    rw [descI_next, List.length_append, Nat.add_mul, Nat.one_mul]
    have : (blockI q ((n : Int) - j)).length ≤ q.length := List.length_filter_le _ _
    omega
theorem blockI_le (q : List Int) (x : Int) : (blockI q x).length ≤ q.length := List.length_filter_le _ _

/-! ## Sums -/
def sumI (q : List Int) : Int := q.foldl (· + ·) 0
theorem sumI_snoc (q : List Int) (x : Int) : sumI (q ++ [x]) = sumI q + x := by simp [sumI, List.foldl_append]
theorem sumI_nil : sumI [] = 0 := rfl
/-- a bound of the sum of a beginning -/
theorem sumI_take_bound {q : List Int} {m : Int} (hm : 0 ≤ m) (h : ∀ x ∈ q, 0 ≤ x ∧ x ≤ m) : ∀ k, 0 ≤ sumI (q.take k) ∧ sumI (q.take k) ≤ k * m := by
  intro k
  induction k with
  | zero => simp [sumI_nil]
  | succ k ih =>
    rw [List.take_add_one]
    have e : ((k + 1 : Nat) : Int) * m = k * m + m := by rw [Int.natCast_add, Int.add_mul]; simp
    rw [e]
    cases hx : q[k]? with
    | none => simp; omega
    | some x =>
      have := h x (List.mem_of_getElem? hx)
      rw [Option.toList_some, sumI_snoc]
      omega
theorem sumI_perm {q l : List Int} (h : q.Perm l) : sumI q = sumI l := by
  unfold sumI
  exact h.foldl_eq' (fun x _ y _ z => by omega) 0

/-! ## Where numbers fail -/
def minsI (k : Int) (q : List Int) : List Int := q.map fun x => if k < x then k else x
theorem minsI_snoc (k : Int) (q : List Int) (x : Int) : minsI k (q ++ [x]) = minsI k q ++ [if k < x then k else x] := by simp [minsI]
def mostI (s : List Int) (k : Nat) : Int := (k : Int) * (k - 1) + sumI (minsI k (s.drop k))
def failAt (s : List Int) (k : Nat) : Bool := decide (mostI s k < sumI (s.take k))
def failsI (s : List Int) : Int := match (List.range s.length).find? fun i => failAt s (i + 1) with | none => 0 | some i => (i : Int) + 1
theorem failsI_at {s : List Int} {k : Nat} (hk : k < s.length) (h : ∀ j, j < k → failAt s (j + 1) = false) (hf : failAt s (k + 1) = true) : failsI s = k + 1 := by
  have : (List.range s.length).find? (fun i => failAt s (i + 1)) = some k := by
    rw [List.find?_range_eq_some]
    exact ⟨hf, by simpa using hk, fun j hj => by simp [h j hj]⟩
  unfold failsI
  rw [this]
theorem failsI_none {s : List Int} (h : ∀ j, j < s.length → failAt s (j + 1) = false) : failsI s = 0 := by
  have : (List.range s.length).find? (fun i => failAt s (i + 1)) = none := by
    rw [List.find?_range_eq_none]
    intro j hj
    simp [h j hj]
  unfold failsI
  rw [this]
theorem failsI_range (s : List Int) : 0 ≤ failsI s ∧ failsI s ≤ s.length := by
  unfold failsI
  split
  · omega
  · rename_i i hi
    have := List.mem_of_find?_eq_some hi
    rw [List.mem_range] at this
    omega
theorem minsI_bound {s : List Int} {m k : Int} (hk : 0 ≤ k) (h : ∀ x ∈ s, 0 ≤ x ∧ x ≤ m) : ∀ x ∈ minsI k s, 0 ≤ x ∧ x ≤ m := by
  intro x hx
  obtain ⟨y, hy, rfl⟩ := List.mem_map.1 hx
  have := h y hy
  split <;> omega
/-- they can be -/
def canI (q : List Int) : Bool := decide (sumI q % 2 = 0) && decide (failsI (fall q) = 0)
end Go.Proofs.Ytmiecebdkadhbaa
/-
  NUMBERS OF FRIENDS: what they are, by the model's and the program's contracts.
-/
namespace Go.Proofs.Ytmiecebdkadhbaa
open Go.RowKit

def l1AllB (q : List Int) (lo hi : Int) : Bool := q.all fun x => decide (lo ≤ x ∧ x ≤ hi)
theorem l1AllB_yes {q : List Int} {lo hi : Int} (h : ∀ (j : Nat) (x : Int), j < q.length → q[j]? = some x → lo ≤ x ∧ x ≤ hi) : l1AllB q lo hi = true := by
  simp only [l1AllB, List.all_eq_true, decide_eq_true_eq]
  intro x hx
  obtain ⟨i, hi, rfl⟩ := List.getElem_of_mem hx
  exact h i _ hi (List.getElem?_eq_getElem hi)
theorem l1AllB_no {q : List Int} {lo hi : Int} {k : Nat} {x : Int} (hx : q[k]? = some x) (h : ¬ (lo ≤ x ∧ x ≤ hi)) : l1AllB q lo hi = false := by
  cases he : l1AllB q lo hi with
  | false => rfl
  | true =>
    simp only [l1AllB, List.all_eq_true, decide_eq_true_eq] at he
    exact absurd (he x (List.mem_of_getElem? hx)) h

set_option maxHeartbeats 1000000 in
theorem l1All_any (q : List Int) (A : Option Addr) (c : Nat) (lo hi : Int) (w : World) (hl : q.length ≤ 1048576) (hA : CRead w w.heap.size A (icells q)) :
    Calls Try.prog 67 #[.slice A q.length c, .int .i64 lo, .int .i64 hi] w fun e w' => e = .returned (.bool (l1AllB q lo hi)) ∧ w = w' := by
  go_enter Try.func67, Try.ntmps67
  go_wp2
  go_loop [11] (fun i => ∃ k : Nat, k ≤ q.length ∧ i = .int .i64 k ∧ ∀ (j : Nat) (x : Int), j < k → q[j]? = some x → lo ≤ x ∧ x ≤ hi) (fun i => q.length - (intOf i).toNat)
  case atStart => exact ⟨0, Nat.zero_le _, rfl, fun j x hj => by omega⟩
  case round =>
    obtain ⟨k, hk, rfl, hg⟩ := hrel
    have Hg := Lib.hid hg
    clear hg
    by_cases hlt : k < q.length
    · obtain ⟨x, hx⟩ := getSome q k hlt
      obtain ⟨b, off, rfl, hbb, c0⟩ := hA.int hx
      have hki : (k : Int) < (q.length : Int) := by omega
      have Hx := Lib.hid hx
      clear hx
      by_cases hin : lo ≤ x ∧ x ≤ hi
      · go_wp2_with (go_at_call 68; refine (l1In_yes _ _ _ hin.1 hin.2 _).mono ?_; rintro e w' ⟨rfl, rfl⟩)
        go_round
        case rel =>
          refine ⟨k + 1, by omega, by go_num, fun j y hj hy => ?_⟩
          by_cases hjk : j = k
          · subst hjk
            rw [Hx.out] at hy
            simp only [Option.some.injEq] at hy
            subst hy
            exact hin
          · exact Hg.out j y (by omega) hy
        case measure => simp [intOf]; omega
      · have e : l1AllB q lo hi = false := l1AllB_no Hx.out hin
        have He := Lib.hid e
        clear e
        go_wp2_with (go_at_call 68; refine (l1In_no _ _ _ (by omega) _).mono ?_; rintro e w' ⟨rfl, rfl⟩)
        go_ret
        exact ⟨by rw [He.out]; rfl, rfl⟩
    · have hkl : k = q.length := by omega
      have e : l1AllB q lo hi = true := l1AllB_yes fun j x hj hx => Hg.out j x (by omega) hx
      have He := Lib.hid e
      clear e
      have hge : ¬ ((k : Int) < (q.length : Int)) := by omega
      go_wp2
      go_ret
      exact ⟨by rw [He.out]; rfl, rfl⟩

theorem isNums_all {q : List Int} (h : q.length ≤ 12) : l1AllB q 0 ((q.length : Int) - 1) = isNums q := by
  unfold l1AllB isNums
  rw [decide_eq_true h, Bool.true_and]
  congr 1
  funext x
  congr 1
  apply propext
  omega

def resIsNumbers (q : List Int) : Bool := isNums q
/-! ## Sums -/
/-! ## Sorted so that they are falling: the model's -/
end Go.Proofs.Ytmiecebdkadhbaa
/-
  'FriendsOf': the model's and the program's, by their contracts.
-/
namespace Go.Proofs.Ytmiecebdkadhbaa
open Go.RowKit

def friendsI (l : PL) (a : Int) : List Int := l.filterMap fun q => if q.1 = a then some q.2 else if q.2 = a then some q.1 else none
def friendR (n : Nat) (t : Nat → Bool) : List Int := ((List.range n).filter t).map fun b : Nat => (b : Int)
theorem isorted_ext : ∀ {l m : List Int}, l.Pairwise (· < ·) → m.Pairwise (· < ·) → (∀ q, q ∈ l ↔ q ∈ m) → l = m
  | [], [], _, _, _ => rfl
  | [], b :: m, _, _, h => by have := (h b).2 (List.mem_cons_self ..); cases this
  | a :: l, [], _, _, h => by have := (h a).1 (List.mem_cons_self ..); cases this
  | a :: l, b :: m, hl, hm, h => by
    rw [List.pairwise_cons] at hl hm
    have hab : a = b := by
      rcases List.mem_cons.1 ((h a).1 (List.mem_cons_self ..)) with e | e
      · exact e
      · rcases List.mem_cons.1 ((h b).2 (List.mem_cons_self ..)) with e' | e'
        · exact e'.symm
        · have h1 := hm.1 a e; have h2 := hl.1 b e'; omega
    subst hab
    rw [isorted_ext hl.2 hm.2 fun q => ?_]
    constructor
    · intro hq
      rcases List.mem_cons.1 ((h q).1 (List.mem_cons_of_mem _ hq)) with e | e
      · subst e; have := hl.1 q hq; omega
      · exact e
    · intro hq
      rcases List.mem_cons.1 ((h q).2 (List.mem_cons_of_mem _ hq)) with e | e
      · subst e; have := hm.1 q hq; omega
      · exact e
theorem friendR_sorted (n : Nat) (t : Nat → Bool) : (friendR n t).Pairwise (· < ·) := by
  unfold friendR
  rw [List.pairwise_map]
  exact List.Pairwise.imp (fun {a b} h => by omega) ((List.pairwise_lt_range (n := n)).filter _)
theorem friendsI_sorted {p : Int} {l : PL} (h : isP p l = true) (a : Int) : (friendsI l a).Pairwise (· < ·) := by
  obtain ⟨_, _, hm, hs⟩ := isP_list h
  unfold friendsI
  rw [List.pairwise_filterMap]
  refine List.Pairwise.imp_of_mem (fun {q q'} hq hq' hlt u hu v hv => ?_) hs
  have h1 := hm q hq
  have h2 := hm q' hq'
  unfold plt at hlt
  split at hu
  · split at hv
    · simp at hu hv; omega
    · split at hv
      · simp at hu hv; omega
      · cases hv
  · split at hu
    · split at hv
      · simp at hu hv; omega
      · split at hv
        · simp at hu hv; omega
        · cases hv
    · cases hu
theorem friends_same {n : Nat} {l : PL} (h : isP n l = true) (a : Nat) : friendR n (adj l a) = friendsI l a := by
  refine isorted_ext (friendR_sorted _ _) (friendsI_sorted h _) fun x => ?_
  obtain ⟨_, _, hm, _⟩ := isP_list h
  simp only [friendR, friendsI, List.mem_map, List.mem_filter, List.mem_range, List.mem_filterMap, adj, Bool.or_eq_true, List.contains_iff_mem]
  constructor
  · rintro ⟨b, ⟨_, hb | hb⟩, rfl⟩
    · exact ⟨_, hb, by simp⟩
    · refine ⟨_, hb, ?_⟩
      have := hm _ hb
      simp only at this ⊢
      rw [if_neg (by omega)]; simp
  · rintro ⟨q, hq, he⟩
    have := hm q hq
    obtain ⟨u, v⟩ := q
    simp only at this he
    split at he
    · rename_i hu
      simp at he
      subst hu
      refine ⟨x.toNat, ⟨by omega, .inl ?_⟩, by omega⟩
      rw [show ((x.toNat : Nat) : Int) = v from by omega]
      exact hq
    · split at he
      · rename_i hv
        simp at he
        subst hv
        refine ⟨x.toNat, ⟨by omega, .inr ?_⟩, by omega⟩
        rw [show ((x.toNat : Nat) : Int) = u from by omega]
        exact hq
      · cases he
theorem friendsI_le (l : PL) (a : Int) : (friendsI l a).length ≤ l.length := List.length_filterMap_le _ _
theorem friendsI_snoc (l : PL) (x y a : Int) : friendsI (l ++ [(x, y)]) a = friendsI l a ++ if x = a then [y] else if y = a then [x] else [] := by
  unfold friendsI
  rw [List.filterMap_append]
  congr 1
  simp only [List.filterMap_cons, List.filterMap_nil]
  by_cases h1 : x = a
  · simp [h1]
  · by_cases h2 : y = a <;> simp [h1, h2]
theorem friendR_snoc (k : Nat) (t : Nat → Bool) : friendR (k + 1) t = friendR k t ++ if t k = true then [(k : Int)] else [] := by
  unfold friendR
  rw [List.range_succ, List.filter_append, List.map_append]
  congr 1
  by_cases h : t k = true <;> simp [h]
theorem friendR_le (k : Nat) (t : Nat → Bool) : (friendR k t).length ≤ k := by
  unfold friendR
  rw [List.length_map]
  exact Nat.le_trans (List.length_filter_le _ _) (by simp)

set_option maxHeartbeats 1000000 in
set_option maxRecDepth 100000 in
theorem paFriends_any (n a : Nat) (t : Nat → Nat → Bool) (A : Option Addr) (c : Nat) (G : Nat → Nat) (B : Nat) (w : World) (hn : n ≤ 12) (ha : a < n) (tab : TabG w B (.slice A n c) n n G t) :
    Calls Try.prog 119 #[.slice A n c, .int .i64 a] w fun e w' => ∃ A' c', e = .returned (.slice A' (friendR n (t a)).length c') ∧
      w'.ownsRow w.heap.size 3 1 (.slice A' (friendR n (t a)).length c') (friendR n (t a)).length (icells (friendR n (t a))) ∧ Below w.heap.size w w' := by
  obtain ⟨i0, hi, hz0, hz1, hz2⟩ := info_parts Try.infoInt
  obtain ⟨g, rfl⟩ := own_form tab.own (by omega)
  have d0 := tab.outer ha
  have hai : (a : Int) < n := by omega
  go_enter Try.func119, Try.ntmps119
  go_wp2
  clear d0
  go_loopw [5, 13] (fun v i wr => ∃ k : Nat, k ≤ n ∧ i = .int .i64 k ∧ wr.ownsRow w.heap.size 3 1 v (friendR k (t a)).length (icells (friendR k (t a))) ∧ Below w.heap.size w wr) (fun _ i _ => n - (intOf i).toNat)
  case atStart => exact ⟨0, Nat.zero_le _, rfl, World.ownsRow_nil _ _ _ _, Below.refl _ _⟩
  case round =>
    obtain ⟨k, hk, rfl, hown, hb⟩ := hrel
    have hs := hb.size
    by_cases hlt : k < n
    · have hki : (k : Int) < n := by omega
      have d1 := (tab.below hb (Nat.le_refl _)).cell ha hlt
      have hle := friendR_le k (t a)
      have Hsn := Lib.hid (friendR_snoc k (t a))
      cases ht : t a k with
      | false =>
        rw [ht] at d1
        have Ht := Lib.hid ht
        clear ht
        go_wp2
        go_roundw
        case rel =>
          refine ⟨k + 1, by omega, by go_num, ?_, hb⟩
          rw [Hsn.out, Ht.out]
          simp only [Bool.false_eq_true, if_false, List.append_nil]
          exact hown
        case measure => simp [intOf]; omega
      | true =>
        rw [ht] at d1
        have Ht := Lib.hid ht
        clear ht
        go_wp2_with (at_builtin; refine wpList_append_own _ rfl _ _ 25 rfl w.heap.size 3 i0 _ 1 8 Try.underlying25 hi hz0 hz1 hz2 rfl (by decide) _ _ _ rfl (hown.alloc _) ⟨wr.heap.size, 0, none⟩ 1 1 [.int .i64 k] rfl rfl (one_cell (by simp)) (one_one rfl) (by unfold maxLen; omega) (by omega) (by simp; omega) ?_; intro v1 w3 hown3 hg3 _; obtain ⟨A1, d1', rfl, _⟩ := own_shape hown3)
        go_roundw
        case rel =>
          refine ⟨k + 1, by omega, by go_num, ?_, ?_⟩
          · rw [Hsn.out, Ht.out]
            simp only [if_true]
            rw [icells_append, List.length_append]
            exact hown3
          · exact (hb.alloc hs _).grown hg3 (by simp; omega) (fun k hk => (hown.lt k hk).1)
        case measure => simp [intOf]; omega
    · have hkl : n = k := by omega
      subst hkl
      have hge : ¬ ((n : Int) < n) := by omega
      obtain ⟨A', c', rfl, _⟩ := own_shape hown
      have Hown := Lib.hid hown
      clear hown
      go_wp2
      go_ret
      exact ⟨A', c', rfl, Hown.out, hb⟩

def resFriendsOf (p : Int) (l : PL) (a : Int) : List Int × Bool := if isP p l && isMan p a then (friendsI l a, true) else ([], false)
theorem resFriendsOf_len (p : Int) (l : PL) (a : Int) : (resFriendsOf p l a).1.length ≤ 1048576 := by
  unfold resFriendsOf
  split
  · rename_i h
    simp only [Bool.and_eq_true] at h
    have h1 := isP_length h.1
    have h2 := isP_range h.1
    have h3 := people_sq h2.1 h2.2
    have h4 := friendsI_le l a
    show (friendsI l a).length ≤ 1048576
    omega
  · simp

end Go.Proofs.Ytmiecebdkadhbaa
/-
  HOW MANY FRIENDS EACH PERSON HAS: the model's count and the program's, by their contracts.
-/
namespace Go.Proofs.Ytmiecebdkadhbaa
open Go.RowKit

def bump (acc : List Int) (a : Int) : List Int := acc.set a.toNat (acc.getD a.toNat 0 + 1)
def numsOf (n : Nat) (l : PL) : List Int := l.foldl (fun acc q => bump (bump acc q.1) q.2) (List.replicate n 0)
theorem bump_length (acc : List Int) (a : Int) : (bump acc a).length = acc.length := by simp [bump]
theorem bump_at {acc : List Int} {a : Nat} {u : Int} (h : acc[a]? = some u) : bump acc (a : Int) = acc.set a (u + 1) := by simp [bump, List.getD, h]
theorem numsOf_snoc (n : Nat) (l : PL) (q : Int × Int) : numsOf n (l ++ [q]) = bump (bump (numsOf n l) q.1) q.2 := by simp [numsOf, List.foldl_append]
theorem numsOf_length (n : Nat) (l : PL) : (numsOf n l).length = n := by
  unfold numsOf
  suffices h : ∀ (l : PL) (acc : List Int), acc.length = n → (l.foldl (fun acc q => bump (bump acc q.1) q.2) acc).length = n from h l _ (by simp)
  intro l
  induction l with
  | nil => intro acc h; exact h
  | cons q l ih => intro acc h; exact ih _ (by rw [bump_length, bump_length, h])
def Small (acc : List Int) (m : Nat) : Prop := ∀ (i : Nat) (x : Int), acc[i]? = some x → 0 ≤ x ∧ x ≤ m
theorem small_zero (n m : Nat) : Small (List.replicate n 0) m := by
  intro i x h
  rw [List.getElem?_replicate] at h
  split at h
  · simp at h; omega
  · cases h
theorem small_set {acc : List Int} {m a : Nat} {u : Int} (h : Small acc m) (ha : acc[a]? = some u) : Small (acc.set a (u + 1)) (m + 1) := by
  intro i x hx
  have hu := h a u ha
  rw [List.getElem?_set] at hx
  split at hx
  · split at hx
    · simp at hx; omega
    · cases hx
  · have := h i x hx; omega
def resNumbersOfFriends (p : Int) (l : PL) : List Int × Bool := if isP p l then (numsOf p.toNat l, true) else ([], false)
theorem resNumbersOfFriends_len (p : Int) (l : PL) : (resNumbersOfFriends p l).1.length ≤ 1048576 := by
  unfold resNumbersOfFriends
  split
  · rename_i h
    have := isP_range h
    rw [numsOf_length]
    omega
  · simp

/-- what one pair does to the row of numbers (the walk writes a store into an old block ahead of a new block) -/
theorem numbers_round {w : World} {B e g n cap a b : Nat} {acc : List Int} {u v : Int} (hown : w.ownsRow B e 1 (.slice (some ⟨g, 0, none⟩) n cap) n (icells acc)) (hu : acc[a]? = some u) (hv : acc[b]? = some v) (hab : a ≠ b) (o : Obj) :
    (w.alloc o).cell? ⟨g, a, none⟩ = some (.int .i64 u) ∧ (w.alloc o).frozen? ⟨g, a, none⟩ = false ∧
      ((w.setCell ⟨g, a, none⟩ (.int .i64 (u + 1))).alloc o).cell? ⟨g, b, none⟩ = some (.int .i64 v) ∧ ((w.setCell ⟨g, a, none⟩ (.int .i64 (u + 1))).alloc o).frozen? ⟨g, b, none⟩ = false ∧
      (((w.setCell ⟨g, a, none⟩ (.int .i64 (u + 1))).setCell ⟨g, b, none⟩ (.int .i64 (v + 1))).alloc o).ownsRow B e 1 (.slice (some ⟨g, 0, none⟩) n cap) n (icells (bump (bump acc a) b)) := by
  have h1 := hown.alloc o
  have h2 := own_setInt hown a (u + 1)
  have h2' := h2.alloc o
  have hv2 : (acc.set a (u + 1))[b]? = some v := by rw [List.getElem?_set_ne hab]; exact hv
  have h3 := own_setInt h2 b (v + 1)
  refine ⟨own_intAt h1 hu, h1.frozenAt _, own_intAt h2' hv2, h2'.frozenAt _, ?_⟩
  rw [bump_at hu, bump_at hv2]
  exact h3.alloc o

set_option maxHeartbeats 1000000 in
set_option maxRecDepth 100000 in
theorem paNumbers_any (p : Int) (l : PL) (A : Option Addr) (c : Nat) (w : World) (hp : isP p l = true) (hA : CRead w w.heap.size A (pcells l)) :
    Calls Try.prog 77 #[.agg #[.int .i64 p, .slice A l.length c]] w fun e w' => ∃ g, e = .returned (.slice (some ⟨g, 0, none⟩) p.toNat p.toNat) ∧ w'.ownsRow w.heap.size 3 1 (.slice (some ⟨g, 0, none⟩) p.toNat p.toNat) p.toNat (icells (numsOf p.toNat l)) ∧ Below w.heap.size w w' := by
  obtain ⟨i0, hi, hz0, hz1, hz2⟩ := info_parts Try.infoInt
  obtain ⟨n, rfl⟩ : ∃ n : Nat, p = n := ⟨p.toNat, by have := isP_range hp; omega⟩
  have hn := isP_range hp
  have hlen : l.length ≤ 66 := by have h1 := isP_length hp; have h2 := people_sq hn.1 hn.2; omega
  simp only [Int.toNat_natCast]
  have Hp := Lib.hid hp
  clear hp
  go_enter Try.func77, Try.ntmps77
  go_wp2_with (at_make; refine wpList_make_full _ rfl _ _ 25 rfl w.heap.size 3 i0 _ 1 Try.underlying25 hi hz0 hz1 _ _ _ _ n rfl rfl (by omega) (by omega) (by rw [hz2]; omega) (by unfold maxLen; omega) (by go_size) ?_; intro w1 hown1 hgr1; have hb1 : Below (w.heap.size + 1) (w.alloc (Obj.cells #[.int .i64 (n : Int), .slice A l.length c] 31)) w1 := below_of_gb hgr1 (by go_size); have q0 : w1.cell? ⟨w.heap.size, 0, none⟩ = some (.int .i64 n) := carry hb1 (by simp) (by omega); have q1 : w1.cell? ⟨w.heap.size, 1, none⟩ = some (.slice A l.length c) := carry hb1 (by simp) (by omega))
  rw [show Value.cells (.int .i64 0) = #[.int .i64 0] from rfl, made_ints] at hown1
  have hl1 := own_lt hown1
  have hs1 := hb1.size
  simp only [World.size_alloc] at hown1 hl1 hs1
  go_loopw [12] (fun i wr => ∃ k : Nat, k ≤ l.length ∧ i = .int .i64 k ∧ wr.ownsRow w.heap.size 3 1 (.slice (some ⟨w.heap.size + 1, 0, none⟩) n n) n (icells (numsOf n (l.take k))) ∧ Small (numsOf n (l.take k)) (2 * k) ∧ Below (w.heap.size + 1) (w.alloc (Obj.cells #[.int .i64 (n : Int), .slice A l.length c] 31)) wr) (fun i _ => l.length - (intOf i).toNat)
  case atStart => exact ⟨0, Nat.zero_le _, rfl, by simpa [numsOf] using hown1, by simpa [numsOf] using small_zero n _, hb1⟩
  case round =>
    obtain ⟨k, hk, rfl, hown, hsmall, hb⟩ := hrel
    have hs := hb.size
    simp only [World.size_alloc] at hs
    have hbw : Below w.heap.size w wr := Below.trans (b := _) (by go_grown) (hb.mono (by omega))
    have hlt0 := own_lt hown
    by_cases hlt : k < l.length
    · obtain ⟨⟨x, y⟩, hx⟩ := getSome l k hlt
      obtain ⟨h0, h1, h2⟩ := goodAt_pair (isP_good Hp.out hlt) hx
      obtain ⟨a, rfl⟩ : ∃ a : Nat, x = a := ⟨x.toNat, by omega⟩
      obtain ⟨b, rfl⟩ : ∃ b : Nat, y = b := ⟨y.toNat, by omega⟩
      obtain ⟨bb, off, rfl, hbb, c0, c1⟩ := (hA.below hbw (Nat.le_refl _)).pair hx
      obtain ⟨u, hu⟩ := getSome (numsOf n (l.take k)) a (by rw [numsOf_length]; omega)
      obtain ⟨v, hv⟩ := getSome (numsOf n (l.take k)) b (by rw [numsOf_length]; omega)
      have hu0 := hsmall _ _ hu
      have hv0 := hsmall _ _ hv
      obtain ⟨d0, d1, d2, d3, d4⟩ := numbers_round hown hu hv (by omega) (Obj.cells #[.int .i64 (a : Int), .int .i64 (b : Int)] 95)
      have hki : (k : Int) < (l.length : Int) := by omega
      have hsm : Small (bump (bump (numsOf n (l.take k)) a) b) (2 * (k + 1)) := by
        rw [bump_at hu, bump_at (by rw [List.getElem?_set_ne (by omega)]; exact hv)]
        exact small_set (small_set hsmall hu) (by rw [List.getElem?_set_ne (by omega)]; exact hv)
      have Hx := Lib.hid hx
      have Hsm := Lib.hid hsm
      have Hd4 := Lib.hid d4
      have ha : (a : Int) < n := by omega
      have hb' : (b : Int) < n := h2
      clear hx hu hv hsm d4 hsmall
      go_wp2
      go_roundw
      case rel =>
        refine ⟨k + 1, by omega, by go_num, ?_, ?_, ?_⟩
        · rw [List.take_add_one, Hx.out, Option.toList_some, numsOf_snoc]
          exact Hd4.out
        · rw [List.take_add_one, Hx.out, Option.toList_some, numsOf_snoc]
          exact Hsm.out
        · exact ((hb.setCell (p := ⟨w.heap.size + 1, a, none⟩) (by simp) _).setCell (p := ⟨w.heap.size + 1, b, none⟩) (by simp) _).alloc (by simp; omega) _
      case measure => simp [intOf]; omega
    · have hkl : k = l.length := by omega
      subst hkl
      have hge : ¬ ((l.length : Int) < l.length) := by omega
      clear hsmall
      go_wp2
      go_ret
      refine ⟨_, rfl, ?_, hbw⟩
      rwa [List.take_length] at hown

set_option maxHeartbeats 1000000 in
set_option maxRecDepth 100000 in
theorem implNumbersOfFriends_any (p : Int) (l : PL) (A : Option Addr) (c : Nat) (w : World) (hl : l.length ≤ 1048576) (hA : CRead w w.heap.size A (pcells l)) :
    Calls Try.prog 78 #[.agg #[.int .i64 p, .slice A l.length c]] w (GotIntsOk w (resNumbersOfFriends p l).1 (resNumbersOfFriends p l).2) := by
  cases hp : isP p l with
  | false =>
    have e : resNumbersOfFriends p l = ([], false) := by simp [resNumbersOfFriends, hp]
    rw [e]
    have Hp := Lib.hid hp
    clear hp e
    go_enter Try.func78, Try.ntmps78
    go_wp2_with (go_at_call 59; refine (isParty_any _ _ _ _ _ hl ((hA.below (B' := w.heap.size) (by go_grown) (Nat.le_refl _)).more (by go_size))).mono ?_; rw [Hp.out]; rintro e w2 ⟨rfl, hb2⟩; simp only [World.size_alloc] at hb2)
    go_ret2
    exact ⟨none, 0, rfl, World.ownsRow_nil _ _ _ _, Below.trans (b := _) (by go_grown) (hb2.mono (by omega))⟩
  | true =>
    have e : resNumbersOfFriends p l = (numsOf p.toNat l, true) := by simp [resNumbersOfFriends, hp]
    rw [e]
    clear e
    obtain ⟨i0, hi, hz0, hz1, hz2⟩ := info_parts Try.infoInt
    obtain ⟨n, rfl⟩ : ∃ n : Nat, p = n := ⟨p.toNat, by have := isP_range hp; omega⟩
    have hn := isP_range hp
    have hlen : l.length ≤ 66 := by have h1 := isP_length hp; have h2 := people_sq hn.1 hn.2; omega
    simp only [Int.toNat_natCast]
    have Hp := Lib.hid hp
    clear hp
    go_enter Try.func78, Try.ntmps78
    go_wp2_with fail
    refine (isParty_any _ _ _ _ _ hl ((hA.below (B' := w.heap.size) (by go_grown) (Nat.le_refl _)).more (by go_size))).mono ?_
    rw [Hp.out]
    rintro e w2 ⟨rfl, hb2⟩
    simp only [World.size_alloc] at hb2
    have a0 : w2.cell? ⟨w.heap.size, 0, none⟩ = some (.int .i64 n) := carry hb2 (by simp) (by omega)
    have a1 : w2.cell? ⟨w.heap.size, 1, none⟩ = some (.slice A l.length c) := carry hb2 (by simp) (by omega)
    have s2 := hb2.size
    simp only [World.size_alloc] at s2
    go_wp2_with (at_make; refine wpList_make_full _ rfl _ _ 25 rfl w.heap.size 3 i0 _ 1 Try.underlying25 hi hz0 hz1 _ _ _ _ n rfl rfl (by omega) (by omega) (by rw [hz2]; omega) (by unfold maxLen; omega) (by omega) ?_; intro w1 hown1 hgr1; have hb1 : Below w2.heap.size w2 w1 := below_of_gb hgr1 (Nat.le_refl _); have q0 : w1.cell? ⟨w.heap.size, 0, none⟩ = some (.int .i64 n) := carry hb1 a0 (by omega); have q1 : w1.cell? ⟨w.heap.size, 1, none⟩ = some (.slice A l.length c) := carry hb1 a1 (by omega))
    rw [show Value.cells (.int .i64 0) = #[.int .i64 0] from rfl, made_ints] at hown1
    have hl1 := own_lt hown1
    have hb1' : Below (w.heap.size + 1) (w.alloc (Obj.cells #[.int .i64 (n : Int), .slice A l.length c] 31)) w1 := hb2.trans (hb1.mono s2)
    clear hb1 hgr1 a0 a1 q0 q1
    go_loopw [16] (fun i wr => ∃ k : Nat, k ≤ l.length ∧ i = .int .i64 k ∧ wr.ownsRow w.heap.size 3 1 (.slice (some ⟨w2.heap.size, 0, none⟩) n n) n (icells (numsOf n (l.take k))) ∧ Small (numsOf n (l.take k)) (2 * k) ∧ Below (w.heap.size + 1) (w.alloc (Obj.cells #[.int .i64 (n : Int), .slice A l.length c] 31)) wr) (fun i _ => l.length - (intOf i).toNat)
    case atStart => exact ⟨0, Nat.zero_le _, rfl, by simpa [numsOf] using hown1, by simpa [numsOf] using small_zero n _, hb1'⟩
    case round =>
      clear hown1 hb1' hl1 hb2
      obtain ⟨k, hk, rfl, hown, hsmall, hb⟩ := hrel
      have hs := hb.size
      simp only [World.size_alloc] at hs
      have hbw : Below w.heap.size w wr := Below.trans (b := _) (by go_grown) (hb.mono (by omega))
      have hlt0 := own_lt hown
      by_cases hlt : k < l.length
      · obtain ⟨⟨x, y⟩, hx⟩ := getSome l k hlt
        obtain ⟨h0, h1, h2⟩ := goodAt_pair (isP_good Hp.out hlt) hx
        obtain ⟨a, rfl⟩ : ∃ a : Nat, x = a := ⟨x.toNat, by omega⟩
        obtain ⟨b, rfl⟩ : ∃ b : Nat, y = b := ⟨y.toNat, by omega⟩
        obtain ⟨bb, off, rfl, hbb, c0, c1⟩ := (hA.below hbw (Nat.le_refl _)).pair hx
        obtain ⟨u, hu⟩ := getSome (numsOf n (l.take k)) a (by rw [numsOf_length]; omega)
        obtain ⟨v, hv⟩ := getSome (numsOf n (l.take k)) b (by rw [numsOf_length]; omega)
        have hu0 := hsmall _ _ hu
        have hv0 := hsmall _ _ hv
        obtain ⟨d0, d1, d2, d3, d4⟩ := numbers_round hown hu hv (by omega) (Obj.cells #[.int .i64 (a : Int), .int .i64 (b : Int)] 95)
        have hki : (k : Int) < (l.length : Int) := by omega
        have hsm : Small (bump (bump (numsOf n (l.take k)) a) b) (2 * (k + 1)) := by
          rw [bump_at hu, bump_at (by rw [List.getElem?_set_ne (by omega)]; exact hv)]
          exact small_set (small_set hsmall hu) (by rw [List.getElem?_set_ne (by omega)]; exact hv)
        have Hx := Lib.hid hx
        have Hsm := Lib.hid hsm
        have Hd4 := Lib.hid d4
        have ha : (a : Int) < n := by omega
        have hb' : (b : Int) < n := h2
        clear hx hu hv hsm d4 hsmall
        go_wp2
        go_roundw
        case rel =>
          refine ⟨k + 1, by omega, by go_num, ?_, ?_, ?_⟩
          · rw [List.take_add_one, Hx.out, Option.toList_some, numsOf_snoc]
            exact Hd4.out
          · rw [List.take_add_one, Hx.out, Option.toList_some, numsOf_snoc]
            exact Hsm.out
          · exact ((hb.setCell (p := ⟨w2.heap.size, a, none⟩) (by simp; omega) _).setCell (p := ⟨w2.heap.size, b, none⟩) (by simp; omega) _).alloc (by simp; omega) _
        case measure => simp [intOf]; omega
      · have hkl : k = l.length := by omega
        subst hkl
        have hge : ¬ ((l.length : Int) < l.length) := by omega
        clear hsmall
        go_wp2
        go_ret2
        refine ⟨some ⟨w2.heap.size, 0, none⟩, n, by rw [numsOf_length]; rfl, ?_, hbw⟩
        rw [List.take_length] at hown
        rwa [numsOf_length]
end Go.Proofs.Ytmiecebdkadhbaa
/-
  THE MODEL's DISTANCES of all people from one, by contract.
-/
namespace Go.Proofs.Ytmiecebdkadhbaa
open Go.RowKit

theorem own_built1 (w : World) (a : Int) : (w.alloc (Obj.cells #[.int .i64 a] 3)).ownsRow w.heap.size 3 1 (.slice (some ⟨w.heap.size, 0, none⟩) 1 1) 1 (icells [a]) :=
  ⟨by simp [icells], .inr ⟨w.heap.size, 1, #[.int .i64 a], rfl, Nat.le_refl _, heap_alloc_new w _, Nat.le_refl _, by unfold maxLen; omega, rfl, by simp [icells]⟩⟩
def qcells (Q : List Nat) : List Value := icells (Q.map fun b : Nat => (b : Int))
theorem friendR_at {n j : Nat} {f : Nat → Bool} {x : Int} (h : (friendR n f)[j]? = some x) : ∃ y : Nat, x = y ∧ y < n ∧ f y = true := by
  have := List.mem_of_getElem? h
  unfold friendR at this
  obtain ⟨y, hy, rfl⟩ := List.mem_map.1 this
  obtain ⟨h1, h2⟩ := List.mem_filter.1 hy
  exact ⟨y, rfl, List.mem_range.1 h1, h2⟩
theorem friendR_all {n b : Nat} {f : Nat → Bool} (hb : b < n) (hf : f b = true) : ∃ j : Nat, (friendR n f)[j]? = some (b : Int) := by
  refine List.getElem?_of_mem ?_
  unfold friendR
  exact List.mem_map.2 ⟨b, List.mem_filter.2 ⟨List.mem_range.2 hb, hf⟩, rfl⟩
theorem index_row {gq i m c : Nat} (hi : i < m) (v : World) : (Instr.indexAt 25 (.slice (some ⟨gq, 0, none⟩) m c) (.int .i64 i)).run Try.prog v = .ok (.pointer (some ⟨gq, i, none⟩)) v := by
  have h0 : (0 : Int) ≤ i ∧ (i : Int) < m := by omega
  simp [go_sem, Try.underlying25, h0, Addr.add]
  omega
end Go.Proofs.Ytmiecebdkadhbaa
/-
  'TurnSeats': the model's, by its contract.
-/
namespace Go.Proofs.Ytmiecebdkadhbaa
open Go.RowKit

set_option maxHeartbeats 1000000 in
set_option maxRecDepth 100000 in
theorem taTurn_any (q : List Int) (i j : Nat) (A : Option Addr) (c : Nat) (w : World) (hq : q.length ≤ 12) (hij : i ≤ j) (hj : j < q.length) (hA : CRead w w.heap.size A (icells q)) :
    Calls Try.prog 70 #[.slice A q.length c, .int .i64 i, .int .i64 j] w fun e w' => ∃ g c', e = .returned (.slice (some ⟨g, 0, none⟩) (turnI q i j).length c') ∧ w'.ownsRow w.heap.size 3 1 (.slice (some ⟨g, 0, none⟩) (turnI q i j).length c') (turnI q i j).length (icells (turnI q i j)) ∧ Below w.heap.size w w' := by
  rw [turnI_length]
  have call := l1Own_all q A c w (by omega) hA (fun e => by subst e; simp at hj)
  have Call := Lib.hid call
  clear call
  go_enter Try.func70, Try.ntmps70
  go_wp2_with fail
  refine Call.out.mono ?_
  rintro e w2 ⟨A2, c2, rfl, own2, hb2⟩
  obtain ⟨g, rfl⟩ := own_form own2 (by omega)
  have hst : (icells q) = icells ((List.range q.length).map (turnU q i j i)) := by rw [turnU_start]
  rw [hst] at own2
  have Own2 := Lib.hid own2
  have Hb2 := Lib.hid hb2
  clear own2 hb2 hst Call
  go_wp2
  go_loopw [8] (fun kv wr => ∃ k : Nat, i ≤ k ∧ k ≤ j + 1 ∧ kv = .int .i64 k ∧ wr.ownsRow w.heap.size 3 1 (.slice (some ⟨g, 0, none⟩) q.length c2) q.length (icells ((List.range q.length).map (turnU q i j k))) ∧ Below w.heap.size w wr) (fun kv _ => j + 1 - (intOf kv).toNat)
  case atStart => exact ⟨i, Nat.le_refl _, by omega, rfl, Own2.out, Hb2.out⟩
  case round =>
    obtain ⟨k, hik, hk, rfl, own, hb⟩ := hrel
    by_cases hlt : k ≤ j
    · have hki : (k : Int) ≤ (j : Int) := by omega
      have rd := hA.below hb (Nat.le_refl _)
      obtain ⟨bb, off, rfl, hbb, c0⟩ := rd.int (getD_at (s := q) (i := i + j - k) (by omega))
      have ei : (i : Int) + (j : Int) - (k : Int) = ((i + j - k : Nat) : Int) := by omega
      have f0 := own.frozenAt k
      obtain ⟨u, hu⟩ := getSome ((List.range q.length).map (turnU q i j k)) k (by simp; omega)
      have d0 := own_intAt own hu
      have own2 := own_setInt own k (q.getD (i + j - k) 0)
      rw [range_set, turnU_next q hik] at own2
      obtain ⟨m, hm⟩ : ∃ m, i + j - k = m := ⟨_, rfl⟩
      rw [hm] at ei own2 c0
      have hmq : (m : Int) < (q.length : Int) := by omega
      have hkq : (k : Int) < (q.length : Int) := by omega
      obtain ⟨v, hv⟩ : ∃ v, q.getD m 0 = v := ⟨_, rfl⟩
      rw [hv] at own2 c0
      have gB := (own_lt own).1
      have Own2 := Lib.hid own2
      have Hb2 := Lib.hid (hb.setCell (p := ⟨g, k, none⟩) gB (.int .i64 v))
      clear own own2 hu hm hv rd hb
      go_wp2
      go_roundw
      case rel => exact ⟨k + 1, by omega, by omega, by go_num, Own2.out, Hb2.out⟩
      case measure => simp [intOf]; omega
    · have e : k = j + 1 := by omega
      subst e
      have hge : ¬ ((((j + 1 : Nat) : Int)) ≤ (j : Int)) := by omega
      have own3 : wr.ownsRow w.heap.size 3 1 (.slice (some ⟨g, 0, none⟩) q.length c2) q.length (icells (turnI q i j)) := own
      have Own3 := Lib.hid own3
      clear own own3
      go_wp2
      go_ret
      exact ⟨g, c2, rfl, Own3.out, hb⟩
set_option maxHeartbeats 2000000 in
set_option maxRecDepth 100000 in
theorem specTurnSeats_any (q : List Int) (A : Option Addr) (c : Nat) (i j : Int) (w : World) (hl : q.length ≤ 1048576) (hA : CRead w w.heap.size A (icells q)) (hd : q.length ≤ c) :
    Calls Try.prog 26 #[.slice A q.length c, .int .i64 i, .int .i64 j] w (GotIntsOk w (resTurnSeats q i j).1 (resTurnSeats q i j).2) := by
  obtain ⟨⟨rv, rok⟩, hres⟩ : ∃ x, resTurnSeats q i j = x := ⟨_, rfl⟩
  rw [hres]
  have hno : turnsI q i j = false → rv = [] ∧ rok = false := fun h => by
    unfold resTurnSeats at hres
    rw [h] at hres
    exact ⟨(Prod.mk.injEq .. ▸ hres).1.symm, (Prod.mk.injEq .. ▸ hres).2.symm⟩
  have hyes : turnsI q i j = true → rv = turnI q i.toNat j.toNat ∧ rok = true := fun h => by
    unfold resTurnSeats at hres
    rw [h] at hres
    exact ⟨(Prod.mk.injEq .. ▸ hres).1.symm, (Prod.mk.injEq .. ▸ hres).2.symm⟩
  by_cases h12 : 12 < q.length
  · have hf : turnsI q i j = false := by
      cases e : turnsI q i j with
      | false => rfl
      | true => have := (turnsI_parts e).2.1; omega
    obtain ⟨rfl, rfl⟩ := hno hf
    have h12i : (12 : Int) < (q.length : Int) := by omega
    clear hno hyes hres
    go_enter Try.func26, Try.ntmps26
    go_wp2
    go_ret2
    exact ⟨none, 0, rfl, World.ownsRow_nil _ _ _ _, Below.refl _ _⟩
  · have h12i : ¬ ((12 : Int) < (q.length : Int)) := by omega
    cases hall : l1AllB q 0 11 with
    | false =>
      have hf : turnsI q i j = false := by
        cases e : turnsI q i j with
        | false => rfl
        | true =>
          have := (turnsI_parts e).1
          simp only [diffI, Bool.and_eq_true, decide_eq_true_eq, List.all_eq_true] at this
          unfold l1AllB at hall
          rw [List.all_eq_false] at hall
          obtain ⟨x, hx, hx2⟩ := hall
          have := this.1 x hx
          simp at hx2
          omega
      obtain ⟨rfl, rfl⟩ := hno hf
      have Hall := Lib.hid hall
      clear hno hyes hres hall
      go_enter Try.func26, Try.ntmps26
      go_wp2_with fail
      refine (l1All_any q A c 0 11 _ hl hA).mono ?_
      rw [Hall.out]
      rintro e w2 ⟨rfl, rfl⟩
      go_wp2
      go_ret2
      exact ⟨none, 0, rfl, World.ownsRow_nil _ _ _ _, Below.refl _ _⟩
    | true =>
      have Hall := Lib.hid hall
      have hin : ∀ x ∈ q, 0 ≤ x ∧ x < 12 := fun x hx => by
        unfold l1AllB at hall
        have := List.all_eq_true.1 hall x hx
        simp at this
        omega
      have Hin := Lib.hid hin
      clear hall hin
      cases hi : l1InB i 0 ((q.length : Int) - 1) with
      | false =>
        have hf : turnsI q i j = false := by
          cases e : turnsI q i j with
          | false => rfl
          | true =>
            have := turnsI_parts e
            unfold l1InB at hi
            have := of_decide_eq_false hi
            omega
        obtain ⟨rfl, rfl⟩ := hno hf
        have Hi := Lib.hid hi
        clear hno hyes hres hi
        go_enter Try.func26, Try.ntmps26
        go_wp2_with fail
        refine (l1All_any q A c 0 11 _ hl hA).mono ?_
        rw [Hall.out]
        rintro e w2 ⟨rfl, rfl⟩
        go_wp2_with fail
        refine (l1In_any i 0 ((q.length : Int) - 1) _).mono ?_
        rw [Hi.out]
        rintro e w2 ⟨rfl, rfl⟩
        go_wp2
        go_ret2
        exact ⟨none, 0, rfl, World.ownsRow_nil _ _ _ _, Below.refl _ _⟩
      | true =>
        have hi2 : 0 ≤ i ∧ i ≤ (q.length : Int) - 1 := by unfold l1InB at hi; exact of_decide_eq_true hi
        have Hi := Lib.hid hi
        clear hi
        cases hj : l1InB j i ((q.length : Int) - 1) with
        | false =>
          have hf : turnsI q i j = false := by
            cases e : turnsI q i j with
            | false => rfl
            | true =>
              have := turnsI_parts e
              unfold l1InB at hj
              have := of_decide_eq_false hj
              omega
          obtain ⟨rfl, rfl⟩ := hno hf
          have Hj := Lib.hid hj
          clear hno hyes hres hj
          go_enter Try.func26, Try.ntmps26
          go_wp2_with fail
          refine (l1All_any q A c 0 11 _ hl hA).mono ?_
          rw [Hall.out]
          rintro e w2 ⟨rfl, rfl⟩
          go_wp2_with fail
          refine (l1In_any i 0 ((q.length : Int) - 1) _).mono ?_
          rw [Hi.out]
          rintro e w2 ⟨rfl, rfl⟩
          go_wp2_with fail
          refine (l1In_any j i ((q.length : Int) - 1) _).mono ?_
          rw [Hj.out]
          rintro e w2 ⟨rfl, rfl⟩
          go_wp2
          go_ret2
          exact ⟨none, 0, rfl, World.ownsRow_nil _ _ _ _, Below.refl _ _⟩
        | true =>
          have hj2 : i ≤ j ∧ j ≤ (q.length : Int) - 1 := by unfold l1InB at hj; exact of_decide_eq_true hj
          have Hj := Lib.hid hj
          have Hno := Lib.hid hno
          have Hyes := Lib.hid hyes
          have Hres := Lib.hid hres
          clear hj hno hyes hres
          go_enter Try.func26, Try.ntmps26
          go_wp2_with fail
          refine (l1All_any q A c 0 11 _ hl hA).mono ?_
          rw [Hall.out]
          rintro e w2 ⟨rfl, rfl⟩
          go_wp2_with fail
          refine (l1In_any i 0 ((q.length : Int) - 1) _).mono ?_
          rw [Hi.out]
          rintro e w2 ⟨rfl, rfl⟩
          go_wp2_with fail
          refine (l1In_any j i ((q.length : Int) - 1) _).mono ?_
          rw [Hj.out]
          rintro e w2 ⟨rfl, rfl⟩
          go_wp2
          go_loop [37] (fun kv => ∃ k : Nat, k ≤ q.length ∧ kv = .int .i64 k ∧ ∀ (m : Nat) (x : Int), m < k → q[m]? = some x → x ∉ q.take m) (fun kv => q.length - (intOf kv).toNat)
          case atStart => exact ⟨0, Nat.zero_le _, rfl, fun j x hj => by omega⟩
          case round =>
            obtain ⟨k, hk, rfl, hg⟩ := hrel
            have Hg := Lib.hid hg
            clear hg
            by_cases hlt : k < q.length
            · obtain ⟨x, hx⟩ := getSome q k hlt
              obtain ⟨b, off, rfl, hbb, u0⟩ := hA.int hx
              have hki : (k : Int) < (q.length : Int) := by omega
              have hkd : (k : Int) ≤ (c : Int) := by omega
              have hkd2 : k ≤ c := by omega
              have hlk : (q.take k).length = k := by rw [List.length_take]; omega
              have call := l1Has_any (q.take k) x (some ⟨b, off, none⟩) c w (by omega) (hA.front k)
              rw [hlk] at call
              have Call := Lib.hid call
              have Hx := Lib.hid hx
              clear hx call hlk
              cases hh : hasI (q.take k) x with
              | true =>
                have hf : turnsI q i j = false := by
                  unfold turnsI
                  rw [diffI_dup Hx.out (hasI_mem.1 hh)]
                  rfl
                obtain ⟨rfl, rfl⟩ := Hno.out hf
                have Hh := Lib.hid hh
                clear hh hf
                go_wp2_with fail
                refine Call.out.mono ?_
                rw [Hh.out]
                rintro e w5 ⟨rfl, rfl⟩
                go_wp2
                go_ret2
                exact ⟨none, 0, rfl, World.ownsRow_nil _ _ _ _, Below.refl _ _⟩
              | false =>
                have Hnm := Lib.hid (show x ∉ q.take k from fun hm => by rw [hasI_mem.2 hm] at hh; cases hh)
                have Hh := Lib.hid hh
                clear hh
                go_wp2_with fail
                refine Call.out.mono ?_
                rw [Hh.out]
                rintro e w5 ⟨rfl, rfl⟩
                go_wp2
                go_round
                case rel => exact ⟨k + 1, by omega, by go_num, fun j y hj hy => by
                              by_cases e : j = k
                              · subst e
                                rw [Hx.out] at hy
                                rw [← Option.some.inj hy]
                                exact Hnm.out
                              · exact Hg.out j y (by omega) hy⟩
                case measure => simp [intOf]; omega
            · have hkl : k = q.length := by omega
              have hge : ¬ ((k : Int) < (q.length : Int)) := by omega
              obtain ⟨i', rfl⟩ : ∃ i' : Nat, i = i' := ⟨i.toNat, by omega⟩
              obtain ⟨j', rfl⟩ : ∃ j' : Nat, j = j' := ⟨j.toNat, by omega⟩
              have ht : turnsI q i' j' = true := by
                unfold turnsI
                rw [diffI_of fun m x hm hx => ⟨Hin.out x (List.mem_of_getElem? hx), Hg.out m x (by omega) hx⟩]
                simp
                omega
              obtain ⟨hrv, rfl⟩ := Hyes.out ht
              simp only [Int.toNat_natCast] at hrv
              have call := taTurn_any q i' j' A c w (by omega) (by omega) (by omega) hA
              rw [← hrv] at call
              have Call := Lib.hid call
              clear call hrv ht
              go_wp2_with fail
              refine Call.out.mono ?_
              rintro e w3 ⟨g, c3, rfl, own3, hb3⟩
              have Own3 := Lib.hid own3
              clear own3
              go_wp2
              go_ret2
              exact ⟨_, c3, rfl, Own3.out, hb3⟩
end Go.Proofs.Ytmiecebdkadhbaa
/-
  'laws.FnExactTurnSeats' returns true, whatever its arguments: out of the contracts of the model's function and of the program's.
-/
namespace Go.Proofs.Ytmiecebdkadhbaa
open Go.RowKit

set_option maxHeartbeats 4000000 in
set_option maxRecDepth 100000 in
theorem lawTurnSeats_any (q0 : List Int) (A0 : Option Addr) (c0 : Nat) (i1 : Int) (i2 : Int) (W : World) (hl0 : q0.length ≤ maxLen) (hA0 : CRead W W.heap.size A0 (icells q0)) :
    Calls Try.prog 6 #[.slice A0 q0.length c0, .int .i64 i1, .int .i64 i2] W fun e w' => e = .returned (.bool true) ∧ Below W.heap.size W w' := by
  have hone : (0 : Int) ≤ 1 ∧ (1 : Int) ≤ 16777216 := by omega
  by_cases hq0 : (1048576 : Int) < (q0.length : Int)
  · unfold maxLen at *
    go_enter Try.func6, Try.ntmps6
    go_wp2
    go_ret
    exact ⟨rfl, by go_grown⟩
  have hn0 : q0.length ≤ 1048576 := by omega
  obtain ⟨⟨rm, rok⟩, hres⟩ : ∃ r, resTurnSeats q0 i1 i2 = r := ⟨_, rfl⟩
  have hrn : rm.length ≤ 1048576 := by have h := resTurnSeats_len q0 i1 i2; rw [hres] at h; exact h
  have hrl : rm.length ≤ maxLen := by unfold maxLen; omega
  have Hres := Lib.hid hres
  clear hres
  go_enter Try.func6, Try.ntmps6
  go_wp2_with fail
  refine (toIntS_got q0 A0 c0 _ hn0 hA0).mono ?_
  rintro e w1 ⟨T1, d1, rfl, n1, hb1⟩
  have g1 : Below W.heap.size W w1 := hb1
  have s1 := hb1.size
  have k1 : Below W.heap.size W w1 := g1
  have r1 : Lies (.slice T1 q0.length d1) (W.heap.size) w1.heap.size := own_lies n1
  go_wp2_with fail
  refine (specTurnSeats_any q0 _ _ i1 i2 _ hn0 (CRead.of_own n1) (own_cap n1)).mono ?_
  rw [Hres.out]
  rintro e w2 ⟨T2, d2, rfl, n2, hb2⟩
  have g2 : Below w1.heap.size w1 w2 := hb2
  have s2 := hb2.size
  have o2_0 := own_below n1 g2 (Nat.le_refl _)
  have k2 := k1.trans (g2.mono k1.size)
  clear n1
  have r2 : Lies (.slice T2 rm.length d2) (w1.heap.size) w2.heap.size := own_lies n2
  clear o2_0 r1
  go_wp2_with fail
  refine (toIntS_got q0 A0 c0 _ hn0 ((hA0.below k2 (Nat.le_refl _)).more k2.size)).mono ?_
  rintro e w3 ⟨T3, d3, rfl, n3, hb3⟩
  have g3 : Below w2.heap.size w2 w3 := hb3
  have s3 := hb3.size
  have o3_0 := own_below n2 g3 (Nat.le_refl _)
  have k3 := k2.trans (g3.mono k2.size)
  clear n2
  have r3 : Lies (.slice T3 q0.length d3) (w2.heap.size) w3.heap.size := own_lies n3
  go_wp2_with fail
  refine (implTurnSeats_any q0 _ _ i1 i2 _ hn0 (CRead.of_own n3) (own_cap n3)).mono ?_
  rw [Hres.out]
  rintro e w4 ⟨T4, d4, rfl, n4, hb4⟩
  have g4 : Below w3.heap.size w3 w4 := hb4
  have s4 := hb4.size
  have o4_0 := own_below o3_0 g4 (Nat.le_refl _)
  have o4_1 := own_below n3 g4 (Nat.le_refl _)
  have k4 := k3.trans (g4.mono k3.size)
  clear o3_0 n3
  have r4 : Lies (.slice T4 rm.length d4) (w3.heap.size) w4.heap.size := own_lies n4
  go_wp2_with fail
  refine (eqIntS_any rm rm _ _ _ _ _ hrl hrl (CRead.of_own n4) (CRead.of_own o4_0)).mono ?_
  rw [decide_eq_true rfl]
  rintro e w5 ⟨rfl, hb5⟩
  have g5 : Below w4.heap.size w4 w5 := hb5
  have s5 := hb5.size
  have o5_0 := own_below o4_0 g5 (Nat.le_refl _)
  have o5_1 := own_below o4_1 g5 (Nat.le_refl _)
  have o5_2 := own_below n4 g5 (Nat.le_refl _)
  have k5 := k4.trans (g5.mono k4.size)
  clear o4_0 o4_1 n4
  go_wp2_with fail
  refine (toIntS_got q0 A0 c0 _ hn0 ((hA0.below k5 (Nat.le_refl _)).more k5.size)).mono ?_
  rintro e w6 ⟨T6, d6, rfl, n6, hb6⟩
  have g6 : Below w5.heap.size w5 w6 := hb6
  have s6 := hb6.size
  have o6_0 := own_below o5_0 g6 (Nat.le_refl _)
  have o6_1 := own_below o5_1 g6 (Nat.le_refl _)
  have o6_2 := own_below o5_2 g6 (Nat.le_refl _)
  have k6 := k5.trans (g6.mono k5.size)
  clear o5_0 o5_1 o5_2
  have r6 : Lies (.slice T6 q0.length d6) (w5.heap.size) w6.heap.size := own_lies n6
  go_wp2_with fail
  refine (eqIntS_any q0 q0 _ _ _ _ _ hl0 hl0 (CRead.of_own o6_1) (CRead.of_own n6)).mono ?_
  rw [decide_eq_true rfl]
  rintro e w7 ⟨rfl, hb7⟩
  have g7 : Below w6.heap.size w6 w7 := hb7
  have s7 := hb7.size
  have o7_0 := own_below o6_0 g7 (Nat.le_refl _)
  have o7_1 := own_below o6_1 g7 (Nat.le_refl _)
  have o7_2 := own_below o6_2 g7 (Nat.le_refl _)
  have o7_3 := own_below n6 g7 (Nat.le_refl _)
  have k7 := k6.trans (g7.mono k6.size)
  clear o6_0 o6_1 o6_2 n6
  clear o7_3 r6
  go_wp2_with fail
  refine (markIntS_any q0 _ _ _ (1) _ _ rfl hn0 (by omega) o7_1).mono ?_
  rintro e w8 ⟨rfl, n8, hg8⟩
  have s8 := hg8.size
  have o8_0 := keptG hg8 r3 o7_0 r2 (by omega)
  have o8_2 := keptG hg8 r3 o7_2 r4 (by omega)
  have k8 := belowG k7 hg8 r3 k7.size (by omega)
  clear o7_0 o7_1 o7_2
  have hmk : ¬ (1 + (q0.length : Int) < 0) := by omega
  go_wp2_with fail
  refine (eqIntS_any rm rm _ _ _ _ _ hrl hrl (CRead.of_own o8_2) (CRead.of_own o8_0)).mono ?_
  rw [decide_eq_true rfl]
  rintro e w9 ⟨rfl, hb9⟩
  have g9 : Below w8.heap.size w8 w9 := hb9
  have s9 := hb9.size
  have o9_0 := own_below o8_0 g9 (Nat.le_refl _)
  have o9_1 := own_below n8 g9 (Nat.le_refl _)
  have o9_2 := own_below o8_2 g9 (Nat.le_refl _)
  have k9 := k8.trans (g9.mono k8.size)
  clear o8_0 n8 o8_2
  clear o9_1 r3
  go_wp2_with fail
  refine (markIntS_any rm _ _ _ 1 _ _ rfl hrn hone o9_2).mono ?_
  rintro e w10 ⟨rfl, n10, hg10⟩
  have s10 := hg10.size
  have o10_0 := keptG hg10 r4 o9_0 r2 (by omega)
  have k10 := belowG k9 hg10 r4 k9.size (by omega)
  clear o9_0 o9_2
  have hmr : ¬ (1 + (rm.length : Int) < 0) := by omega
  go_wp2_with fail
  refine (heldIntS_any _ _ _ 1 _ hrn hone (CRead.of_own n10)).mono ?_
  rintro e w11 ⟨rfl, h11⟩
  subst h11
  go_wp2_with fail
  refine (toIntS_got q0 A0 c0 _ hn0 ((hA0.below k10 (Nat.le_refl _)).more k10.size)).mono ?_
  rintro e w12 ⟨T12, d12, rfl, n12, hb12⟩
  have g12 : Below w10.heap.size w10 w12 := hb12
  have s12 := hb12.size
  have o12_0 := own_below o10_0 g12 (Nat.le_refl _)
  have o12_1 := own_below n10 g12 (Nat.le_refl _)
  have k12 := k10.trans (g12.mono k10.size)
  clear o10_0 n10
  have r12 : Lies (.slice T12 q0.length d12) (w10.heap.size) w12.heap.size := own_lies n12
  go_wp2_with fail
  refine (implTurnSeats_any q0 _ _ i1 i2 _ hn0 (CRead.of_own n12) (own_cap n12)).mono ?_
  rw [Hres.out]
  rintro e w13 ⟨T13, d13, rfl, n13, hb13⟩
  have g13 : Below w12.heap.size w12 w13 := hb13
  have s13 := hb13.size
  have o13_0 := own_below o12_0 g13 (Nat.le_refl _)
  have o13_1 := own_below o12_1 g13 (Nat.le_refl _)
  have o13_2 := own_below n12 g13 (Nat.le_refl _)
  have k13 := k12.trans (g13.mono k12.size)
  clear o12_0 o12_1 n12
  have r13 : Lies (.slice T13 rm.length d13) (w12.heap.size) w13.heap.size := own_lies n13
  clear o13_2 r12
  go_wp2_with fail
  refine (eqIntS_any rm rm _ _ _ _ _ hrl hrl (CRead.of_own n13) (CRead.of_own o13_0)).mono ?_
  rw [decide_eq_true rfl]
  rintro e w14 ⟨rfl, hb14⟩
  have g14 : Below w13.heap.size w13 w14 := hb14
  have s14 := hb14.size
  have o14_0 := own_below o13_0 g14 (Nat.le_refl _)
  have o14_1 := own_below o13_1 g14 (Nat.le_refl _)
  have o14_2 := own_below n13 g14 (Nat.le_refl _)
  have k14 := k13.trans (g14.mono k13.size)
  clear o13_0 o13_1 n13
  go_wp2_with fail
  refine (heldIntS_any _ _ _ 1 _ hrn hone (CRead.of_own o14_1)).mono ?_
  rintro e w15 ⟨rfl, h15⟩
  subst h15
  go_wp2
  go_ret
  exact ⟨rfl, k14⟩
end Go.Proofs.Ytmiecebdkadhbaa
/-
  THE PROGRAM's HEAD, LOOKED AT ONCE: which make it is, and that a call may enter it. (The head's text is long: the kernel must not read it twice.)
-/
namespace Go.Proofs.Ytmiecebdkadhbaa

theorem make_of {P : Program} {rest : List (List Char)} (h : behindMainWord (wordsSigns P.initOrder.toList) = "cut".toList :: rest) : P.make = some .cut := by
  unfold Program.make
  rw [h]
  rfl
theorem strip_cut (rest : List (List Char)) : stripLifts liftWords ("cut".toList :: rest) = ([], "cut".toList :: rest) := rfl
theorem lifts_of {P : Program} {rest : List (List Char)} (h : behindMainWord (wordsSigns P.initOrder.toList) = "cut".toList :: rest) : P.headLifts = [] := by
  unfold Program.headLifts
  rw [h, strip_cut]
  rfl
theorem final_of {P : Program} {rest : List (List Char)} (h : behindMainWord (wordsSigns P.initOrder.toList) = "cut".toList :: rest) : P.liftsFinal = false := by
  unfold Program.liftsFinal
  rw [lifts_of h, h]
  rfl
theorem enter_of {P : Program} {rest : List (List Char)} (h : behindMainWord (wordsSigns P.initOrder.toList) = "cut".toList :: rest) (h1 : P.laysLater = false) (h2 : P.bearsReflect = false) (h3 : P.doorFits [] = true) : P.mayEnter = true := by
  unfold Program.mayEnter
  rw [h]
  show (_ || _ || _) = true
  rw [strip_cut, h1, h2, h3]
  rfl
end Go.Proofs.Ytmiecebdkadhbaa
/-
  THE PROGRAM's CLOSED FACTS, EACH ONCE; and how a row's facts are put together out of them.
-/
namespace Go.Proofs.Ytmiecebdkadhbaa
open Go.ChangeShapes Go.WideShapes Go.ChangeAt Go.RowKit

def headSigns : List Char := ([104, 97, 114, 110, 101, 115, 115, 32, 54, 102, 102, 55, 50, 102, 50, 99, 54, 54, 57, 57, 102, 97, 54, 54, 50, 101, 49, 54, 99, 49, 55, 56, 57, 98, 53, 98, 48, 50, 97, 51, 55, 97, 49, 54, 102, 57, 56, 99, 54, 99, 54, 98, 100, 57, 102, 52, 53, 56, 51, 50, 48, 53, 51, 57, 101, 101, 97, 56, 102, 50, 100, 56, 32, 99, 117, 116, 32, 97, 116, 32, 108, 111, 111, 112, 46, 101, 120, 97, 109, 112, 108, 101, 47, 103, 48, 49, 50, 53, 55, 47, 108, 97, 119, 115, 46, 70, 110, 69, 120, 97, 99, 116, 73, 115, 83, 101, 97, 116, 105, 110, 103, 32, 108, 111, 111, 112, 46, 101, 120, 97, 109, 112, 108, 101, 47, 103, 48, 49, 50, 53, 55, 47, 108, 97, 119, 115, 46, 70, 110, 69, 120, 97, 99, 116, 73, 115, 82, 111, 119, 32, 108, 111, 111, 112, 46, 101, 120, 97, 109, 112, 108, 101, 47, 103, 48, 49, 50, 53, 55, 47, 108, 97, 119, 115, 46, 70, 110, 69, 120, 97, 99, 116, 83, 116, 114, 97, 110, 103, 101, 114, 115, 66, 101, 115, 105, 100, 101, 32, 108, 111, 111, 112, 46, 101, 120, 97, 109, 112, 108, 101, 47, 103, 48, 49, 50, 53, 55, 47, 108, 97, 119, 115, 46, 70, 110, 69, 120, 97, 99, 116, 84, 117, 114, 110, 83, 101, 97, 116, 115, 32, 108, 111, 111, 112, 46, 101, 120, 97, 109, 112, 108, 101, 47, 103, 48, 49, 50, 53, 55, 47, 108, 97, 119, 115, 46, 70, 110, 69, 120, 97, 99, 116, 77, 101, 110, 100, 83, 101, 97, 116, 115, 32, 108, 111, 111, 112, 46, 101, 120, 97, 109, 112, 108, 101, 47, 103, 48, 49, 50, 53, 55, 47, 108, 97, 119, 115, 46, 70, 110, 69, 120, 97, 99, 116, 77, 101, 110, 100, 65, 108, 108, 32, 108, 111, 111, 112, 46, 101, 120, 97, 109, 112, 108, 101, 47, 103, 48, 49, 50, 53, 55, 47, 108, 97, 119, 115, 46, 70, 110, 69, 120, 97, 99, 116, 69, 110, 111, 117, 103, 104, 70, 114, 105, 101, 110, 100, 115, 32, 108, 111, 111, 112, 46, 101, 120, 97, 109, 112, 108, 101, 47, 103, 48, 49, 50, 53, 55, 47, 108, 97, 119, 115, 46, 70, 110, 69, 120, 97, 99, 116, 69, 110, 111, 117, 103, 104, 84, 111, 103, 101, 116, 104, 101, 114, 32, 108, 111, 111, 112, 46, 101, 120, 97, 109, 112, 108, 101, 47, 103, 48, 49, 50, 53, 55, 47, 108, 97, 119, 115, 46, 70, 110, 69, 120, 97, 99, 116, 70, 105, 114, 115, 116, 80, 97, 105, 114, 105, 110, 103, 32, 108, 111, 111, 112, 46, 101, 120, 97, 109, 112, 108, 101, 47, 103, 48, 49, 50, 53, 55, 47, 108, 97, 119, 115, 46, 70, 110, 69, 120, 97, 99, 116, 67, 111, 117, 110, 116, 80, 97, 105, 114, 105, 110, 103, 115, 32, 108, 111, 111, 112, 46, 101, 120, 97, 109, 112, 108, 101, 47, 103, 48, 49, 50, 53, 55, 47, 108, 97, 119, 115, 46, 70, 110, 69, 120, 97, 99, 116, 77, 111, 115, 116, 73, 110, 80, 97, 105, 114, 115, 32, 108, 111, 111, 112, 46, 101, 120, 97, 109, 112, 108, 101, 47, 103, 48, 49, 50, 53, 55, 47, 108, 97, 119, 115, 46, 70, 110, 69, 120, 97, 99, 116, 80, 97, 114, 116, 115, 79, 102, 80, 97, 114, 116, 121] : List Nat).map Char.ofNat
set_option maxRecDepth 100000 in
theorem Try.initOrder_is : Try.prog.initOrder = String.ofList headSigns := by kernel_rfl
theorem Try.initOrder_signs : Try.prog.initOrder.toList = headSigns := by rw [Try.initOrder_is]; exact String.toList_ofList
set_option maxRecDepth 100000 in
theorem head_words : (behindMainWord (wordsSigns headSigns)).take 1 = ["cut".toList] := by kernel_rfl
theorem Try.words : ∃ rest, behindMainWord (wordsSigns Try.prog.initOrder.toList) = "cut".toList :: rest := by
  rw [Try.initOrder_signs]
  have h := List.take_append_drop 1 (behindMainWord (wordsSigns headSigns))
  rw [head_words] at h
  exact ⟨_, h.symm⟩
theorem Try.make : Try.prog.make = some .cut := by obtain ⟨_, h⟩ := Try.words; exact make_of h
theorem Try.liftsFinal : Try.prog.liftsFinal = false := by obtain ⟨_, h⟩ := Try.words; exact final_of h
theorem Try.laysLater : Try.prog.laysLater = false := by kernel_rfl
theorem Try.bearsReflect : Try.prog.bearsReflect = false := by kernel_rfl
theorem Try.doorFits : Try.prog.doorFits [] = true := by kernel_rfl
theorem Try.mayEnter : Try.prog.mayEnter = true := by obtain ⟨_, h⟩ := Try.words; exact enter_of h Try.laysLater Try.bearsReflect Try.doorFits
theorem Try.mapsRowed : mapsRowed Try.prog = true := by kernel_rfl
theorem Try.stops : (Try.prog.stops == []) = true := by kernel_rfl
theorem Try.stopKnobs : (Try.prog.stopKnobs == []) = true := by kernel_rfl
theorem Try.plainKeys : Try.prog.plainKeys = true := by kernel_rfl
theorem Try.stopsHeard : Try.prog.stopsHeard = true := by kernel_rfl

/-- What the types of one law give: closed facts on its parameters and its result. -/
def typeFacts (P : Program) (fn : Func) (s : ChangeSpec) (c : OpenClaim) : Bool :=
  fn.params.all (P.readableRec ·) && namedTie P c.named s.vars && (c.stops == []) && (c.knobs == []) &&
  (c.maps == (fn.params.toList ++ s.plain.varTypes P).any (P.mapsRec ·)) && (c.ifaces == (fn.params.toList ++ s.plain.varTypes P).any (P.ifacesRec ·)) && (c.mapsOut == P.mapsAmong fn.resultTypes.toList) &&
  (c.loops == (fn.params.toList ++ s.plain.varTypes P).any (P.loopsFrom ·)) && (c.wideKeys == (fn.params.toList ++ s.plain.varTypes P ++ fn.resultTypes.toList).any (P.wideKeysFrom ·)) &&
  s.vars.all (P.varReadable ·) && fn.resultTypes.all (fun t => P.readableRec t && decide (t < P.types.size)) && (c.ifacesOut == fn.resultTypes.toList.any (P.ifacesRec ·)) && (c.loopsOut == fn.resultTypes.toList.any (P.loopsFrom ·)) && c.shortTexts.isNone &&
  (c.kinds == (if c.domain.isEmpty then [] else fn.params.toList.map fun t => match P.underlying t with | some (.int k) => some k | _ => none)) && (c.pinned == c.pinnedBy) &&
  (c.veiled == (fn.params.toList ++ s.plain.varTypes P ++ fn.resultTypes.toList).any (P.veiledRec ·)) && c.veiledFits P fn.params.toList (fn.params.toList ++ s.plain.varTypes P ++ fn.resultTypes.toList)
theorem joined_all {P : Program} {f : FuncId} {fn : Func} {s : ChangeSpec} {c : OpenClaim} (k1 : c.wf (OpenSpec.ofChange s) = true) (kt : typeFacts P fn s c = true)
    (k10 : (c.inPlace == P.inPlace f) = true) (k11 : (c.unfollowed == P.unfollowed f) = true) (k12 : (c.recurses == P.recurses f) = true) (k13 : (c.named == P.varsNamed f) = true)
    (e2 : laidOutB P = true) (e3 : mapsRowed P = true) (e7 : (P.stops == []) = true) (e9 : (P.stopKnobs == []) = true) (e22 : (c.plainKeys == P.plainKeys) = true) (e23 : P.stopsHeard = true) (e24 : P.mayEnter = true)
    (e24b : (c.lifted == P.liftsFinal) = true) (e24c : (P.make == some c.make) = true) : joinedFacts P f fn s c = true := by
  unfold typeFacts at kt
  unfold joinedFacts
  simp only [Bool.and_eq_true] at kt ⊢
  obtain ⟨⟨⟨⟨⟨⟨⟨⟨⟨⟨⟨⟨⟨⟨⟨⟨⟨t1, t2⟩, t3⟩, t4⟩, t5⟩, t6⟩, t7⟩, t8⟩, t9⟩, t10⟩, t11⟩, t12⟩, t13⟩, t14⟩, t15⟩, t16⟩, t17⟩, t18⟩ := kt
  exact ⟨⟨⟨⟨⟨⟨⟨⟨⟨⟨⟨⟨⟨⟨⟨⟨⟨⟨⟨⟨⟨⟨⟨⟨⟨⟨⟨⟨⟨⟨⟨k1, e2⟩, e3⟩, t1⟩, t2⟩, t3⟩, e7⟩, t4⟩, e9⟩, k10⟩, k11⟩, k12⟩, k13⟩, t5⟩, t6⟩, t7⟩, t8⟩, t9⟩, t10⟩, t11⟩, t12⟩, t13⟩, e22⟩, t14⟩, e23⟩, e24⟩, e24b⟩, e24c⟩, t15⟩, t16⟩, t17⟩, t18⟩
theorem joined_of {f : FuncId} {fn : Func} {s : ChangeSpec} {c : OpenClaim} (k1 : c.wf (OpenSpec.ofChange s) = true) (kt : typeFacts Try.prog fn s c = true)
    (k10 : (c.inPlace == Try.prog.inPlace f) = true) (k11 : (c.unfollowed == Try.prog.unfollowed f) = true) (k12 : (c.recurses == Try.prog.recurses f) = true) (k13 : (c.named == Try.prog.varsNamed f) = true)
    (k22 : c.plainKeys = true) (k24b : c.lifted = false) (k24c : c.make = .cut) : joinedFacts Try.prog f fn s c = true :=
  joined_all k1 kt k10 k11 k12 k13 Try.laidOut Try.mapsRowed Try.stops Try.stopKnobs (by rw [k22, Try.plainKeys]; rfl) Try.stopsHeard Try.mayEnter (by rw [k24b, Try.liftsFinal]; rfl) (by rw [k24c, Try.make]; rfl)
end Go.Proofs.Ytmiecebdkadhbaa
