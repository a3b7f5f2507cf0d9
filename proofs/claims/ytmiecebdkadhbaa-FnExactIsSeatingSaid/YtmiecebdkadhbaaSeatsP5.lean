/-
  Texts put together for the claims of 'Seats' (pack 5): SeatI, Lists, RowsG, RowsH, Numbers, People, First, GreedP, Nums, NumsW, GreedS.
-/
import Derived.Test.YtmiecebdkadhbaaSeatsP1
import Derived.Test.YtmiecebdkadhbaaSeatsP2
import Derived.Test.YtmiecebdkadhbaaSeatsP3
import Derived.Test.YtmiecebdkadhbaaSeatsP4
import Derived.Deep.RegionLaw
import Derived.Deep.AppendLies
import Derived.BigRegion
/-
  WHO SITS BESIDE WHOM, the program's: 'along', 'around', 'strangersAmong', by their contracts.
-/
namespace Go.Proofs.Ytmiecebdkadhbaa
open Go.RowKit

theorem bit_and2 {R b : Nat} : (R &&& 2 ^ b = 0) ↔ R.testBit b = false := by
  constructor
  · intro h
    have h1 : (R &&& 2 ^ b).testBit b = false := by rw [h, Nat.zero_testBit]
    rw [Nat.testBit_and, Nat.testBit_two_pow_self, Bool.and_true] at h1
    exact h1
  · intro h
    refine Nat.eq_of_testBit_eq fun i => ?_
    rw [Nat.testBit_and, Nat.zero_testBit, Nat.testBit_two_pow]
    by_cases hi : b = i
    · subst hi; rw [h]; rfl
    · rw [decide_eq_false hi, Bool.and_false]
theorem two_small {y : Nat} (hy : y < 16) : 2 ^ y < 65536 := by
  have h := Nat.pow_lt_pow_right (a := 2) (by decide) hy
  omega
theorem u16_bit {T y : Nat} (hT : T < 65536) (hy : y < 16) : (bits BinOp.and IntKind.u16 (T : Int) (IntKind.u16.wrap (2 ^ y)) == 0) = !T.testBit y := by
  have h1 := two_small hy
  have e : IntKind.u16.wrap (2 ^ y) = ((2 ^ y : Nat) : Int) := by
    rw [IntKind.wrap_u16]
    have h2 : ((2 : Int) ^ y) = ((2 ^ y : Nat) : Int) := by simp
    rw [h2]
    generalize (2 ^ y : Nat) = m at h1 ⊢
    omega
  rw [e, u16_and_nat _ _ hT h1]
  cases h : T.testBit y with
  | false => rw [bit_and2.2 h]; rfl
  | true =>
    have : T &&& 2 ^ y ≠ 0 := fun h0 => by rw [bit_and2.1 h0] at h; cases h
    simp only [Bool.not_true, beq_eq_false_iff_ne, ne_eq]
    omega
set_option maxHeartbeats 1000000 in
set_option maxRecDepth 100000 in
theorem strangersAmong_any {n : Nat} {l : PL} (hp : isP n l = true) (L : PL) (A : Option Addr) (c : Nat) (w : World) (hl : L.length ≤ 1048576) (hin : ∀ q ∈ L, 0 ≤ q.1 ∧ q.1 < n ∧ 0 ≤ q.2 ∧ q.2 < n) (hA : CRead w w.heap.size A (pcells L)) :
    Calls Try.prog 65 #[.agg (tcells (friendsT l)), .slice A L.length c] w fun e w' => e = .returned (.int .i64 (strangeN (adj l) L)) ∧ Below w.heap.size w w' := by
  have hn := isP_range hp
  have hT := friendsT_of hp
  obtain ⟨X, hX⟩ : ∃ X, w.alloc (Obj.cells (tcells (friendsT l)) 76) = X := ⟨_, rfl⟩
  have row0 : X.rowIs w.heap.size 76 12 (fun j => .int .u16 (friendsT l j)) := by rw [← hX]; exact rowIs_u16 w _ _
  have zX : w.heap.size < X.heap.size := by rw [← hX]; simp
  have kX : Below w.heap.size w X := by rw [← hX]; go_grown
  have hle := fun k => strangeN_take (adj l) L k
  have hnx := fun k q (h : L[k]? = some q) => strangeN_next (t := adj l) h
  obtain ⟨F, hF⟩ : ∃ F, (fun k => strangeN (adj l) (L.take k)) = F := ⟨_, rfl⟩
  have hF2 : ∀ k, strangeN (adj l) (L.take k) = F k := fun k => by rw [← hF]
  have hfin : strangeN (adj l) L = F L.length := by rw [← hF2, List.take_length]
  have h00 : F 0 = 0 := by rw [← hF2]; rfl
  rw [hfin]
  simp only [hF2] at hle hnx
  unfold tcells at hX ⊢
  have HX := Lib.hid hX
  have Row := Lib.hid row0
  have KX := Lib.hid kX
  have Hin := Lib.hid hin
  have Hnx := Lib.hid hnx
  have HT := Lib.hid hT
  have H00 := Lib.hid h00
  have Hle := Lib.hid hle
  clear hX row0 kX hin hnx hT hF hF2 hfin h00 hle hp
  go_enter Try.func65, Try.ntmps65
  go_wp2_with fail
  rw [HX.out]
  go_loopw [5, 10] (fun m i wr => ∃ k : Nat, k ≤ L.length ∧ i = .int .i64 k ∧ m = .int .i64 (F k) ∧ Below X.heap.size X wr) (fun _ i _ => L.length - (intOf i).toNat)
  case atStart => exact ⟨0, Nat.zero_le _, rfl, by rw [H00.out]; rfl, Below.refl _ _⟩
  case round =>
    obtain ⟨k, hk, rfl, rfl, hb⟩ := hrel
    have sb := hb.size
    by_cases hlt : k < L.length
    · obtain ⟨⟨x', y'⟩, hx⟩ := getSome L k hlt
      have hq := Hin.out _ (List.mem_of_getElem? hx)
      simp only at hq
      obtain ⟨x, rfl⟩ : ∃ x : Nat, x' = x := ⟨x'.toNat, by omega⟩
      obtain ⟨y, rfl⟩ : ∃ x : Nat, y' = x := ⟨y'.toNat, by omega⟩
      obtain ⟨bb, off, rfl, hbb, c0, c1⟩ := (hA.below (KX.out.trans (hb.mono KX.out.size)) (Nat.le_refl _)).pair hx
      have hki : (k : Int) < (L.length : Int) := by omega
      have hXr := hb
      have hrow : wr.rowIs w.heap.size 76 12 (fun j => .int .u16 (friendsT l j)) := by obtain ⟨cc, h1, h2⟩ := Row.out; exact ⟨cc, (hXr.block _ zX).trans h1, h2⟩
      have t0 := hrow.cell (i := x) (by omega)
      obtain ⟨T, hTx⟩ : ∃ T, friendsT l x = T := ⟨_, rfl⟩
      simp only [hTx] at t0
      have hT16 : T < 65536 := by rw [← hTx]; exact HT.out.lt x (by omega)
      have hbit : T.testBit y = adj l x y := by rw [← hTx]; exact HT.out.bit x y (by omega) (by omega)
      have hnext := Hnx.out k _ hx
      simp only [Int.toNat_natCast] at hnext
      have Hnext := Lib.hid hnext
      have Hbit := Lib.hid hbit
      have hx12 : (x : Int) < 12 := by omega
      have hx0 : (0 : Int) ≤ x := by omega
      have hy16 : (y : Int) < 16 := by omega
      have hy0 : (0 : Int) ≤ y := by omega
      obtain ⟨Y, hY⟩ : ∃ Y, wr.alloc (Obj.cells #[.int .i64 x, .int .i64 y] 95) = Y := ⟨_, rfl⟩
      have m0 : Y.cell? ⟨wr.heap.size, 0, none⟩ = some (.int .i64 x) := by rw [← hY]; simp
      have m1 : Y.cell? ⟨wr.heap.size, 1, none⟩ = some (.int .i64 y) := by rw [← hY]; simp
      have tY : Y.cell? ⟨w.heap.size, x, none⟩ = some (.int .u16 T) := by rw [← hY]; exact (World.cell?_alloc_lt _ _ _ (by show w.heap.size < wr.heap.size; omega)).trans t0
      have kY : Below X.heap.size X Y := by rw [← hY]; exact hb.alloc sb _
      have HY := Lib.hid hY
      have KY := Lib.hid kY
      have hFk := Hle.out k
      clear hnext hbit hrow t0 hTx hx hXr hb kY hY
      go_wp2_with fail
      rw [HY.out]
      go_region
      rw [u16_bit hT16 (by omega), Hbit.out]
      cases hr : adj l x y with
      | true =>
        have hn2 : F (k + 1) = F k := by have := Hnext.out; simpa [hr] using this
        have Hn2 := Lib.hid hn2
        clear hn2 hr
        go_wp2
        go_roundw
        case rel => exact ⟨k + 1, by omega, by go_num, by rw [Hn2.out], KY.out.drew⟩
        case measure => simp [intOf]; omega
      | false =>
        have hn2 : F (k + 1) = F k + 1 := by have := Hnext.out; simpa [hr] using this
        have Hn2 := Lib.hid hn2
        clear hn2 hr
        go_wp2
        go_roundw
        case rel => exact ⟨k + 1, by omega, by go_num, by rw [Hn2.out]; go_num, KY.out.drew⟩
        case measure => simp [intOf]; omega
    · have hkl : k = L.length := by omega
      subst hkl
      have hge : ¬ ((L.length : Int) < (L.length : Int)) := by omega
      go_wp2
      go_ret
      exact ⟨rfl, KX.out.trans (hb.mono KX.out.size)⟩
set_option maxHeartbeats 4000000 in
set_option maxRecDepth 100000 in
theorem along_any (q : List Int) (A : Option Addr) (c : Nat) (w : World) (hq : q.length ≤ 12) (hA : CRead w w.heap.size A (icells q)) :
    Calls Try.prog 62 #[.slice A q.length c] w fun e w' => ∃ A' c', e = .returned (.slice A' (alongP q).length c') ∧ w'.ownsRow w.heap.size 95 2 (.slice A' (alongP q).length c') (alongP q).length (pcells (alongP q)) ∧ Below w.heap.size w w' := by
  obtain ⟨i0, hi, hz0, hz1, hz2⟩ := info_parts Try.infoPair
  have hln := alongP_length q
  have htk := fun k (h : k < q.length - 1) => alongP_take (s := q) h
  obtain ⟨P0, hP0⟩ : ∃ P0, alongP q = P0 := ⟨_, rfl⟩
  simp only [hP0] at hln htk ⊢
  have Htk := Lib.hid htk
  have Hln := Lib.hid hln
  clear htk hln hP0
  have hz0' : ∀ i, i < q.length → ∃ u, q[i]? = some u ∧ q.getD i 0 = u := fun i hi => ⟨_, getD_at hi, rfl⟩
  have Hz := Lib.hid hz0'
  clear hz0'
  go_enter Try.func62, Try.ntmps62
  go_wp2_with (at_make; refine wpList_make_own _ rfl _ _ 29 rfl w.heap.size 95 i0 _ 2 Try.underlying29 hi hz0 hz1 _ _ _ q.length rfl rfl rfl (by rw [hz2]; omega) (by unfold maxLen; omega) (Nat.le_refl _) ?_; intro w1 own1 gr1)
  have k1 : Below w.heap.size w w1 := below_of_gb gr1 (Nat.le_refl _)
  have Own1 := Lib.hid own1
  clear own1 gr1
  go_loopw [3, 4] (fun v i wr => ∃ k : Nat, k ≤ q.length - 1 ∧ i = .int .i64 ((k + 1 : Nat) : Int) ∧ wr.ownsRow w.heap.size 95 2 v (P0.take k).length (pcells (P0.take k)) ∧ Below w.heap.size w wr) (fun _ i _ => q.length - (intOf i).toNat)
  case atStart => exact ⟨0, Nat.zero_le _, rfl, Own1.out, k1⟩
  case round =>
    obtain ⟨k, hk, rfl, own, hb⟩ := hrel
    have hlen : (P0.take k).length ≤ 12 := by rw [List.length_take]; omega
    have sb := hb.size
    by_cases hlt : k + 1 < q.length
    · obtain ⟨x, hx, ex⟩ := Hz.out k (by omega)
      obtain ⟨y, hy, ey⟩ := Hz.out (k + 1) hlt
      have hsn := Htk.out k (by omega)
      rw [ex, ey] at hsn
      have R := hA.below hb (Nat.le_refl _)
      obtain ⟨bb, off, rfl, hbb, c0⟩ := R.int hx
      obtain ⟨bb', off', e', _, c1⟩ := R.int hy
      simp only [Option.some.injEq, Addr.mk.injEq, and_true] at e'
      obtain ⟨rfl, rfl⟩ := e'
      have hki : ((k + 1 : Nat) : Int) < (q.length : Int) := by omega
      have hkk : ((k + 1 : Nat) : Int) - 1 = (k : Int) := by omega
      have hkq : (k : Int) < (q.length : Int) := by omega
      have hk0 : (0 : Int) ≤ (k : Int) := by omega
      have hkq2 : k < q.length := by omega
      have hwk : IntKind.i64.wrap (k : Int) = k := by simp [IntKind.wrap, IntKind.bits, IntKind.signed]; omega
      have htk2 : ((k : Int)).toNat = k := by omega
      have hk1 : (0 : Int) ≤ (k : Int) + 1 := by omega
      have hki2 : (k : Int) + 1 < (q.length : Int) := by omega
      have htk3 : ((k : Int) + 1).toNat = k + 1 := by omega
      obtain ⟨M, hM⟩ : ∃ M, P0.take k = M := ⟨_, rfl⟩
      rw [hM] at own hlen hsn
      obtain ⟨Av, cv, rfl, _⟩ := own_shape own
      have Hsn := Lib.hid hsn
      clear hx hy R ex ey hsn hM
      go_wp2
      go_region_law (first | (go_simp; go_at_call 98; refine (pairOf_any x y wr.drew).mono ?_; rintro e w2 ⟨rfl, hb2⟩; have hX2 : Below wr.heap.size wr w2 := (Below.refl _ _).drew.trans hb2; have own2 := own_below own hX2 (Nat.le_refl _); have s2 := hX2.size) | (refine step_append_lies _ (by rfl) _ _ _ (by rfl) w.heap.size 95 i0 _ 2 16 Try.underlying29 hi hz0 hz1 hz2 (by rfl) (by decide) (.slice Av M.length cv) M.length (pcells M) (by rfl) (own2.alloc _) ⟨w2.heap.size, 0, none⟩ 1 1 [.int .i64 (min x y), .int .i64 (max x y)] (by rfl) rfl (two_cells (by simp) (by simp)) (two_one rfl rfl) (by decide) (by unfold maxLen; omega) (by omega) (by simp; omega) (w2.heap.size + 1) (by simp) ?_; intro g3 c3 w3 own3 gr3 hat3 hlt3; have hb4 : Below w.heap.size w w3 := ((hb.trans (hX2.mono sb)).alloc (by omega) _).grown gr3 (by simp; omega) (fun m hm => (own.lt m hm).1)))
      all_goals (go_wp2_with fail)
      all_goals (go_roundw)
      all_goals first
        | exact ⟨k + 1, by omega, by go_num, by rw [Hsn.out, List.length_append, List.length_singleton, pcells_append]; exact own3, hb4⟩
        | (simp [intOf]; omega)
    · have hge : ¬ (((k + 1 : Nat) : Int) < (q.length : Int)) := by omega
      have hlp := Hln.out
      rw [List.take_of_length_le (show P0.length ≤ k by omega)] at own
      obtain ⟨Av, cv, rfl, _⟩ := own_shape own
      have Own := Lib.hid own
      clear own hlen hlp
      go_wp2
      go_ret
      exact ⟨Av, cv, rfl, Own.out, hb⟩
set_option maxHeartbeats 4000000 in
set_option maxRecDepth 100000 in
theorem around_any (q : List Int) (A : Option Addr) (c : Nat) (w : World) (h0 : 0 < q.length) (hq : q.length ≤ 12) (hA : CRead w w.heap.size A (icells q)) :
    Calls Try.prog 61 #[.slice A q.length c] w fun e w' => ∃ A' c', e = .returned (.slice A' (aroundP q).length c') ∧ w'.ownsRow w.heap.size 95 2 (.slice A' (aroundP q).length c') (aroundP q).length (pcells (aroundP q)) ∧ Below w.heap.size w w' := by
  obtain ⟨i0, hi, hz0, hz1, hz2⟩ := info_parts Try.infoPair
  obtain ⟨b, off, rfl, hbb, hat⟩ := hA.ints h0
  have c0 := hat 0 h0
  have c1 := hat (q.length - 1) (by omega)
  have call := fun (X : World) hX => along_any q (some ⟨b, off, none⟩) c X hq hX
  have har : aroundP q = alongP q ++ [prP (q.getD (q.length - 1) 0) (q.getD 0 0)] := rfl
  obtain ⟨x, hx⟩ : ∃ x, q.getD (q.length - 1) 0 = x := ⟨_, rfl⟩
  obtain ⟨y, hy⟩ : ∃ y, q.getD 0 0 = y := ⟨_, rfl⟩
  rw [hx] at c1 har
  rw [hy] at c0 har
  obtain ⟨M, hM⟩ : ∃ M, alongP q = M := ⟨_, rfl⟩
  have hml : M.length ≤ 12 := by rw [← hM, alongP_length]; omega
  simp only [hM] at call har
  have R : aroundP q = M ++ [prP x y] := har
  rw [R]
  have Call := Lib.hid call
  have hl1 : (q.length : Int) - 1 < (q.length : Int) := by omega
  have hl2 : (0 : Int) ≤ (q.length : Int) - 1 := by omega
  have hl3 : ((q.length : Int) - 1).toNat = q.length - 1 := by omega
  have hl4 : (0 : Int) < (q.length : Int) := by omega
  have hl5 : (1 : Int) ≤ (q.length : Int) := by omega
  rw [Nat.add_zero] at c0
  have hwk : IntKind.i64.wrap ((q.length : Int) - 1) = (q.length : Int) - 1 := by simp [IntKind.wrap, IntKind.bits, IntKind.signed]; omega
  clear call hat har R hx hy hM
  go_enter Try.func61, Try.ntmps61
  go_wp2
  go_region_law (first | (go_simp; go_at_call 62; refine (Call.out _ ((hA.below (by go_grown) (Nat.le_refl _)).more (by simp))).mono ?_; rintro e w2 ⟨A2, c2, rfl, own2, hb2⟩; have k2 : Below w.heap.size w w2 := (Below.refl _ _).drew.trans hb2; have z0 := carry k2 c0 hbb; have z1 := carry k2 c1 hbb; have s2 := k2.size) | (go_simp; go_at_call 98; refine (pairOf_any x y w2).mono ?_; rintro e w3 ⟨rfl, hb3⟩; have own3 := own_below own2 hb3 (Nat.le_refl _); have s3 := hb3.size; have k3 := k2.trans (hb3.mono k2.size)) | (refine step_append_lies _ (by rfl) _ _ _ (by rfl) w.heap.size 95 i0 _ 2 16 Try.underlying29 hi hz0 hz1 hz2 (by rfl) (by decide) (.slice A2 M.length c2) M.length (pcells M) (by rfl) (own3.alloc _) ⟨w3.heap.size, 0, none⟩ 1 1 [.int .i64 (min x y), .int .i64 (max x y)] (by rfl) rfl (two_cells (by simp) (by simp)) (two_one rfl rfl) (by decide) (by unfold maxLen; omega) (by omega) (by simp; omega) (w3.heap.size + 1) (by simp) ?_; intro g4 c4 w4 own4 gr4 hat4 hlt4; have hb4 : Below w.heap.size w w4 := (k3.alloc (by omega) _).grown gr4 (by simp; omega) (fun m hm => (own2.lt m hm).1)))
  all_goals (go_wp2_with fail)
  all_goals (go_ret)
  all_goals exact ⟨some ⟨g4, 0, none⟩, c4, by rw [List.length_append, List.length_singleton]; rfl, by rw [List.length_append, List.length_singleton, pcells_append]; exact own4, hb4⟩
end Go.Proofs.Ytmiecebdkadhbaa
/-
  LISTS OF LISTS OF NUMBERS, read; the laws' own comparison of two that are equal.
-/
namespace Go.Proofs.Ytmiecebdkadhbaa
open Go.RowKit

/-- a slice of slices of numbers can be read: its headers, and the rows that they name, lie below B -/
def SRead (w : World) (B : Nat) (A : Option Addr) (LL : List (List Int)) : Prop :=
  ∀ i l, LL[i]? = some l → ∃ b off A' c', A = some ⟨b, off, none⟩ ∧ b < B ∧ w.cell? ⟨b, off + i, none⟩ = some (.slice A' l.length c') ∧ CRead w B A' (icells l)
theorem SRead.below {w w' : World} {B B' : Nat} {A : Option Addr} {LL : List (List Int)} (h : SRead w B A LL) (hb : Below B w w') (hB : B ≤ B') : SRead w' B' A LL := by
  intro i l hi
  obtain ⟨b, off, A', c', e, hlt, hc, hr⟩ := h i l hi
  exact ⟨b, off, A', c', e, by omega, carry hb hc hlt, (hr.below hb (Nat.le_refl _)).more hB⟩

set_option maxHeartbeats 2000000 in
set_option maxRecDepth 100000 in
theorem eqIntSS_same (LL : List (List Int)) (A B : Option Addr) (c d : Nat) (w : World) (hl : LL.length ≤ maxLen) (hr : ∀ l ∈ LL, l.length ≤ maxLen)
    (hA : SRead w w.heap.size A LL) (hB : SRead w w.heap.size B LL) :
    Calls Try.prog 50 #[.slice A LL.length c, .slice B LL.length d] w fun e w' => e = .returned (.bool true) ∧ Below w.heap.size w w' := by
  unfold maxLen at hl
  go_enter Try.func50, Try.ntmps50
  go_wp2_with fail
  go_loopw [5] (fun i wr => ∃ k : Nat, k ≤ LL.length ∧ i = .int .i64 k ∧ Below w.heap.size w wr) (fun i _ => LL.length - (intOf i).toNat)
  case atStart => exact ⟨0, Nat.zero_le _, rfl, Below.refl _ _⟩
  case round =>
    obtain ⟨k, hk, rfl, hb⟩ := hrel
    by_cases hlt : k < LL.length
    · obtain ⟨l, hx⟩ := getSome LL k hlt
      obtain ⟨b, off, A1, c1, rfl, hb1, d1, R1⟩ := (hA.below hb hb.size) k l hx
      obtain ⟨b', off', A2, c2, rfl, hb2, d2, R2⟩ := (hB.below hb hb.size) k l hx
      have hll := hr l (List.mem_of_getElem? hx)
      have hki : (k : Int) < (LL.length : Int) := by omega
      clear hx
      go_wp2_with fail
      go_region_law (first | (go_simp; go_at_call 21; refine (eqIntS_any l l A1 A2 c1 c2 wr.drew hll hll (show CRead wr.drew wr.drew.heap.size A1 (icells l) from R1) (show CRead wr.drew wr.drew.heap.size A2 (icells l) from R2)).mono ?_; rw [decide_eq_true rfl]; rintro e w2 ⟨rfl, hb3⟩; have hb4 : Below w.heap.size w w2 := hb.trans ((Below.drew (Below.refl wr.heap.size wr)).trans hb3 |>.mono hb.size)) | fail)
      all_goals (go_wp2_with fail)
      all_goals (go_roundw)
      all_goals first
        | exact ⟨k + 1, by omega, by go_num, hb4⟩
        | (simp [intOf]; omega)
    · have hge : ¬ ((k : Int) < (LL.length : Int)) := by omega
      go_wp2
      go_ret
      exact ⟨rfl, hb⟩
/-- how many numbers lie in the first rows -/
def lens (ns : List Nat) (k : Nat) : Nat := (ns.take k).sum
theorem lens_succ {ns : List Nat} {k n : Nat} (h : ns[k]? = some n) : lens ns (k + 1) = lens ns k + n := by
  unfold lens
  rw [List.take_add_one, h, Option.toList_some, List.sum_append]
  simp
theorem lens_le (ns : List Nat) : ∀ k, lens ns k ≤ ns.sum := by
  intro k
  unfold lens
  have h := congrArg List.sum (List.take_append_drop k ns)
  rw [List.sum_append] at h
  omega
/-- the marks of rows of such lengths, counted on from row to row -/
def rowMarks (k0 : Int) (ns : List Nat) : List (List Int) := (List.range ns.length).map fun i => imarks (k0 + lens ns i) (ns.getD i 0)
theorem rowMarks_length (k0 : Int) (ns : List Nat) : (rowMarks k0 ns).length = ns.length := by simp [rowMarks]
theorem rowMarks_at {k0 : Int} {ns : List Nat} {k n : Nat} (h : ns[k]? = some n) : (rowMarks k0 ns)[k]? = some (imarks (k0 + lens ns k) n) := by
  have hk := (List.getElem?_eq_some_iff.1 h).1
  simp [rowMarks, hk, List.getD_eq_getElem?_getD]
  have := (List.getElem?_eq_some_iff.1 h).2
  rw [this]

set_option maxHeartbeats 2000000 in
set_option maxRecDepth 100000 in
theorem heldIntSS_any (ns : List Nat) (A : Option Addr) (c : Nat) (k0 : Int) (w : World) (hl : ns.length ≤ 1048576) (hs : ns.sum ≤ 1048576) (hk0 : 0 ≤ k0 ∧ k0 ≤ 8388608) (hA : SRead w w.heap.size A (rowMarks k0 ns)) :
    Calls Try.prog 52 #[.slice A ns.length c, .int .i64 k0] w fun e w' => e = .returned (.int .i64 (k0 + ns.sum)) ∧ w = w' := by
  obtain ⟨hk00, hk01⟩ := hk0
  go_enter Try.func52, Try.ntmps52
  go_wp2_with fail
  go_loopw [1, 5] (fun q i wr => ∃ k : Nat, k ≤ ns.length ∧ i = .int .i64 k ∧ q = .int .i64 (k0 + lens ns k) ∧ w = wr) (fun _ i _ => ns.length - (intOf i).toNat)
  case atStart => exact ⟨0, Nat.zero_le _, rfl, by simp [lens], rfl⟩
  case round =>
    obtain ⟨k, hk, rfl, rfl, rfl⟩ := hrel
    have hs1 := lens_le ns k
    by_cases hlt : k < ns.length
    · obtain ⟨n, hx⟩ := getSome ns k hlt
      have hs2 := lens_le ns (k + 1)
      have hsc := lens_succ hx
      obtain ⟨b, off, A1, c1, rfl, hb1, d1, R1⟩ := hA k _ (rowMarks_at hx)
      rw [imarks_length] at d1
      have hki : (k : Int) < (ns.length : Int) := by omega
      have Hsc := Lib.hid hsc
      generalize hm : k0 + (lens ns k : Int) = m at *
      have hm0 : 0 ≤ m := by omega
      have hm1 : m ≤ 16777216 := by omega
      have hnn : n ≤ 1048576 := by omega
      have hneg : ¬ (m + (n : Int) < 0) := by omega
      have Hm := Lib.hid hm
      clear hx hm hsc
      go_wp2_with fail
      refine (heldIntS_any A1 n c1 m _ hnn ⟨hm0, hm1⟩ R1).mono ?_
      rintro e w2 ⟨rfl, rfl⟩
      go_wp2
      go_roundw
      case rel => exact ⟨k + 1, by omega, by go_num, by rw [Hsc.out, ← Hm.out]; congr 1; omega, trivial⟩
      case measure => simp [intOf]; omega
    · have hkl : k = ns.length := by omega
      have hge : ¬ ((k : Int) < (ns.length : Int)) := by omega
      have e : lens ns k = ns.sum := by unfold lens; rw [List.take_of_length_le (by omega)]
      rw [e]
      go_wp2
      go_ret
      exact ⟨rfl, rfl⟩
end Go.Proofs.Ytmiecebdkadhbaa
/-
  A LIST OF LISTS OF NUMBERS OF THE CALL's OWN: its headers a row, each of its rows a row, all in blocks of their own; 'laws.markIntSS' by its contract.
-/
namespace Go.Proofs.Ytmiecebdkadhbaa
open Go.RowKit

theorem own_apart {w : World} {B B' : Nat} {e e' : TypeId} {s s' n n' : Nat} {v v' : Value} {xs xs' : List Value} (h1 : w.ownsRow B e s v n xs) (h2 : w.ownsRow B' e' s' v' n' xs') (hne : e ≠ e') : v.ownBlock = none ∨ v.ownBlock ≠ v'.ownBlock := by
  rcases h1.2 with ⟨rfl, _⟩ | ⟨g, cap, cur, rfl, _, hh, _⟩
  · left; simp [Value.ownBlock]
  · right
    rcases h2.2 with ⟨rfl, _⟩ | ⟨g', cap', cur', rfl, _, hh', _⟩
    · simp [Value.ownBlock]
    · intro e3
      have e4 : g = g' := by simpa [Value.ownBlock] using e3
      subst e4
      rw [hh] at hh'
      injection hh' with h
      injection h with _ ht
      exact hne ht

/-- n rows of numbers, row i under the slice (R i, N i, C i) -/
structure RowsG (w : World) (B : Nat) (v : Value) (n : Nat) (R : Nat → Option Addr) (C N : Nat → Nat) (F : Nat → List Int) : Prop where
  own : w.ownsRow B 25 1 v n ((List.range n).map fun i => Value.slice (R i) (N i) (C i))
  row : ∀ i, i < n → (F i).length = N i ∧ w.ownsRow B 3 1 (.slice (R i) (N i) (C i)) (N i) (icells (F i))
  apart : ∀ i j, i < n → j < n → i ≠ j → (Value.slice (R i) (N i) (C i)).ownBlock = none ∨ (Value.slice (R i) (N i) (C i)).ownBlock ≠ (Value.slice (R j) (N j) (C j)).ownBlock
section
variable {w w' : World} {B n : Nat} {v : Value} {R : Nat → Option Addr} {C N : Nat → Nat} {F F' : Nat → List Int}
theorem RowsG.congr (h : RowsG w B v n R C N F) (e : ∀ i, i < n → F i = F' i) : RowsG w B v n R C N F' :=
  ⟨h.own, fun i hi => by rw [← e i hi]; exact h.row i hi, h.apart⟩
theorem RowsG.kept (h : RowsG w B v n R C N F) (hg : w.grownBy w' none) : RowsG w' B v n R C N F :=
  ⟨h.own.kept hg (by cases v.ownBlock <;> simp), fun i hi => ⟨(h.row i hi).1, (h.row i hi).2.kept hg (by cases (Value.slice (R i) (N i) (C i)).ownBlock <;> simp)⟩, h.apart⟩
/-- another row i of the same length -/
theorem RowsG.set (h : RowsG w B v n R C N F) {k : Nat} (hk : k < n) {l : List Int} (hl : l.length = N k) (hg : w.grownBy w' (Value.slice (R k) (N k) (C k)).ownBlock) (ho : w'.ownsRow B 3 1 (.slice (R k) (N k) (C k)) (N k) (icells l)) :
    RowsG w' B v n R C N (fun i => if i = k then l else F i) := by
  refine ⟨h.own.kept hg (own_apart h.own (h.row k hk).2 (by decide)), fun i hi => ?_, h.apart⟩
  by_cases e : i = k
  · subst e
    simp only [if_true]
    exact ⟨hl, ho⟩
  · simp only [if_neg e]
    exact ⟨(h.row i hi).1, (h.row i hi).2.kept hg (h.apart i k hi hk e)⟩
theorem RowsG.read {A : Option Addr} {c : Nat} {LL : List (List Int)} (h : RowsG w B (.slice A n c) n R C N F) (hn : LL.length = n) (hL : ∀ i l, LL[i]? = some l → F i = l) : SRead w w.heap.size A LL := by
  intro i l hi
  have hin : i < n := by have := (List.getElem?_eq_some_iff.1 hi).1; omega
  obtain ⟨g, rfl⟩ := own_form h.own (by omega)
  obtain ⟨h1, h2⟩ := h.row i hin
  rw [hL i l hi] at h1 h2
  refine ⟨g, 0, R i, C i, rfl, (own_lt h.own).2, ?_, CRead.of_own h2⟩
  rw [Nat.zero_add, h.own.cellAt i (by omega)]
  simp [hin, h1]
end

set_option maxHeartbeats 2000000 in
set_option maxRecDepth 100000 in
theorem markIntSS_any (ns : List Nat) (A : Option Addr) (c : Nat) (k0 : Int) (B : Nat) (R : Nat → Option Addr) (C : Nat → Nat) (F : Nat → List Int) (w : World) (hl : ns.length ≤ 1048576) (hs : ns.sum ≤ 1048576) (hk0 : 0 ≤ k0 ∧ k0 ≤ 8388608) (hB : B ≤ w.heap.size)
    (h : RowsG w B (.slice A ns.length c) ns.length R C (fun i => ns.getD i 0) F) :
    Calls Try.prog 51 #[.slice A ns.length c, .int .i64 k0] w fun e w' => e = .returned (.int .i64 (k0 + ns.sum)) ∧ RowsG w' B (.slice A ns.length c) ns.length R C (fun i => ns.getD i 0) (fun i => imarks (k0 + lens ns i) (ns.getD i 0)) ∧ Below B w w' := by
  obtain ⟨hk00, hk01⟩ := hk0
  go_enter Try.func51, Try.ntmps51
  go_wp2_with fail
  go_loopw [1, 5] (fun q i wr => ∃ k : Nat, k ≤ ns.length ∧ i = .int .i64 k ∧ q = .int .i64 (k0 + lens ns k) ∧ RowsG wr B (.slice A ns.length c) ns.length R C (fun i => ns.getD i 0) (fun i => if i < k then imarks (k0 + lens ns i) (ns.getD i 0) else F i) ∧ Below B w wr) (fun _ i _ => ns.length - (intOf i).toNat)
  case atStart => exact ⟨0, Nat.zero_le _, rfl, by simp [lens], h.congr fun i _ => by rw [if_neg (Nat.not_lt_zero _)], Below.refl _ _⟩
  case round =>
    clear h
    obtain ⟨k, hk, rfl, rfl, hG, hb⟩ := hrel
    have hs1 := lens_le ns k
    have hBr : B ≤ wr.heap.size := Nat.le_trans hB hb.size
    by_cases hlt : k < ns.length
    · obtain ⟨n, hx⟩ := getSome ns k hlt
      have hs2 := lens_le ns (k + 1)
      have hsc := lens_succ hx
      have hgd : ns.getD k 0 = n := by rw [List.getD_eq_getElem?_getD, hx]; rfl
      obtain ⟨g, rfl⟩ := own_form hG.own (by omega)
      have d1 : wr.cell? ⟨g, k, none⟩ = some (.slice (R k) n (C k)) := by
        rw [hG.own.cellAt k (by omega)]
        simp only [List.getElem?_map, List.getElem?_range hlt, Option.map_some, hgd]
      obtain ⟨h1, h2⟩ := hG.row k hlt
      rw [if_neg (Nat.lt_irrefl k)] at h1 h2
      rw [hgd] at h1 h2
      have hki : (k : Int) < (ns.length : Int) := by omega
      have HG := Lib.hid hG
      have Hsc := Lib.hid hsc
      have Hgd := Lib.hid hgd
      generalize hm : k0 + (lens ns k : Int) = m at *
      have hm0 : 0 ≤ m := by omega
      have hm1 : m ≤ 16777216 := by omega
      have hnn : n ≤ 1048576 := by omega
      have Hm := Lib.hid hm
      clear hx hm hsc hG hgd
      go_wp2_with fail
      refine (markIntS_any (F k) (R k) n (C k) m B _ h1 hnn ⟨hm0, hm1⟩ h2).mono ?_
      rintro e w2 ⟨rfl, own2, hg2⟩
      have hb2 := hb.grown hg2 hBr (fun i hi => (h2.lt i hi).1)
      have G2 := Lib.hid ((HG.out.set hlt (l := imarks m n) (by rw [imarks_length]; exact Hgd.out.symm) (by simp only [Hgd.out]; exact hg2) (by simp only [Hgd.out]; exact own2)).congr (F' := fun i => if i < k + 1 then imarks (k0 + lens ns i) (ns.getD i 0) else F i) fun i _ => by
        by_cases e : i = k
        · subst e
          simp only [if_true, if_pos (Nat.lt_succ_self i), Hm.out, Hgd.out]
        · simp only [if_neg e]
          by_cases h3 : i < k
          · simp only [if_pos h3, if_pos (Nat.lt_succ_of_lt h3)]
          · simp only [if_neg h3, if_neg (show ¬ i < k + 1 by omega)])
      clear own2 hg2 h2 h1
      go_wp2
      go_roundw
      case rel => exact ⟨k + 1, by omega, by go_num, by rw [Hsc.out, ← Hm.out]; congr 1; omega, G2.out, hb2⟩
      case measure => simp [intOf]; omega
    · have hkl : k = ns.length := by omega
      have hge : ¬ ((k : Int) < (ns.length : Int)) := by omega
      have e : lens ns k = ns.sum := by unfold lens; rw [List.take_of_length_le (by omega)]
      rw [e]
      have HG := Lib.hid (hG.congr (F' := fun i => imarks (k0 + lens ns i) (ns.getD i 0)) fun i hi => by rw [if_pos (by omega)])
      clear hG
      go_wp2
      go_ret
      exact ⟨rfl, HG.out, hb⟩
end Go.Proofs.Ytmiecebdkadhbaa
/-
  A LIST OF LISTS OF NUMBERS OF THE CALL's OWN: a row of none put behind it, and a number put behind one of its rows.
-/
namespace Go.Proofs.Ytmiecebdkadhbaa
open Go.RowKit

section
variable {w w' w2 : World} {B n : Nat} {v v' : Value} {R : Nat → Option Addr} {C N : Nat → Nat} {F : Nat → List Int}
def upN {α : Type} (f : Nat → α) (k : Nat) (x : α) : Nat → α := fun i => if i = k then x else f i
theorem upN_self {α : Type} (f : Nat → α) (k : Nat) (x : α) : upN f k x k = x := by simp [upN]
theorem upN_ne {α : Type} (f : Nat → α) {k i : Nat} (x : α) (h : i ≠ k) : upN f k x i = f i := by simp [upN, h]
/-- behind an append of one header, nil -/
theorem RowsG.push (h : RowsG w B v n R C N F) (hg : w.grownBy w' v.ownBlock) (ho : w'.ownsRow B 25 1 v' (n + 1) (((List.range n).map fun i => Value.slice (R i) (N i) (C i)) ++ [.slice none 0 0])) :
    RowsG w' B v' (n + 1) (upN R n none) (upN C n 0) (upN N n 0) (upN F n []) := by
  refine ⟨?_, fun i hi => ?_, fun i j hi hj hij => ?_⟩
  · rw [List.range_succ, List.map_append, List.map_singleton, upN_self, upN_self, upN_self]
    rw [List.map_congr_left (g := fun i => Value.slice (R i) (N i) (C i)) fun i hi => by
      have : i ≠ n := by have := List.mem_range.1 hi; omega
      rw [upN_ne _ _ this, upN_ne _ _ this, upN_ne _ _ this]]
    exact ho
  · by_cases e : i = n
    · subst e
      simp only [upN_self]
      exact ⟨rfl, World.ownsRow_nil _ _ _ _⟩
    · simp only [upN_ne _ _ e]
      have hin : i < n := by omega
      exact ⟨(h.row i hin).1, (h.row i hin).2.kept hg (own_apart (h.row i hin).2 h.own (by decide))⟩
  · by_cases e : i = n
    · subst e
      simp only [upN_self]
      left; simp [Value.ownBlock]
    · simp only [upN_ne _ _ e]
      by_cases e2 : j = n
      · subst e2
        simp only [upN_self]
        cases hq : (Value.slice (R i) (N i) (C i)).ownBlock with
        | none => exact .inl rfl
        | some b => right; simp [Value.ownBlock]
      · simp only [upN_ne _ _ e2]
        exact h.apart i j (by omega) (by omega) hij
theorem map_range_set {α : Type} (f : Nat → α) (k : Nat) (x : α) (n : Nat) : ((List.range n).map f).set k x = (List.range n).map (upN f k x) := by
  apply List.ext_getElem (by simp)
  intro j h1 h2
  rw [List.getElem_set]
  simp only [List.getElem_map, List.getElem_range]
  by_cases e : k = j
  · subst e; simp [upN]
  · rw [if_neg e, upN_ne _ _ (fun h => e h.symm)]
/-- behind an append of a number to row k and the store of its header -/
theorem RowsG.grow {g c : Nat} (h : RowsG w B (.slice (some ⟨g, 0, none⟩) n c) n R C N F) {k : Nat} (hk : k < n) {x : Int} {b d : Nat}
    (hg : w.grownBy w2 (Value.slice (R k) (N k) (C k)).ownBlock) (ho : w2.ownsRow B 3 1 (.slice (some ⟨b, 0, none⟩) (N k + 1) d) (N k + 1) (icells (F k) ++ [.int .i64 x]))
    (hat : (Value.slice (R k) (N k) (C k)).ownBlock = some b ∨ b = w.heap.size) :
    RowsG (w2.setCell ⟨g, k, none⟩ (.slice (some ⟨b, 0, none⟩) (N k + 1) d)) B (.slice (some ⟨g, 0, none⟩) n c) n (upN R k (some ⟨b, 0, none⟩)) (upN C k d) (upN N k (N k + 1)) (upN F k (F k ++ [x])) := by
  have own2 := h.own.kept hg (own_apart h.own (h.row k hk).2 (by decide))
  have hst := own2.stored k (.slice (some ⟨b, 0, none⟩) (N k + 1) d)
  have hob : (Value.slice (some ⟨g, 0, none⟩) n c).ownBlock = some g := by simp [Value.ownBlock]
  refine ⟨?_, fun i hi => ?_, fun i j hi hj hij => ?_⟩
  · have h1 := hst.1
    rw [map_range_set] at h1
    rw [List.map_congr_left (g := upN (fun i => Value.slice (R i) (N i) (C i)) k (.slice (some ⟨b, 0, none⟩) (N k + 1) d)) fun i _ => by
      by_cases e : i = k
      · subst e; simp only [upN_self]
      · simp only [upN_ne _ _ e]]
    exact h1
  · by_cases e : i = k
    · subst e
      simp only [upN_self]
      refine ⟨by rw [List.length_append, (h.row i hi).1]; rfl, ?_⟩
      rw [icells_append]
      refine World.ownsRow.kept ho hst.2 ?_
      rw [← hob]
      exact own_apart ho own2 (by decide)
    · simp only [upN_ne _ _ e]
      have hr := (h.row i hi).2.kept hg (h.apart i k hi hk e)
      refine ⟨(h.row i hi).1, hr.kept hst.2 ?_⟩
      rw [← hob]
      exact own_apart hr own2 (by decide)
  · have hlt : ∀ i, i < n → ∀ m, (Value.slice (R i) (N i) (C i)).ownBlock = some m → m < w.heap.size := fun i hi m hm => ((h.row i hi).2.lt m hm).2
    have hbn : (Value.slice (some ⟨b, 0, none⟩) (N k + 1) d).ownBlock = some b := by simp [Value.ownBlock]
    by_cases e : i = k
    · subst e
      simp only [upN_self, upN_ne _ _ (fun h => hij h.symm), hbn]
      right
      intro e2
      rcases hat with h1 | h1
      · rcases h.apart i j hi hj hij with h2 | h2
        · rw [h1] at h2; cases h2
        · exact h2 (h1.trans e2)
      · have := hlt j hj b e2.symm
        omega
    · by_cases e2 : j = k
      · subst e2
        simp only [upN_self, upN_ne _ _ e, hbn]
        cases hq : (Value.slice (R i) (N i) (C i)).ownBlock with
        | none => exact .inl rfl
        | some m =>
          right
          intro e3
          have e4 : m = b := by simpa using e3
          subst e4
          rcases hat with h1 | h1
          · rcases h.apart i j hi hj hij with h2 | h2
            · rw [hq] at h2; cases h2
            · exact h2 (hq.trans h1.symm)
          · have := hlt i hi m hq
            omega
      · simp only [upN_ne _ _ e, upN_ne _ _ e2]
        exact h.apart i j hi hj hij
end
end Go.Proofs.Ytmiecebdkadhbaa
/-
  HOW MANY FRIENDS EACH PERSON HAS: the model's count and the program's, by their contracts.
-/
namespace Go.Proofs.Ytmiecebdkadhbaa
open Go.RowKit

def bump (acc : List Int) (a : Int) : List Int := acc.set a.toNat (acc.getD a.toNat 0 + 1)
def numsOf (n : Nat) (l : PL) : List Int := l.foldl (fun acc q => bump (bump acc q.1) q.2) (List.replicate n 0)
theorem bump_length (acc : List Int) (a : Int) : (bump acc a).length = acc.length := by simp [bump]
theorem bump_at {acc : List Int} {a : Nat} {u : Int} (h : acc[a]? = some u) : bump acc (a : Int) = acc.set a (u + 1) := by simp [bump, List.getD, h]
theorem numsOf_snoc (n : Nat) (l : PL) (q : Int × Int) : numsOf n (l ++ [q]) = bump (bump (numsOf n l) q.1) q.2 := by simp [numsOf, List.foldl_append]
theorem numsOf_length (n : Nat) (l : PL) : (numsOf n l).length = n := by
  unfold numsOf
  suffices h : ∀ (l : PL) (acc : List Int), acc.length = n → (l.foldl (fun acc q => bump (bump acc q.1) q.2) acc).length = n from h l _ (by simp)
  intro l
  induction l with
  | nil => intro acc h; exact h
  | cons q l ih => intro acc h; exact ih _ (by rw [bump_length, bump_length, h])
def Small (acc : List Int) (m : Nat) : Prop := ∀ (i : Nat) (x : Int), acc[i]? = some x → 0 ≤ x ∧ x ≤ m
theorem small_zero (n m : Nat) : Small (List.replicate n 0) m := by
  intro i x h
  rw [List.getElem?_replicate] at h
  split at h
  · simp at h; omega
  · cases h
theorem small_set {acc : List Int} {m a : Nat} {u : Int} (h : Small acc m) (ha : acc[a]? = some u) : Small (acc.set a (u + 1)) (m + 1) := by
  intro i x hx
  have hu := h a u ha
  rw [List.getElem?_set] at hx
  split at hx
  · split at hx
    · simp at hx; omega
    · cases hx
  · have := h i x hx; omega
def resNumbersOfFriends (p : Int) (l : PL) : List Int × Bool := if isP p l then (numsOf p.toNat l, true) else ([], false)
theorem resNumbersOfFriends_len (p : Int) (l : PL) : (resNumbersOfFriends p l).1.length ≤ 1048576 := by
  unfold resNumbersOfFriends
  split
  · rename_i h
    have := isP_range h
    rw [numsOf_length]
    omega
  · simp

/-- what one pair does to the row of numbers (the walk writes a store into an old block ahead of a new block) -/
theorem numbers_round {w : World} {B e g n cap a b : Nat} {acc : List Int} {u v : Int} (hown : w.ownsRow B e 1 (.slice (some ⟨g, 0, none⟩) n cap) n (icells acc)) (hu : acc[a]? = some u) (hv : acc[b]? = some v) (hab : a ≠ b) (o : Obj) :
    (w.alloc o).cell? ⟨g, a, none⟩ = some (.int .i64 u) ∧ (w.alloc o).frozen? ⟨g, a, none⟩ = false ∧
      ((w.setCell ⟨g, a, none⟩ (.int .i64 (u + 1))).alloc o).cell? ⟨g, b, none⟩ = some (.int .i64 v) ∧ ((w.setCell ⟨g, a, none⟩ (.int .i64 (u + 1))).alloc o).frozen? ⟨g, b, none⟩ = false ∧
      (((w.setCell ⟨g, a, none⟩ (.int .i64 (u + 1))).setCell ⟨g, b, none⟩ (.int .i64 (v + 1))).alloc o).ownsRow B e 1 (.slice (some ⟨g, 0, none⟩) n cap) n (icells (bump (bump acc a) b)) := by
  have h1 := hown.alloc o
  have h2 := own_setInt hown a (u + 1)
  have h2' := h2.alloc o
  have hv2 : (acc.set a (u + 1))[b]? = some v := by rw [List.getElem?_set_ne hab]; exact hv
  have h3 := own_setInt h2 b (v + 1)
  refine ⟨own_intAt h1 hu, h1.frozenAt _, own_intAt h2' hv2, h2'.frozenAt _, ?_⟩
  rw [bump_at hu, bump_at hv2]
  exact h3.alloc o

set_option maxHeartbeats 1000000 in
set_option maxRecDepth 100000 in
theorem paNumbers_any (p : Int) (l : PL) (A : Option Addr) (c : Nat) (w : World) (hp : isP p l = true) (hA : CRead w w.heap.size A (pcells l)) :
    Calls Try.prog 77 #[.agg #[.int .i64 p, .slice A l.length c]] w fun e w' => ∃ g, e = .returned (.slice (some ⟨g, 0, none⟩) p.toNat p.toNat) ∧ w'.ownsRow w.heap.size 3 1 (.slice (some ⟨g, 0, none⟩) p.toNat p.toNat) p.toNat (icells (numsOf p.toNat l)) ∧ Below w.heap.size w w' := by
  obtain ⟨i0, hi, hz0, hz1, hz2⟩ := info_parts Try.infoInt
  obtain ⟨n, rfl⟩ : ∃ n : Nat, p = n := ⟨p.toNat, by have := isP_range hp; omega⟩
  have hn := isP_range hp
  have hlen : l.length ≤ 66 := by have h1 := isP_length hp; have h2 := people_sq hn.1 hn.2; omega
  simp only [Int.toNat_natCast]
  have Hp := Lib.hid hp
  clear hp
  go_enter Try.func77, Try.ntmps77
  go_wp2_with (at_make; refine wpList_make_full _ rfl _ _ 25 rfl w.heap.size 3 i0 _ 1 Try.underlying25 hi hz0 hz1 _ _ _ _ n rfl rfl (by omega) (by omega) (by rw [hz2]; omega) (by unfold maxLen; omega) (by go_size) ?_; intro w1 hown1 hgr1; have hb1 : Below (w.heap.size + 1) (w.alloc (Obj.cells #[.int .i64 (n : Int), .slice A l.length c] 31)) w1 := below_of_gb hgr1 (by go_size); have q0 : w1.cell? ⟨w.heap.size, 0, none⟩ = some (.int .i64 n) := carry hb1 (by simp) (by omega); have q1 : w1.cell? ⟨w.heap.size, 1, none⟩ = some (.slice A l.length c) := carry hb1 (by simp) (by omega))
  rw [show Value.cells (.int .i64 0) = #[.int .i64 0] from rfl, made_ints] at hown1
  have hl1 := own_lt hown1
  have hs1 := hb1.size
  simp only [World.size_alloc] at hown1 hl1 hs1
  go_loopw [12] (fun i wr => ∃ k : Nat, k ≤ l.length ∧ i = .int .i64 k ∧ wr.ownsRow w.heap.size 3 1 (.slice (some ⟨w.heap.size + 1, 0, none⟩) n n) n (icells (numsOf n (l.take k))) ∧ Small (numsOf n (l.take k)) (2 * k) ∧ Below (w.heap.size + 1) (w.alloc (Obj.cells #[.int .i64 (n : Int), .slice A l.length c] 31)) wr) (fun i _ => l.length - (intOf i).toNat)
  case atStart => exact ⟨0, Nat.zero_le _, rfl, by simpa [numsOf] using hown1, by simpa [numsOf] using small_zero n _, hb1⟩
  case round =>
    obtain ⟨k, hk, rfl, hown, hsmall, hb⟩ := hrel
    have hs := hb.size
    simp only [World.size_alloc] at hs
    have hbw : Below w.heap.size w wr := Below.trans (b := _) (by go_grown) (hb.mono (by omega))
    have hlt0 := own_lt hown
    by_cases hlt : k < l.length
    · obtain ⟨⟨x, y⟩, hx⟩ := getSome l k hlt
      obtain ⟨h0, h1, h2⟩ := goodAt_pair (isP_good Hp.out hlt) hx
      obtain ⟨a, rfl⟩ : ∃ a : Nat, x = a := ⟨x.toNat, by omega⟩
      obtain ⟨b, rfl⟩ : ∃ b : Nat, y = b := ⟨y.toNat, by omega⟩
      obtain ⟨bb, off, rfl, hbb, c0, c1⟩ := (hA.below hbw (Nat.le_refl _)).pair hx
      obtain ⟨u, hu⟩ := getSome (numsOf n (l.take k)) a (by rw [numsOf_length]; omega)
      obtain ⟨v, hv⟩ := getSome (numsOf n (l.take k)) b (by rw [numsOf_length]; omega)
      have hu0 := hsmall _ _ hu
      have hv0 := hsmall _ _ hv
      obtain ⟨d0, d1, d2, d3, d4⟩ := numbers_round hown hu hv (by omega) (Obj.cells #[.int .i64 (a : Int), .int .i64 (b : Int)] 95)
      have hki : (k : Int) < (l.length : Int) := by omega
      have hsm : Small (bump (bump (numsOf n (l.take k)) a) b) (2 * (k + 1)) := by
        rw [bump_at hu, bump_at (by rw [List.getElem?_set_ne (by omega)]; exact hv)]
        exact small_set (small_set hsmall hu) (by rw [List.getElem?_set_ne (by omega)]; exact hv)
      have Hx := Lib.hid hx
      have Hsm := Lib.hid hsm
      have Hd4 := Lib.hid d4
      have ha : (a : Int) < n := by omega
      have hb' : (b : Int) < n := h2
      clear hx hu hv hsm d4 hsmall
      go_wp2
      go_roundw
      case rel =>
        refine ⟨k + 1, by omega, by go_num, ?_, ?_, ?_⟩
        · rw [List.take_add_one, Hx.out, Option.toList_some, numsOf_snoc]
          exact Hd4.out
        · rw [List.take_add_one, Hx.out, Option.toList_some, numsOf_snoc]
          exact Hsm.out
        · exact ((hb.setCell (p := ⟨w.heap.size + 1, a, none⟩) (by simp) _).setCell (p := ⟨w.heap.size + 1, b, none⟩) (by simp) _).alloc (by simp; omega) _
      case measure => simp [intOf]; omega
    · have hkl : k = l.length := by omega
      subst hkl
      have hge : ¬ ((l.length : Int) < l.length) := by omega
      clear hsmall
      go_wp2
      go_ret
      refine ⟨_, rfl, ?_, hbw⟩
      rwa [List.take_length] at hown

set_option maxHeartbeats 1000000 in
set_option maxRecDepth 100000 in
theorem implNumbersOfFriends_any (p : Int) (l : PL) (A : Option Addr) (c : Nat) (w : World) (hl : l.length ≤ 1048576) (hA : CRead w w.heap.size A (pcells l)) :
    Calls Try.prog 78 #[.agg #[.int .i64 p, .slice A l.length c]] w (GotIntsOk w (resNumbersOfFriends p l).1 (resNumbersOfFriends p l).2) := by
  cases hp : isP p l with
  | false =>
    have e : resNumbersOfFriends p l = ([], false) := by simp [resNumbersOfFriends, hp]
    rw [e]
    have Hp := Lib.hid hp
    clear hp e
    go_enter Try.func78, Try.ntmps78
    go_wp2_with (go_at_call 59; refine (isParty_any _ _ _ _ _ hl ((hA.below (B' := w.heap.size) (by go_grown) (Nat.le_refl _)).more (by go_size))).mono ?_; rw [Hp.out]; rintro e w2 ⟨rfl, hb2⟩; simp only [World.size_alloc] at hb2)
    go_ret2
    exact ⟨none, 0, rfl, World.ownsRow_nil _ _ _ _, Below.trans (b := _) (by go_grown) (hb2.mono (by omega))⟩
  | true =>
    have e : resNumbersOfFriends p l = (numsOf p.toNat l, true) := by simp [resNumbersOfFriends, hp]
    rw [e]
    clear e
    obtain ⟨i0, hi, hz0, hz1, hz2⟩ := info_parts Try.infoInt
    obtain ⟨n, rfl⟩ : ∃ n : Nat, p = n := ⟨p.toNat, by have := isP_range hp; omega⟩
    have hn := isP_range hp
    have hlen : l.length ≤ 66 := by have h1 := isP_length hp; have h2 := people_sq hn.1 hn.2; omega
    simp only [Int.toNat_natCast]
    have Hp := Lib.hid hp
    clear hp
    go_enter Try.func78, Try.ntmps78
    go_wp2_with fail
    refine (isParty_any _ _ _ _ _ hl ((hA.below (B' := w.heap.size) (by go_grown) (Nat.le_refl _)).more (by go_size))).mono ?_
    rw [Hp.out]
    rintro e w2 ⟨rfl, hb2⟩
    simp only [World.size_alloc] at hb2
    have a0 : w2.cell? ⟨w.heap.size, 0, none⟩ = some (.int .i64 n) := carry hb2 (by simp) (by omega)
    have a1 : w2.cell? ⟨w.heap.size, 1, none⟩ = some (.slice A l.length c) := carry hb2 (by simp) (by omega)
    have s2 := hb2.size
    simp only [World.size_alloc] at s2
    go_wp2_with (at_make; refine wpList_make_full _ rfl _ _ 25 rfl w.heap.size 3 i0 _ 1 Try.underlying25 hi hz0 hz1 _ _ _ _ n rfl rfl (by omega) (by omega) (by rw [hz2]; omega) (by unfold maxLen; omega) (by omega) ?_; intro w1 hown1 hgr1; have hb1 : Below w2.heap.size w2 w1 := below_of_gb hgr1 (Nat.le_refl _); have q0 : w1.cell? ⟨w.heap.size, 0, none⟩ = some (.int .i64 n) := carry hb1 a0 (by omega); have q1 : w1.cell? ⟨w.heap.size, 1, none⟩ = some (.slice A l.length c) := carry hb1 a1 (by omega))
    rw [show Value.cells (.int .i64 0) = #[.int .i64 0] from rfl, made_ints] at hown1
    have hl1 := own_lt hown1
    have hb1' : Below (w.heap.size + 1) (w.alloc (Obj.cells #[.int .i64 (n : Int), .slice A l.length c] 31)) w1 := hb2.trans (hb1.mono s2)
    clear hb1 hgr1 a0 a1 q0 q1
    go_loopw [16] (fun i wr => ∃ k : Nat, k ≤ l.length ∧ i = .int .i64 k ∧ wr.ownsRow w.heap.size 3 1 (.slice (some ⟨w2.heap.size, 0, none⟩) n n) n (icells (numsOf n (l.take k))) ∧ Small (numsOf n (l.take k)) (2 * k) ∧ Below (w.heap.size + 1) (w.alloc (Obj.cells #[.int .i64 (n : Int), .slice A l.length c] 31)) wr) (fun i _ => l.length - (intOf i).toNat)
    case atStart => exact ⟨0, Nat.zero_le _, rfl, by simpa [numsOf] using hown1, by simpa [numsOf] using small_zero n _, hb1'⟩
    case round =>
      clear hown1 hb1' hl1 hb2
      obtain ⟨k, hk, rfl, hown, hsmall, hb⟩ := hrel
      have hs := hb.size
      simp only [World.size_alloc] at hs
      have hbw : Below w.heap.size w wr := Below.trans (b := _) (by go_grown) (hb.mono (by omega))
      have hlt0 := own_lt hown
      by_cases hlt : k < l.length
      · obtain ⟨⟨x, y⟩, hx⟩ := getSome l k hlt
        obtain ⟨h0, h1, h2⟩ := goodAt_pair (isP_good Hp.out hlt) hx
        obtain ⟨a, rfl⟩ : ∃ a : Nat, x = a := ⟨x.toNat, by omega⟩
        obtain ⟨b, rfl⟩ : ∃ b : Nat, y = b := ⟨y.toNat, by omega⟩
        obtain ⟨bb, off, rfl, hbb, c0, c1⟩ := (hA.below hbw (Nat.le_refl _)).pair hx
        obtain ⟨u, hu⟩ := getSome (numsOf n (l.take k)) a (by rw [numsOf_length]; omega)
        obtain ⟨v, hv⟩ := getSome (numsOf n (l.take k)) b (by rw [numsOf_length]; omega)
        have hu0 := hsmall _ _ hu
        have hv0 := hsmall _ _ hv
        obtain ⟨d0, d1, d2, d3, d4⟩ := numbers_round hown hu hv (by omega) (Obj.cells #[.int .i64 (a : Int), .int .i64 (b : Int)] 95)
        have hki : (k : Int) < (l.length : Int) := by omega
        have hsm : Small (bump (bump (numsOf n (l.take k)) a) b) (2 * (k + 1)) := by
          rw [bump_at hu, bump_at (by rw [List.getElem?_set_ne (by omega)]; exact hv)]
          exact small_set (small_set hsmall hu) (by rw [List.getElem?_set_ne (by omega)]; exact hv)
        have Hx := Lib.hid hx
        have Hsm := Lib.hid hsm
        have Hd4 := Lib.hid d4
        have ha : (a : Int) < n := by omega
        have hb' : (b : Int) < n := h2
        clear hx hu hv hsm d4 hsmall
        go_wp2
        go_roundw
        case rel =>
          refine ⟨k + 1, by omega, by go_num, ?_, ?_, ?_⟩
          · rw [List.take_add_one, Hx.out, Option.toList_some, numsOf_snoc]
            exact Hd4.out
          · rw [List.take_add_one, Hx.out, Option.toList_some, numsOf_snoc]
            exact Hsm.out
          · exact ((hb.setCell (p := ⟨w2.heap.size, a, none⟩) (by simp; omega) _).setCell (p := ⟨w2.heap.size, b, none⟩) (by simp; omega) _).alloc (by simp; omega) _
        case measure => simp [intOf]; omega
      · have hkl : k = l.length := by omega
        subst hkl
        have hge : ¬ ((l.length : Int) < l.length) := by omega
        clear hsmall
        go_wp2
        go_ret2
        refine ⟨some ⟨w2.heap.size, 0, none⟩, n, by rw [numsOf_length]; rfl, ?_, hbw⟩
        rw [List.take_length] at hown
        rwa [numsOf_length]
end Go.Proofs.Ytmiecebdkadhbaa
/-
  THE PARTS OF A PARTY: 'impl.allPeople' and 'impl.firstOnes', by their contracts.
-/
namespace Go.Proofs.Ytmiecebdkadhbaa
open Go.RowKit

/-- 0, 1, .. below k, and 0 from there on -/
def pplTo (n k : Nat) : List Int := (List.range n).map fun j => if j < k then (j : Int) else 0
def people (n : Nat) : List Int := pplTo n n
theorem pplTo_length (n k : Nat) : (pplTo n k).length = n := by simp [pplTo]
theorem pplTo_at {n k j : Nat} (h : j < n) : (pplTo n k)[j]? = some (if j < k then (j : Int) else 0) := by simp [pplTo, h]
theorem pplTo_zero (n : Nat) : pplTo n 0 = List.replicate n 0 := by
  apply List.ext_getElem (by simp [pplTo])
  intro j h1 h2
  simp [pplTo]
theorem pplTo_set (n k : Nat) : (pplTo n k).set k (k : Int) = pplTo n (k + 1) := by
  apply List.ext_getElem (by simp [pplTo])
  intro j h1 h2
  rw [List.getElem_set]
  by_cases h : k = j
  · subst h; simp [pplTo]
  · rw [if_neg h]
    simp only [pplTo, List.getElem_map, List.getElem_range]
    by_cases h3 : j < k
    · rw [if_pos h3, if_pos (by omega)]
    · rw [if_neg h3, if_neg (by omega)]
theorem people_at {n j : Nat} (h : j < n) : (people n)[j]? = some (j : Int) := by unfold people; rw [pplTo_at h, if_pos h]
theorem people_length (n : Nat) : (people n).length = n := pplTo_length n n

set_option maxHeartbeats 1000000 in
set_option maxRecDepth 100000 in
theorem allPeople_any (n : Nat) (v : Value) (w : World) (hn : n ≤ 12) :
    Calls Try.prog 120 #[.agg #[.int .i64 n, v]] w fun e w' => ∃ g, e = .returned (.slice (some ⟨g, 0, none⟩) n n) ∧ w'.ownsRow w.heap.size 3 1 (.slice (some ⟨g, 0, none⟩) n n) n (icells (people n)) ∧ Below w.heap.size w w' := by
  obtain ⟨i0, hi, hz0, hz1, hz2⟩ := info_parts Try.infoInt
  go_enter Try.func120, Try.ntmps120
  go_wp2_with (at_make; refine wpList_make_full _ rfl _ _ 25 rfl w.heap.size 3 i0 _ 1 Try.underlying25 hi hz0 hz1 _ _ _ _ n rfl rfl (by omega) (by omega) (by rw [hz2]; omega) (by unfold maxLen; omega) (by go_size) ?_; intro w1 hown1 hgr1; have hb1 : Below (w.heap.size + 1) (w.alloc (Obj.cells #[.int .i64 (n : Int), v] 31)) w1 := below_of_gb hgr1 (by go_size))
  rw [show Value.cells (.int .i64 0) = #[.int .i64 0] from rfl, made_ints] at hown1
  have hl1 := own_lt hown1
  have hs1 := hb1.size
  simp only [World.size_alloc] at hown1 hl1 hs1
  go_loopw [10] (fun i wr => ∃ k : Nat, k ≤ n ∧ i = .int .i64 k ∧ wr.ownsRow w.heap.size 3 1 (.slice (some ⟨w.heap.size + 1, 0, none⟩) n n) n (icells (pplTo n k)) ∧ Below (w.heap.size + 1) (w.alloc (Obj.cells #[.int .i64 (n : Int), v] 31)) wr) (fun i _ => n - (intOf i).toNat)
  case atStart => exact ⟨0, Nat.zero_le _, rfl, by rw [pplTo_zero]; exact hown1, hb1⟩
  case round =>
    obtain ⟨k, hk, rfl, hown, hb⟩ := hrel
    have hs := hb.size
    simp only [World.size_alloc] at hs
    have hbw : Below w.heap.size w wr := Below.trans (b := _) (by go_grown) (hb.mono (by omega))
    by_cases hlt : k < n
    · have d0 := own_intAt hown (pplTo_at hlt)
      have d1 := hown.frozenAt k
      have d2 := own_setInt hown k (k : Int)
      rw [pplTo_set] at d2
      have Hd2 := Lib.hid d2
      have hki : (k : Int) < (n : Int) := by omega
      clear hown d2
      go_wp2
      go_roundw
      case rel => exact ⟨k + 1, by omega, by go_num, Hd2.out, hb.setCell (p := ⟨w.heap.size + 1, k, none⟩) (by simp) _⟩
      case measure => simp [intOf]; omega
    · have hkl : k = n := by omega
      have hge : ¬ ((k : Int) < (n : Int)) := by omega
      have Hkl := Lib.hid hkl
      have Hown := Lib.hid hown
      clear hkl hown
      go_wp2
      go_ret
      refine ⟨_, rfl, ?_, hbw⟩
      have h := Hown.out
      rw [Hkl.out] at h
      exact h
/-- the first k of a list, hi turned into lo -/
def relTo (acc : List Int) (hi lo : Int) (k : Nat) : List Int := acc.mapIdx fun j f => if j < k ∧ f = hi then lo else f
theorem relTo_length (acc : List Int) (hi lo : Int) (k : Nat) : (relTo acc hi lo k).length = acc.length := by simp [relTo]
theorem relTo_zero (acc : List Int) (hi lo : Int) : relTo acc hi lo 0 = acc := by
  apply List.ext_getElem (by simp [relTo])
  intro j h1 h2
  simp [relTo]
theorem relTo_at {acc : List Int} {k : Nat} {f : Int} (hi lo : Int) (h : acc[k]? = some f) : (relTo acc hi lo k)[k]? = some f := by
  unfold relTo
  rw [List.getElem?_mapIdx, h]
  simp
theorem relTo_hit {acc : List Int} {k : Nat} {hi lo : Int} (h : acc[k]? = some hi) : (relTo acc hi lo k).set k lo = relTo acc hi lo (k + 1) := by
  have hk := (List.getElem?_eq_some_iff.1 h)
  apply List.ext_getElem (by simp [relTo])
  intro j h1 h2
  rw [List.getElem_set]
  simp only [relTo, List.getElem_mapIdx]
  by_cases e : k = j
  · subst e
    rw [if_pos rfl, if_pos ⟨by omega, hk.2⟩]
  · rw [if_neg e]
    by_cases h3 : j < k
    · simp only [h3, true_and, show j < k + 1 by omega]
    · rw [if_neg (by omega), if_neg (by omega)]
theorem relTo_miss {acc : List Int} {k : Nat} {f hi lo : Int} (h : acc[k]? = some f) (hne : f ≠ hi) : relTo acc hi lo k = relTo acc hi lo (k + 1) := by
  have hk := (List.getElem?_eq_some_iff.1 h)
  apply List.ext_getElem (by simp [relTo])
  intro j h1 h2
  simp only [relTo, List.getElem_mapIdx]
  by_cases e : k = j
  · subst e
    rw [if_neg (by omega), if_neg (fun x => hne (hk.2 ▸ x.2))]
  · by_cases h3 : j < k
    · simp only [h3, true_and, show j < k + 1 by omega]
    · rw [if_neg (by omega), if_neg (by omega)]
/-- a pair makes one part of two: the greater first one becomes the less -/
def joinI (acc : List Int) (q : Int × Int) : List Int := relTo acc (max (acc.getD q.1.toNat 0) (acc.getD q.2.toNat 0)) (min (acc.getD q.1.toNat 0) (acc.getD q.2.toNat 0)) acc.length
def firstI (n : Nat) (l : PL) : List Int := l.foldl joinI (people n)
theorem firstI_snoc (n : Nat) (l : PL) (q : Int × Int) : firstI n (l ++ [q]) = joinI (firstI n l) q := by simp [firstI, List.foldl_append]
theorem firstI_length (n : Nat) (l : PL) : (firstI n l).length = n := by
  unfold firstI
  suffices h : ∀ (l : PL) (acc : List Int), acc.length = n → (l.foldl joinI acc).length = n from h l _ (people_length n)
  intro l
  induction l with
  | nil => intro acc h; exact h
  | cons q l ih => intro acc h; exact ih _ (by rw [joinI, relTo_length, h])
theorem joinI_at {acc : List Int} {n a b : Nat} {x y : Int} (hn : acc.length = n) (hx : acc[a]? = some x) (hy : acc[b]? = some y) : joinI acc (a, b) = relTo acc (max x y) (min x y) n := by
  simp [joinI, List.getD_eq_getElem?_getD, hx, hy, hn]

set_option maxHeartbeats 4000000 in
set_option maxRecDepth 100000 in
theorem firstOnes_any (p : Int) (l : PL) (A : Option Addr) (c : Nat) (w : World) (hp : isP p l = true) (hA : CRead w w.heap.size A (pcells l)) :
    Calls Try.prog 92 #[.agg #[.int .i64 p, .slice A l.length c]] w fun e w' => ∃ g, e = .returned (.slice (some ⟨g, 0, none⟩) p.toNat p.toNat) ∧ w'.ownsRow w.heap.size 3 1 (.slice (some ⟨g, 0, none⟩) p.toNat p.toNat) p.toNat (icells (firstI p.toNat l)) ∧ Below w.heap.size w w' := by
  obtain ⟨n, rfl⟩ : ∃ n : Nat, p = n := ⟨p.toNat, by have := isP_range hp; omega⟩
  have hn := isP_range hp
  have hlen : l.length ≤ 66 := by have h1 := isP_length hp; have h2 := people_sq hn.1 hn.2; omega
  simp only [Int.toNat_natCast]
  have Hp := Lib.hid hp
  clear hp
  generalize hW : w.alloc (Obj.cells #[.int .i64 (n : Int), .slice A l.length c] 31) = W
  have a0 : W.cell? ⟨w.heap.size, 0, none⟩ = some (.int .i64 n) := by rw [← hW]; simp
  have a1 : W.cell? ⟨w.heap.size, 1, none⟩ = some (.slice A l.length c) := by rw [← hW]; simp
  have kW : Below w.heap.size w W := by rw [← hW]; go_grown
  have sW1 : w.heap.size < W.heap.size := by rw [← hW]; simp
  have HW := Lib.hid hW
  clear hW
  go_enter Try.func92, Try.ntmps92
  go_wp2_with fail
  rw [HW.out]
  refine (allPeople_any n (.slice A l.length c) _ (by omega)).mono ?_
  rintro e w1 ⟨g, rfl, own1, hb1⟩
  have a2 := carry hb1 a0 sW1
  have a3 := carry hb1 a1 sW1
  have hgl := (own_lt own1)
  go_wp2_with fail
  have hgW := hgl.1
  clear hgl a2 a3
  go_loopw [15] (fun i wr => ∃ k : Nat, k ≤ l.length ∧ i = .int .i64 k ∧ wr.ownsRow W.heap.size 3 1 (.slice (some ⟨g, 0, none⟩) n n) n (icells (firstI n (l.take k))) ∧ Below W.heap.size W wr) (fun i _ => l.length - (intOf i).toNat)
  case atStart => exact ⟨0, Nat.zero_le _, rfl, own1, hb1⟩
  case round =>
    clear own1 hb1
    obtain ⟨wo, rfl⟩ : ∃ wo, wo = wr := ⟨wr, rfl⟩
    obtain ⟨k, hk, rfl, hown, hb⟩ := hrel
    have kX : Below w.heap.size w wo := kW.trans (hb.mono kW.size)
    have hgo := (own_lt hown).2
    by_cases hlt : k < l.length
    · obtain ⟨⟨x, y⟩, hx⟩ := getSome l k hlt
      obtain ⟨h0, h1, h2⟩ := goodAt_pair (isP_good Hp.out hlt) hx
      obtain ⟨a, rfl⟩ : ∃ a : Nat, x = a := ⟨x.toNat, by omega⟩
      obtain ⟨b, rfl⟩ : ∃ b : Nat, y = b := ⟨y.toNat, by omega⟩
      obtain ⟨bb, off, rfl, hbb, c0, c1⟩ := (hA.below kX (Nat.le_refl _)).pair hx
      have hfl := firstI_length n (l.take k)
      obtain ⟨u, hu⟩ := getSome (firstI n (l.take k)) a (by omega)
      obtain ⟨v, hv⟩ := getSome (firstI n (l.take k)) b (by omega)
      have hsn := joinI_at hfl hu hv
      have Hsn := Lib.hid (show firstI n (l.take (k + 1)) = relTo (firstI n (l.take k)) (max u v) (min u v) n by rw [List.take_add_one, hx, Option.toList_some, firstI_snoc, hsn])
      have hki : (k : Int) < (l.length : Int) := by omega
      have ha : (a : Int) < n := by omega
      have hb' : (b : Int) < n := h2
      clear hsn hx
      go_wp2_with fail
      generalize hX : wo.alloc (Obj.cells #[.int .i64 (a : Int), .int .i64 (b : Int)] 95) = X
      have kWX : Below wo.heap.size wo X := by rw [← hX]; go_grown
      have m0 : X.cell? ⟨wo.heap.size, 0, none⟩ = some (.int .i64 a) := by rw [← hX]; simp
      have m1 : X.cell? ⟨wo.heap.size, 1, none⟩ = some (.int .i64 b) := by rw [← hX]; simp
      have ownX := own_below hown kWX (Nat.le_refl _)
      have d0 := own_intAt ownX hu
      have d1 := own_intAt ownX hv
      have hbX := hb.trans (kWX.mono hb.size)
      clear hX c0 c1 hown hu hv
      generalize firstI n (l.take k) = acc at *
      obtain ⟨hi, hhi⟩ : ∃ hi, max u v = hi := ⟨_, rfl⟩
      obtain ⟨lo, hlo⟩ : ∃ lo, min u v = lo := ⟨_, rfl⟩
      rw [hhi, hlo] at Hsn
      go_quiet (fail)
      first | rw [show (if v < u then v else u) = lo by rw [← hlo]; split <;> omega] | skip
      go_wp2_with fail
      go_quiet (fail)
      first | rw [show (if u < v then v else u) = hi by rw [← hhi]; split <;> omega] | skip
      clear hlo hhi
      go_wp2_with fail
      clear m0 m1 d0 d1
      have own0 := ownX
      rw [← relTo_zero acc hi lo] at own0
      clear ownX
      go_loopw [43] (fun i wr => ∃ j : Nat, j ≤ n ∧ i = .int .i64 j ∧ wr.ownsRow W.heap.size 3 1 (.slice (some ⟨g, 0, none⟩) n n) n (icells (relTo acc hi lo j)) ∧ Below W.heap.size W wr) (fun i _ => n - (intOf i).toNat)
      case atStart => exact ⟨0, Nat.zero_le _, rfl, own0, ⟨hbX.os, hbX.tape, hbX.output, hbX.size, hbX.block⟩⟩
      case round =>
        clear own0 hbX
        obtain ⟨j, hj, rfl, hown, hb2⟩ := hrel
        by_cases hlt2 : j < n
        · obtain ⟨f, hf⟩ := getSome acc j (by omega)
          have d0 := own_intAt hown (relTo_at hi lo hf)
          have d1 := hown.frozenAt j
          have hji : (j : Int) < (n : Int) := by omega
          by_cases hfh : f = hi
          · subst hfh
            have d2 := own_setInt hown j lo
            rw [relTo_hit hf] at d2
            have Hd2 := Lib.hid d2
            clear d2 hown hf
            go_wp2
            go_roundw
            case rel => exact ⟨j + 1, by omega, by go_num, Hd2.out, hb2.setCell (p := ⟨g, j, none⟩) hgW _⟩
            case measure => simp [intOf]; omega
          · have hne : (f == hi) = false := by simp [hfh]
            rw [relTo_miss hf hfh] at hown
            have Hd2 := Lib.hid hown
            clear hown hf
            go_wp2
            go_roundw
            case rel => exact ⟨j + 1, by omega, by go_num, Hd2.out, hb2⟩
            case measure => simp [intOf]; omega
        · have hjn : j = n := by omega
          have hge : ¬ ((j : Int) < (n : Int)) := by omega
          rw [hjn, ← Hsn.out] at hown
          have Hd2 := Lib.hid hown
          clear hown hjn
          go_wp2
          go_roundw
          case rel => exact ⟨k + 1, by omega, by go_num, Hd2.out, hb2⟩
          case measure => simp [intOf]; omega
    · have hkl : k = l.length := by omega
      subst hkl
      have hge : ¬ ((l.length : Int) < l.length) := by omega
      rw [List.take_length] at hown
      go_wp2
      go_ret
      exact ⟨g, rfl, own_lower hown kW.size, kX⟩
end Go.Proofs.Ytmiecebdkadhbaa
/-
  THE PARTS OF A PARTY, pure: the label that 'firstOnes' gives to each person tells its part.
-/
namespace Go.Proofs.Ytmiecebdkadhbaa
open Go.RowKit

theorem snocRec {α : Type} {P : List α → Prop} (nil : P []) (append_singleton : ∀ l r, P l → P (l ++ [r])) (l : List α) : P l := by
  have h : ∀ m : List α, P m.reverse := by
    intro m
    induction m with
    | nil => exact nil
    | cons a m ih => rw [List.reverse_cons]; exact append_singleton _ _ ih
  have := h l.reverse
  rwa [List.reverse_reverse] at this
/-- the label of a person -/
def lab (n : Nat) (l : PL) (c : Nat) : Int := (firstI n l).getD c 0
theorem lab_nil {n c : Nat} (hc : c < n) : lab n [] c = c := by
  unfold lab
  rw [List.getD_eq_getElem?_getD, show firstI n [] = people n from rfl, people_at hc]
  rfl
theorem lab_snoc {n c : Nat} (l : PL) (q : Int × Int) (hc : c < n) :
    lab n (l ++ [q]) c = if lab n l c = max (lab n l q.1.toNat) (lab n l q.2.toNat) then min (lab n l q.1.toNat) (lab n l q.2.toNat) else lab n l c := by
  have hl : c < (firstI n l).length := by rw [firstI_length]; exact hc
  unfold lab
  rw [firstI_snoc, joinI]
  generalize max ((firstI n l).getD q.1.toNat 0) ((firstI n l).getD q.2.toNat 0) = hi
  generalize min ((firstI n l).getD q.1.toNat 0) ((firstI n l).getD q.2.toNat 0) = lo
  simp only [List.getD_eq_getElem?_getD, relTo, List.getElem?_mapIdx, List.getElem?_eq_getElem hl, Option.map_some, Option.getD_some, hl, true_and]
/-- a pair's two people have one label -/
theorem lab_pair {n : Nat} {l : PL} (h : ∀ q ∈ l, q.1.toNat < n ∧ q.2.toNat < n) : ∀ q ∈ l, lab n l q.1.toNat = lab n l q.2.toNat := by
  induction l using snocRec with
  | nil => intro q hq; cases hq
  | append_singleton l r ih =>
    intro q hq
    have hqn := h q hq
    rw [lab_snoc l r hqn.1, lab_snoc l r hqn.2]
    rcases List.mem_append.1 hq with hm | hm
    · rw [ih (fun s hs => h s (by simp [hs])) q hm]
    · have e : q = r := by simpa using hm
      subst e
      generalize lab n l q.1.toNat = x
      generalize lab n l q.2.toNat = y
      by_cases hxy : x ≤ y
      · by_cases h2 : x = y
        · rw [h2]
        · rw [if_neg (by omega), if_pos (by omega)]; omega
      · rw [if_pos (by omega), if_neg (by omega)]; omega
/-- the label of a person is one of its part, not later than it, and its own label -/
theorem lab_own {n : Nat} {l : PL} (h : ∀ q ∈ l, q.1.toNat < n ∧ q.2.toNat < n) : ∀ c, c < n → 0 ≤ lab n l c ∧ lab n l c ≤ c ∧ lab n l (lab n l c).toNat = lab n l c := by
  induction l using snocRec with
  | nil =>
    intro c hc
    rw [lab_nil hc]
    simp only [Int.toNat_natCast]
    exact ⟨by omega, by omega, lab_nil hc⟩
  | append_singleton l r ih =>
    have ih := ih (fun s hs => h s (by simp [hs]))
    have hr := h r (by simp)
    intro c hc
    have i1 := ih c hc
    have i2 := ih _ hr.1
    have i3 := ih _ hr.2
    rw [lab_snoc l r hc]
    have hm : ∀ m : Int, 0 ≤ m → m < n → lab n l m.toNat = m → lab n (l ++ [r]) m.toNat = if m = max (lab n l r.1.toNat) (lab n l r.2.toNat) then min (lab n l r.1.toNat) (lab n l r.2.toNat) else m := fun m h0 h1 he => by
      rw [lab_snoc l r (by omega), he]
    generalize lab n l c = f at *
    generalize lab n l r.1.toNat = x at *
    generalize lab n l r.2.toNat = y at *
    by_cases hf : f = max x y
    · rw [if_pos hf]
      have hlo : lab n l (min x y).toNat = min x y := by
        rcases Int.le_total x y with e | e
        · rw [Int.min_eq_left e]; exact i2.2.2
        · rw [Int.min_eq_right e]; exact i3.2.2
      refine ⟨by omega, by omega, ?_⟩
      rw [hm _ (by omega) (by omega) hlo]
      split <;> rfl
    · rw [if_neg hf]
      refine ⟨i1.1, i1.2.1, ?_⟩
      rw [hm _ i1.1 (by omega) i1.2.2, if_neg hf]
/-- a set that no pair leaves holds with a person all of its label -/
theorem lab_closed {n : Nat} {l : PL} {S : Nat → Prop} (h : ∀ q ∈ l, q.1.toNat < n ∧ q.2.toNat < n) (hS : ∀ q ∈ l, S q.1.toNat ↔ S q.2.toNat) : ∀ a c, a < n → c < n → lab n l a = lab n l c → (S a ↔ S c) := by
  induction l using snocRec with
  | nil =>
    intro a c ha hc e
    rw [lab_nil ha, lab_nil hc] at e
    rw [show a = c by omega]
  | append_singleton l r ih =>
    have ih := ih (fun s hs => h s (by simp [hs])) (fun s hs => hS s (by simp [hs]))
    have hr := h r (by simp)
    have hs := hS r (by simp)
    intro a c ha hc e
    rw [lab_snoc l r ha, lab_snoc l r hc] at e
    have k1 := ih a _ ha hr.1
    have k2 := ih a _ ha hr.2
    have k3 := ih c _ hc hr.1
    have k4 := ih c _ hc hr.2
    have k5 := ih a c ha hc
    generalize lab n l a = f at *
    generalize lab n l c = g at *
    generalize lab n l r.1.toNat = x at *
    generalize lab n l r.2.toNat = y at *
    by_cases hfg : f = g
    · exact k5 hfg
    · by_cases h1 : f = max x y
      · have h2 : g = min x y := by
          rw [if_pos h1] at e
          split at e <;> omega
        rcases Int.le_total x y with e2 | e2
        · rw [k2 (by omega), k3 (by omega), hs]
        · rw [k1 (by omega), k4 (by omega), hs]
      · rw [if_neg h1] at e
        have h2 : g = max x y := by
          split at e
          · assumption
          · exact absurd e hfg
        have h3 : f = min x y := by rw [if_pos h2] at e; exact e
        rcases Int.le_total x y with e2 | e2
        · rw [k1 (by omega), k4 (by omega), hs]
        · rw [k2 (by omega), k3 (by omega), hs]
end Go.Proofs.Ytmiecebdkadhbaa
/-
  COLOURS GIVEN ONE AFTER THE OTHER, as plain lists: the least one that nobody tied has. Nothing here speaks of the program.
-/
namespace Go.Proofs.Ytmiecebdkadhbaa
open Go.RowKit

def hasTo (t : Nat → Nat → Bool) (col : Nat → Int) (j a : Nat) (c : Int) : Bool := (List.range j).any fun b => t a b && decide (col b = c)
theorem hasTo_zero (t : Nat → Nat → Bool) (col : Nat → Int) (a : Nat) (c : Int) : hasTo t col 0 a c = false := rfl
theorem hasTo_succ (t : Nat → Nat → Bool) (col : Nat → Int) (j a : Nat) (c : Int) : hasTo t col (j + 1) a c = (hasTo t col j a c || (t a j && decide (col j = c))) := by simp [hasTo, List.range_succ, List.any_append]
def freeC (t : Nat → Nat → Bool) (col : Nat → Int) (n K a : Nat) : Nat := ((List.range K).find? fun c : Nat => !hasTo t col n a (c : Int)).getD K
theorem freeC_eq {t : Nat → Nat → Bool} {col : Nat → Int} {n K a c : Nat} (h1 : ∀ c', c' < c → hasTo t col n a (c' : Int) = true) (h2 : c < K → hasTo t col n a (c : Int) = false) (hc : c ≤ K) : freeC t col n K a = c := by
  unfold freeC
  by_cases hK : c < K
  · have e : (List.range K).find? (fun c : Nat => !hasTo t col n a (c : Int)) = some c := by
      rw [List.find?_eq_some_iff_getElem]
      refine ⟨by simp [h2 hK], c, by simpa using hK, by simp, fun j hj => ?_⟩
      simp [h1 j hj]
    rw [e]; rfl
  · have e : (List.range K).find? (fun c : Nat => !hasTo t col n a (c : Int)) = none := by
      rw [List.find?_eq_none]
      intro x hx
      have := List.mem_range.1 hx
      simp [h1 x (by omega)]
    rw [e]
    show K = c
    omega
def stepC (t : Nat → Nat → Bool) (n : Nat) (s : (Nat → Int) × Nat) (x : Int) : (Nat → Int) × Nat :=
  (upN s.1 x.toNat (freeC t s.1 n s.2 x.toNat : Int), if freeC t s.1 n s.2 x.toNat = s.2 then s.2 + 1 else s.2)
def runC (t : Nat → Nat → Bool) (n : Nat) (q : List Int) : (Nat → Int) × Nat := q.foldl (stepC t n) (fun _ => -1, 0)
theorem runC_snoc (t : Nat → Nat → Bool) (n : Nat) (q : List Int) (x : Int) : runC t n (q ++ [x]) = stepC t n (runC t n q) x := by simp [runC, List.foldl_append]
theorem freeC_le (t : Nat → Nat → Bool) (col : Nat → Int) (n K a : Nat) : freeC t col n K a ≤ K := by
  unfold freeC
  cases e : (List.range K).find? fun c : Nat => !hasTo t col n a (c : Int) with
  | none => exact Nat.le_refl _
  | some c => have := List.mem_range.1 (List.mem_of_find?_eq_some e); simp; omega
structure Coloured (q : List Int) (s : (Nat → Int) × Nat) : Prop where
  low : ∀ b, s.1 b = -1 ∨ 0 ≤ s.1 b ∧ s.1 b < s.2
  few : s.2 ≤ q.length
  all : ∀ x ∈ q, 0 ≤ s.1 x.toNat
theorem runC_good (t : Nat → Nat → Bool) (n : Nat) (q : List Int) : Coloured q (runC t n q) := by
  induction q using snocRec with
  | nil => exact ⟨fun b => .inl rfl, Nat.le_refl _, fun x hx => by cases hx⟩
  | append_singleton q x ih =>
    rw [runC_snoc]
    have hle := freeC_le t (runC t n q).1 n (runC t n q).2 x.toNat
    unfold stepC
    obtain ⟨F, hF⟩ : ∃ F, freeC t (runC t n q).1 n (runC t n q).2 x.toNat = F := ⟨_, rfl⟩
    rw [hF] at hle ⊢
    have h1 := ih.low
    have h2 := ih.few
    have h3 := ih.all
    refine ⟨fun b => ?_, ?_, fun y hy => ?_⟩
    · by_cases hb : b = x.toNat
      · subst hb
        right
        simp only [upN_self]
        split <;> omega
      · simp only [upN_ne _ _ hb]
        rcases h1 b with h | h
        · exact .inl h
        · right; split <;> omega
    · simp only [List.length_append, List.length_singleton]
      split <;> omega
    · by_cases hb : y.toNat = x.toNat
      · simp only [hb, upN_self]; omega
      · simp only [upN_ne _ _ hb]
        rcases List.mem_append.1 hy with h | h
        · exact h3 y h
        · simp at h; subst h; exact absurd rfl hb
theorem hasTo_over {t : Nat → Nat → Bool} {q : List Int} {s : (Nat → Int) × Nat} (h : Coloured q s) (n a : Nat) {c : Nat} (hc : s.2 ≤ c) : hasTo t s.1 n a (c : Int) = false := by
  unfold hasTo
  rw [List.any_eq_false]
  intro b _
  have := h.low b
  simp
  omega
def colsG (t : Nat → Nat → Bool) (n : Nat) (q : List Int) : List Int := (List.range n).map (runC t n q).1
/-- the program's list: those who have no colour yet have the first one -/
def posC (col : Nat → Int) (b : Nat) : Int := if col b < 0 then 0 else col b
theorem posC_up (col : Nat → Int) (a c : Nat) : upN (posC col) a (c : Int) = posC (upN col a (c : Int)) := by
  funext b
  unfold posC
  by_cases hb : b = a
  · subst hb; simp only [upN_self]; rw [if_neg (by omega)]
  · simp only [upN_ne _ _ hb]
theorem naming_nat {n : Nat} {q : List Int} (h : isNamingI n q = true) : ∀ b, b < n → (b : Int) ∈ q := fun b hb => naming_all h (i := b) (by omega)
theorem colsG_pos {t : Nat → Nat → Bool} {n : Nat} {q : List Int} (h : isNamingI n q = true) : (List.range n).map (posC (runC t n q).1) = colsG t n q := by
  unfold colsG
  refine List.map_congr_left fun b hb => ?_
  have hm := naming_nat h b (List.mem_range.1 hb)
  have := (runC_good t n q).all _ hm
  rw [Int.toNat_natCast] at this
  unfold posC
  rw [if_neg (by omega)]
def resGreedyColouring (p : Int) (l : PL) (q : List Int) : List Int × Bool := if isP p l && isNamingI p q then (colsG (adj l) p.toNat q, true) else ([], false)
theorem resGreedyColouring_len (p : Int) (l : PL) (q : List Int) : (resGreedyColouring p l q).1.length ≤ 1048576 := by
  unfold resGreedyColouring
  split
  · rename_i h
    have := isP_range (show isP p l = true by rw [Bool.and_eq_true] at h; exact h.1)
    simp [colsG]
    omega
  · simp
theorem map_range_at {α : Type} (f : Nat → α) {n k : Nat} (h : k < n) : ((List.range n).map f)[k]? = some (f k) := by simp [h]
end Go.Proofs.Ytmiecebdkadhbaa
/-
  LISTS OF NUMBERS OF FRIENDS AS PLAIN LISTS: what numbers are; sorted so that they are falling; sums; where they fail. Nothing here speaks of the program.
-/
namespace Go.Proofs.Ytmiecebdkadhbaa

def isNums (q : List Int) : Bool := decide (q.length ≤ 12) && q.all fun x => decide (0 ≤ x ∧ x < q.length)
theorem isNums_len {q : List Int} (h : isNums q = true) : q.length ≤ 12 := by
  simp only [isNums, Bool.and_eq_true, decide_eq_true_eq] at h
  exact h.1
theorem isNums_mem {q : List Int} (h : isNums q = true) : ∀ x ∈ q, 0 ≤ x ∧ x < q.length := by
  simp only [isNums, Bool.and_eq_true, List.all_eq_true, decide_eq_true_eq] at h
  exact h.2
theorem isNums_at {q : List Int} (h : isNums q = true) {k : Nat} {x : Int} (hx : q[k]? = some x) : 0 ≤ x ∧ x < q.length := isNums_mem h x (List.mem_of_getElem? hx)
theorem isNums_of {q : List Int} (h : q.length ≤ 12) (h2 : ∀ (k : Nat) (x : Int), k < q.length → q[k]? = some x → 0 ≤ x ∧ x < q.length) : isNums q = true := by
  simp only [isNums, Bool.and_eq_true, List.all_eq_true, decide_eq_true_eq]
  refine ⟨h, fun x hx => ?_⟩
  obtain ⟨i, hi, rfl⟩ := List.getElem_of_mem hx
  exact h2 i _ hi (List.getElem?_eq_getElem hi)
theorem isNums_bad {q : List Int} {k : Nat} {x : Int} (hx : q[k]? = some x) (h : ¬ (0 ≤ x ∧ x < q.length)) : isNums q = false := by
  cases he : isNums q with
  | false => rfl
  | true => exact absurd (isNums_at he hx) h
theorem isNums_many {q : List Int} (h : 12 < q.length) : isNums q = false := by
  cases he : isNums q with
  | false => rfl
  | true => have := isNums_len he; omega

/-! ## Falling -/
def fall (q : List Int) : List Int := q.mergeSort fun x y => decide (y ≤ x)
theorem fall_perm (q : List Int) : (fall q).Perm q := List.mergeSort_perm _ _
theorem fall_length (q : List Int) : (fall q).length = q.length := (fall_perm q).length_eq
theorem fall_mem {q : List Int} {x : Int} : x ∈ fall q ↔ x ∈ q := (fall_perm q).mem_iff
theorem fall_sorted (q : List Int) : (fall q).Pairwise fun x y => y ≤ x := by
  have h := List.pairwise_mergeSort (le := fun x y : Int => decide (y ≤ x)) (by intro a b c; simp; omega) (by intro a b; simp; omega) q
  exact h.imp (by simp)
theorem fall_unique {l q : List Int} (hs : l.Pairwise fun x y => y ≤ x) (hp : l.Perm q) : l = fall q :=
  List.Perm.eq_of_pairwise (le := fun x y : Int => y ≤ x) (fun a b _ _ h1 h2 => by omega) hs (fall_sorted q) (hp.trans (fall_perm q).symm)
theorem fall_nums {q : List Int} (h : isNums q = true) : isNums (fall q) = true := by
  refine isNums_of (by rw [fall_length]; exact isNums_len h) fun k x _ hx => ?_
  have := isNums_mem h x (fall_mem.1 (List.mem_of_getElem? hx))
  rw [fall_length]
  exact this

/-- the numbers from n down, j of them, each as often as it is in the list -/
def blockI (q : List Int) (x : Int) : List Int := q.filter fun y => decide (x = y)
def descI (q : List Int) (n j : Nat) : List Int := (List.range j).flatMap fun i : Nat => blockI q ((n : Int) - (i : Int))
theorem descI_zero (q : List Int) (n : Nat) : descI q n 0 = [] := rfl
theorem descI_next (q : List Int) (n j : Nat) : descI q n (j + 1) = descI q n j ++ blockI q ((n : Int) - j) := by
  unfold descI
  rw [List.range_succ, List.flatMap_append]
  simp
theorem blockI_snoc (q : List Int) (x y : Int) : blockI (q ++ [y]) x = blockI q x ++ if x = y then [y] else [] := by
  unfold blockI
  rw [List.filter_append]
  congr 1
  by_cases h : x = y
  · rw [if_pos h, List.filter_cons_of_pos (by simpa using h)]; rfl
  · rw [if_neg h, List.filter_cons_of_neg (by simpa using h)]; rfl
theorem mem_blockI {q : List Int} {x y : Int} : y ∈ blockI q x ↔ y ∈ q ∧ x = y := by simp [blockI]
theorem mem_descI {q : List Int} {n j : Nat} {y : Int} : y ∈ descI q n j ↔ y ∈ q ∧ (n : Int) - j < y ∧ y ≤ n := by
  simp only [descI, List.mem_flatMap, List.mem_range, mem_blockI]
  constructor
  · rintro ⟨i, hi, hy, rfl⟩; exact ⟨hy, by omega, by omega⟩
  · rintro ⟨hy, h1, h2⟩; exact ⟨((n : Int) - y).toNat, by omega, hy, by omega⟩
theorem descI_sorted (q : List Int) (n j : Nat) : (descI q n j).Pairwise fun x y => y ≤ x := by
  induction j with
  | zero => exact List.Pairwise.nil
  | succ j ih =>
    rw [descI_next, List.pairwise_append]
    refine ⟨ih, ?_, fun a ha b hb => ?_⟩
    · rw [List.pairwise_iff_getElem]
      intro a b ha hb _
      have h1 := (mem_blockI.1 (List.getElem_mem ha)).2
      have h2 := (mem_blockI.1 (List.getElem_mem hb)).2
      omega
    · have h1 := mem_descI.1 ha
      have h2 := (mem_blockI.1 hb).2
      omega
theorem count_blockI (q : List Int) (x y : Int) : (blockI q x).count y = if x = y then q.count y else 0 := by
  unfold blockI
  by_cases h : x = y
  · subst h
    rw [if_pos rfl, List.count_filter (by simp)]
  · rw [if_neg h, List.count_eq_zero]
    intro hm
    exact h (by simpa using (List.mem_filter.1 hm).2)
theorem count_descI (q : List Int) (n j : Nat) (y : Int) : (descI q n j).count y = if (n : Int) - j < y ∧ y ≤ n then q.count y else 0 := by
  induction j with
  | zero => rw [descI_zero, if_neg (by omega)]; rfl
  | succ j ih =>
    rw [descI_next, List.count_append, ih, count_blockI]
    by_cases h1 : (n : Int) - j = y
    · rw [if_pos h1, if_neg (by omega), if_pos (by omega), Nat.zero_add]
    · rw [if_neg h1, Nat.add_zero]
      by_cases h2 : (n : Int) - j < y ∧ y ≤ n
      · rw [if_pos h2, if_pos (by omega)]
      · rw [if_neg h2, if_neg (by omega)]
theorem descI_fall {q : List Int} (h : isNums q = true) : descI q q.length (q.length + 1) = fall q := by
  refine fall_unique (descI_sorted _ _ _) (List.perm_iff_count.2 fun y => ?_)
  rw [count_descI]
  split
  · rfl
  · rename_i hn
    symm
    rw [List.count_eq_zero]
    intro hy
    have := isNums_mem h y hy
    omega
theorem descI_le (q : List Int) (n j : Nat) : (descI q n j).length ≤ j * q.length := by
  induction j with
  | zero => simp [descI_zero]
  | succ j ih =>
    rw [descI_next, List.length_append, Nat.add_mul, Nat.one_mul]
    have : (blockI q ((n : Int) - j)).length ≤ q.length := List.length_filter_le _ _
    omega
theorem blockI_le (q : List Int) (x : Int) : (blockI q x).length ≤ q.length := List.length_filter_le _ _

/-! ## Sums -/
def sumI (q : List Int) : Int := q.foldl (· + ·) 0
theorem sumI_snoc (q : List Int) (x : Int) : sumI (q ++ [x]) = sumI q + x := by simp [sumI, List.foldl_append]
theorem sumI_nil : sumI [] = 0 := rfl
/-- a bound of the sum of a beginning -/
theorem sumI_take_bound {q : List Int} {m : Int} (hm : 0 ≤ m) (h : ∀ x ∈ q, 0 ≤ x ∧ x ≤ m) : ∀ k, 0 ≤ sumI (q.take k) ∧ sumI (q.take k) ≤ k * m := by
  intro k
  induction k with
  | zero => simp [sumI_nil]
  | succ k ih =>
    rw [List.take_add_one]
    have e : ((k + 1 : Nat) : Int) * m = k * m + m := by rw [Int.natCast_add, Int.add_mul]; simp
    rw [e]
    cases hx : q[k]? with
    | none => simp; omega
    | some x =>
      have := h x (List.mem_of_getElem? hx)
      rw [Option.toList_some, sumI_snoc]
      omega
theorem sumI_perm {q l : List Int} (h : q.Perm l) : sumI q = sumI l := by
  unfold sumI
  exact h.foldl_eq' (fun x _ y _ z => by omega) 0

/-! ## Where numbers fail -/
def minsI (k : Int) (q : List Int) : List Int := q.map fun x => if k < x then k else x
theorem minsI_snoc (k : Int) (q : List Int) (x : Int) : minsI k (q ++ [x]) = minsI k q ++ [if k < x then k else x] := by simp [minsI]
def mostI (s : List Int) (k : Nat) : Int := (k : Int) * (k - 1) + sumI (minsI k (s.drop k))
def failAt (s : List Int) (k : Nat) : Bool := decide (mostI s k < sumI (s.take k))
def failsI (s : List Int) : Int := match (List.range s.length).find? fun i => failAt s (i + 1) with | none => 0 | some i => (i : Int) + 1
theorem failsI_at {s : List Int} {k : Nat} (hk : k < s.length) (h : ∀ j, j < k → failAt s (j + 1) = false) (hf : failAt s (k + 1) = true) : failsI s = k + 1 := by
  have : (List.range s.length).find? (fun i => failAt s (i + 1)) = some k := by
    rw [List.find?_range_eq_some]
    exact ⟨hf, by simpa using hk, fun j hj => by simp [h j hj]⟩
  unfold failsI
  rw [this]
theorem failsI_none {s : List Int} (h : ∀ j, j < s.length → failAt s (j + 1) = false) : failsI s = 0 := by
  have : (List.range s.length).find? (fun i => failAt s (i + 1)) = none := by
    rw [List.find?_range_eq_none]
    intro j hj
    simp [h j hj]
  unfold failsI
  rw [this]
theorem failsI_range (s : List Int) : 0 ≤ failsI s ∧ failsI s ≤ s.length := by
  unfold failsI
  split
  · omega
  · rename_i i hi
    have := List.mem_of_find?_eq_some hi
    rw [List.mem_range] at this
    omega
theorem minsI_bound {s : List Int} {m k : Int} (hk : 0 ≤ k) (h : ∀ x ∈ s, 0 ≤ x ∧ x ≤ m) : ∀ x ∈ minsI k s, 0 ≤ x ∧ x ≤ m := by
  intro x hx
  obtain ⟨y, hy, rfl⟩ := List.mem_map.1 hx
  have := h y hy
  split <;> omega
/-- they can be -/
def canI (q : List Int) : Bool := decide (sumI q % 2 = 0) && decide (failsI (fall q) = 0)
end Go.Proofs.Ytmiecebdkadhbaa
/-
  NUMBERS OF FRIENDS: what they are, by the model's and the program's contracts.
-/
namespace Go.Proofs.Ytmiecebdkadhbaa
open Go.RowKit

def l1AllB (q : List Int) (lo hi : Int) : Bool := q.all fun x => decide (lo ≤ x ∧ x ≤ hi)
theorem l1AllB_yes {q : List Int} {lo hi : Int} (h : ∀ (j : Nat) (x : Int), j < q.length → q[j]? = some x → lo ≤ x ∧ x ≤ hi) : l1AllB q lo hi = true := by
  simp only [l1AllB, List.all_eq_true, decide_eq_true_eq]
  intro x hx
  obtain ⟨i, hi, rfl⟩ := List.getElem_of_mem hx
  exact h i _ hi (List.getElem?_eq_getElem hi)
theorem l1AllB_no {q : List Int} {lo hi : Int} {k : Nat} {x : Int} (hx : q[k]? = some x) (h : ¬ (lo ≤ x ∧ x ≤ hi)) : l1AllB q lo hi = false := by
  cases he : l1AllB q lo hi with
  | false => rfl
  | true =>
    simp only [l1AllB, List.all_eq_true, decide_eq_true_eq] at he
    exact absurd (he x (List.mem_of_getElem? hx)) h

set_option maxHeartbeats 1000000 in
theorem l1All_any (q : List Int) (A : Option Addr) (c : Nat) (lo hi : Int) (w : World) (hl : q.length ≤ 1048576) (hA : CRead w w.heap.size A (icells q)) :
    Calls Try.prog 67 #[.slice A q.length c, .int .i64 lo, .int .i64 hi] w fun e w' => e = .returned (.bool (l1AllB q lo hi)) ∧ w = w' := by
  go_enter Try.func67, Try.ntmps67
  go_wp2
  go_loop [11] (fun i => ∃ k : Nat, k ≤ q.length ∧ i = .int .i64 k ∧ ∀ (j : Nat) (x : Int), j < k → q[j]? = some x → lo ≤ x ∧ x ≤ hi) (fun i => q.length - (intOf i).toNat)
  case atStart => exact ⟨0, Nat.zero_le _, rfl, fun j x hj => by omega⟩
  case round =>
    obtain ⟨k, hk, rfl, hg⟩ := hrel
    have Hg := Lib.hid hg
    clear hg
    by_cases hlt : k < q.length
    · obtain ⟨x, hx⟩ := getSome q k hlt
      obtain ⟨b, off, rfl, hbb, c0⟩ := hA.int hx
      have hki : (k : Int) < (q.length : Int) := by omega
      have Hx := Lib.hid hx
      clear hx
      by_cases hin : lo ≤ x ∧ x ≤ hi
      · go_wp2_with (go_at_call 68; refine (l1In_yes _ _ _ hin.1 hin.2 _).mono ?_; rintro e w' ⟨rfl, rfl⟩)
        go_round
        case rel =>
          refine ⟨k + 1, by omega, by go_num, fun j y hj hy => ?_⟩
          by_cases hjk : j = k
          · subst hjk
            rw [Hx.out] at hy
            simp only [Option.some.injEq] at hy
            subst hy
            exact hin
          · exact Hg.out j y (by omega) hy
        case measure => simp [intOf]; omega
      · have e : l1AllB q lo hi = false := l1AllB_no Hx.out hin
        have He := Lib.hid e
        clear e
        go_wp2_with (go_at_call 68; refine (l1In_no _ _ _ (by omega) _).mono ?_; rintro e w' ⟨rfl, rfl⟩)
        go_ret
        exact ⟨by rw [He.out]; rfl, rfl⟩
    · have hkl : k = q.length := by omega
      have e : l1AllB q lo hi = true := l1AllB_yes fun j x hj hx => Hg.out j x (by omega) hx
      have He := Lib.hid e
      clear e
      have hge : ¬ ((k : Int) < (q.length : Int)) := by omega
      go_wp2
      go_ret
      exact ⟨by rw [He.out]; rfl, rfl⟩

theorem isNums_all {q : List Int} (h : q.length ≤ 12) : l1AllB q 0 ((q.length : Int) - 1) = isNums q := by
  unfold l1AllB isNums
  rw [decide_eq_true h, Bool.true_and]
  congr 1
  funext x
  congr 1
  apply propext
  omega

def resIsNumbers (q : List Int) : Bool := isNums q
/-! ## Sums -/
/-! ## Sorted so that they are falling: the model's -/
end Go.Proofs.Ytmiecebdkadhbaa
/-
  'GreedyColouring' of the model, by its contract.
-/
namespace Go.Proofs.Ytmiecebdkadhbaa
open Go.RowKit

set_option maxHeartbeats 4000000 in
set_option maxRecDepth 100000 in
theorem grOrder_any (n : Nat) (q : List Int) (B : Option Addr) (d : Nat) (w : World) (hn : n ≤ 12) (hq : q.length ≤ 1048576) (hd : q.length ≤ d) (hB : CRead w w.heap.size B (icells q)) :
    Calls Try.prog 55 #[.int .i64 n, .slice B q.length d] w fun e w' => e = .returned (.bool (isNamingI n q)) ∧ w = w' := by
  obtain ⟨r, hr⟩ : ∃ r, isNamingI n q = r := ⟨_, rfl⟩
  rw [hr]
  have Hr := Lib.hid hr
  by_cases hlen : (q.length : Int) = n
  · have hb : ((q.length : Int) == (n : Int)) = true := beq_iff_eq.2 hlen
    have hb2 : ((q.length : Int) != (n : Int)) = false := by simp [hlen]
    have hln : q.length = n := by omega
    cases hall : l1AllB q 0 ((n : Int) - 1) with
    | false =>
      have hf : r = false := by
        rw [← hr]
        cases e : isNamingI n q with
        | false => rfl
        | true =>
          obtain ⟨_, h2, _⟩ := isNamingI_parts e
          unfold l1AllB at hall
          rw [List.all_eq_false] at hall
          obtain ⟨x, hx, hx2⟩ := hall
          have := h2 x hx
          simp at hx2
          omega
      subst hf
      have Hall := Lib.hid hall
      clear hr hall hlen hln
      go_enter Try.func55, Try.ntmps55
      go_wp2_with fail
      refine (l1All_any q B d 0 ((n : Int) - 1) _ hq hB).mono ?_
      rw [Hall.out]
      rintro e w2 ⟨rfl, rfl⟩
      go_wp2
      go_ret
      exact ⟨rfl, rfl⟩
    | true =>
      have hmem : ∀ x ∈ q, 0 ≤ x ∧ x < n := fun x hx => by
        unfold l1AllB at hall
        have := List.all_eq_true.1 hall x hx
        simp at this
        omega
      have Hall := Lib.hid hall
      have Hmem := Lib.hid hmem
      have Hlen := Lib.hid hlen
      clear hr hall hmem hlen hln
      go_enter Try.func55, Try.ntmps55
      go_wp2_with fail
      refine (l1All_any q B d 0 ((n : Int) - 1) _ hq hB).mono ?_
      rw [Hall.out]
      rintro e w2 ⟨rfl, rfl⟩
      go_wp2
      go_loop [20] (fun i => ∃ k : Nat, k ≤ q.length ∧ i = .int .i64 k ∧ ∀ (j : Nat) (x : Int), j < k → q[j]? = some x → x ∉ q.take j) (fun i => q.length - (intOf i).toNat)
      case atStart => exact ⟨0, Nat.zero_le _, rfl, fun j x hj => by omega⟩
      case round =>
        obtain ⟨k, hk, rfl, hg⟩ := hrel
        have Hg := Lib.hid hg
        clear hg
        by_cases hlt : k < q.length
        · obtain ⟨x, hx⟩ := getSome q k hlt
          obtain ⟨b, off, rfl, hbb, u0⟩ := hB.int hx
          have hki : (k : Int) < (q.length : Int) := by omega
          have hkd : (k : Int) ≤ (d : Int) := by omega
          have hkd2 : k ≤ d := by omega
          have hlk : (q.take k).length = k := by rw [List.length_take]; omega
          have call := l1Has_any (q.take k) x (some ⟨b, off, none⟩) d w (by omega) (hB.front k)
          rw [hlk] at call
          have Call := Lib.hid call
          have Hx := Lib.hid hx
          clear hx call hlk
          cases hh : hasI (q.take k) x with
          | true =>
            have hf : r = false := by rw [← Hr.out]; exact isNamingI_dup Hx.out (hasI_mem.1 hh)
            subst hf
            have Hh := Lib.hid hh
            clear hh
            go_wp2_with fail
            refine Call.out.mono ?_
            rw [Hh.out]
            rintro e w5 ⟨rfl, rfl⟩
            go_wp2
            go_ret
            exact ⟨rfl, rfl⟩
          | false =>
            have Hnm := Lib.hid (show x ∉ q.take k from fun hm => by rw [hasI_mem.2 hm] at hh; cases hh)
            have Hh := Lib.hid hh
            clear hh
            go_wp2_with fail
            refine Call.out.mono ?_
            rw [Hh.out]
            rintro e w5 ⟨rfl, rfl⟩
            go_wp2
            go_round
            case rel => exact ⟨k + 1, by omega, by go_num, fun j y hj hy => by
                          by_cases e : j = k
                          · subst e
                            rw [Hx.out] at hy
                            rw [← Option.some.inj hy]
                            exact Hnm.out
                          · exact Hg.out j y (by omega) hy⟩
            case measure => simp [intOf]; omega
        · have hkl : k = q.length := by omega
          have hge : ¬ ((k : Int) < (q.length : Int)) := by omega
          have ht : r = true := by
            rw [← Hr.out]
            exact isNamingI_of Hlen.out fun j x hj hx => ⟨Hmem.out x (List.mem_of_getElem? hx), Hg.out j x (by omega) hx⟩
          subst ht
          go_wp2
          go_ret
          exact ⟨rfl, rfl⟩
  · have hb : ((q.length : Int) == (n : Int)) = false := by simp only [beq_eq_false_iff_ne, ne_eq]; exact hlen
    have hb2 : ((q.length : Int) != (n : Int)) = true := by simp [hlen]
    have hf : r = false := by rw [← hr]; exact isNamingI_len hlen
    subst hf
    clear hr hlen
    go_enter Try.func55, Try.ntmps55
    go_wp2
    go_ret
    exact ⟨rfl, rfl⟩
end Go.Proofs.Ytmiecebdkadhbaa
