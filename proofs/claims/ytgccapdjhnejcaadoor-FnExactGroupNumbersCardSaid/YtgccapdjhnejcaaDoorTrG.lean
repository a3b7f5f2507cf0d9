/-
  THE MODEL's GROUPS OF A SIZE ('spec.trGroups'), by its contract: induction on how many are still to come.
-/
import Derived.Test.YtgccapdjhnejcaaDoorLRows
import Derived.Test.YtgccapdjhnejcaaDoorGroupS
import Derived.Test.YtgccapdjhnejcaaDoorCountT
namespace Go.Proofs.YtgccapdjhnejcaaDoor
open Go.RowKit

theorem candR_set {t : Nat → Nat → Bool} {n : Nat} (hn : n ≤ 12) (q : List Int) (a : Nat) : (candR t n q a).length ≤ 12 := by
  unfold candR
  refine Nat.le_trans (List.length_filter_le _ _) ?_
  simp only [List.length_range']
  omega
theorem lists_candR {t : Nat → Nat → Bool} {n k : Nat} (hn : n ≤ 12) (q : List Int) (a : Nat) : (listsC t k q (candR t n q a)).length ≤ 4096 := by
  have h1 := listsC_length_le t k q (candR t n q a)
  have h2 : 2 ^ (candR t n q a).length ≤ 2 ^ 12 := Nat.pow_le_pow_right (by omega) (candR_set hn q a)
  omega
theorem Tryd.infoIntsG : (Tryd.prog.info? 25).map (fun i => (i.zero, i.size, i.bytes)) = some (some (.slice none 0 0), 1, 24) := by kernel_rfl

set_option maxHeartbeats 4000000 in
set_option maxRecDepth 100000 in
theorem trGroups_any (n : Nat) (hn : n ≤ 12) (t : Nat → Nat → Bool) (hsym : ∀ i j, t i j = t j i) (At : Option Addr) (ct : Nat) (G : Nat → Nat) (B0 : Nat) : ∀ (need : Nat) (q : List Int) (A : Option Addr) (c : Nat) (w : World),
    TabG w B0 (.slice At n ct) n n G t → (∀ x ∈ q, 0 ≤ x ∧ x < n) → q.length + need ≤ 100 → CRead w w.heap.size A (icells q) → (q = [] → A = none ∧ c = 0) →
    Calls Tryd.prog 76 #[.slice At n ct, .slice A q.length c, .int .i64 ((q.length + need : Nat) : Int)] w (GotLL w (listsC t need q (candR t n q (fromQ q)))) := by
  obtain ⟨i0, hi, hz0, hz1, hz2⟩ := info_parts Tryd.infoInt
  obtain ⟨i1, hj, hy0, hy1, hy2⟩ := info_parts Tryd.infoIntsG
  intro need
  induction need with
  | zero =>
    intro q A c w tab hq h100 hA hnil
    rw [listsC_zero]
    have hown := l1Own_all q A c w (by omega) hA hnil
    have Hown := Lib.hid hown
    clear hown tab
    rw [Nat.add_zero]
    go_enter Tryd.func76, Tryd.ntmps76
    go_wp2_with fail
    refine Hown.out.mono ?_
    rintro e w1 ⟨A1, c1, rfl, own1, hb1⟩
    go_wp2
    go_ret
    refine ⟨_, _, [.slice A1 q.length c1], rfl, ⟨?_, fun i l hl => ?_, fun e => by simp at e⟩, hb1.alloc hb1.size _⟩
    · refine ⟨by simp, .inr ⟨w1.heap.size, 1, #[.slice A1 q.length c1], rfl, hb1.size, heap_alloc_new w1 _, by simp, by simp [maxLen], by simp, by simp⟩⟩
    · match i, hl with
      | 0, hl =>
        simp at hl
        subst hl
        exact ⟨A1, c1, by simp, own_below own1 ((Below.refl _ w1).alloc (Nat.le_refl _) _) (Nat.le_refl _)⟩
  | succ need ih =>
    intro q A c w tab hq h100 hA hnil
    obtain ⟨L, hL⟩ : ∃ L, listsC t (need + 1) q (candR t n q (fromQ q)) = L := ⟨_, rfl⟩
    have hL4096 := lists_candR (t := t) (k := need + 1) hn q (fromQ q)
    rw [hL] at hL4096 ⊢
    obtain ⟨sz, hsz⟩ : ∃ sz : Int, ((q.length + (need + 1) : Nat) : Int) = sz := ⟨_, rfl⟩
    have hne : ((q.length : Int) == sz) = false := by simp only [beq_eq_false_iff_ne, ne_eq]; omega
    rw [hsz]
    have HSZ := Lib.hid hsz
    clear hsz
    have Tab := Lib.hid tab
    have Hq := Lib.hid hq
    rcases List.eq_nil_or_concat q with hq0 | ⟨q', x, hqx⟩
    · obtain ⟨rfl, rfl⟩ := hnil hq0
      subst hq0
      have HL := Lib.hid (show listsC t (need + 1) [] (candR t n [] 0) = L from hL)
      clear hL tab hq hnil
      generalize hqq : ([] : List Int) = q at *
      have hq0 : ¬ (0 : Int) < (q.length : Int) := by rw [← hqq]; simp
      go_enter Tryd.func76, Tryd.ntmps76
      go_wp2
      go_loopw [8, 9] (fun v i wr => ∃ (a : Nat) (done : List (List Int)) (hs : List Value), a ≤ n ∧ i = .int .i64 a ∧ L = done ++ listsC t (need + 1) q (candR t n q a) ∧ LRows wr w.heap.size v done hs ∧ Below w.heap.size w wr) (fun _ i _ => n - (intOf i).toNat)
      case atStart => exact ⟨0, [], [], by omega, by go_num, by rw [HL.out]; rfl, LRows.none _ _, Below.refl _ _⟩
      case round =>
        obtain ⟨a, done, hs, han, rfl, hL, rows, hb⟩ := hrel
        have s0 := hb.size
        have hLl := congrArg List.length hL
        rw [List.length_append] at hLl
        have HL' := Lib.hid hL
        clear hL
        by_cases hlt : a < n
        · have hai : (a : Int) < n := by omega
          go_wp2_with fail
          refine (trKnows_any n a t At ct G B0 q none 0 _ hn hlt (Tab.out.below hb (Nat.le_refl _)) Hq.out (by omega) ((hA.below hb (Nat.le_refl _)).more s0)).mono ?_
          rintro e w1 ⟨rfl, rfl⟩
          cases hk : (q.all fun y => t a y.toNat) with
          | false =>
            have Hk := Lib.hid hk
            clear hk
            go_wp2
            go_roundw
            case rel => exact ⟨a + 1, done, hs, by omega, by go_num, by rw [HL'.out, candR_no hlt Hk.out], rows, hb⟩
            case measure => simp [intOf]; omega
          | true =>
            have Hk := Lib.hid hk
            clear hk
            go_wp2_with fail
            refine (l1Own_all q none 0 _ (by omega) ((hA.below hb (Nat.le_refl _)).more s0) (fun _ => ⟨rfl, rfl⟩)).mono ?_
            rintro e w2 ⟨A2, c2, rfl, own2, hb2⟩
            have s2 := hb2.size
            go_wp2_with (at_builtin; refine wpList_append_own _ rfl _ _ 25 rfl wr.heap.size 3 i0 _ 1 8 Tryd.underlying25 hi hz0 hz1 hz2 rfl (by decide) _ _ _ rfl (own2.alloc _) ⟨w2.heap.size, 0, none⟩ 1 1 [.int .i64 a] rfl rfl (one_cell (by simp)) (one_one rfl) (by unfold maxLen; omega) (by omega) (by simp; omega) ?_; intro v3 w3 own3 gr3 _; obtain ⟨A3, c3, rfl, _⟩ := own_shape own3)
            have hb3 : Below wr.heap.size wr w3 := (hb2.alloc s2 _).grown gr3 (by simp; omega) (fun k hk => (own2.lt k hk).1)
            have s3 := hb3.size
            have k3 := hb.trans (hb3.mono s0)
            have hll : (q ++ [(a : Int)]).length = q.length + 1 := by simp
            have ihc := ih (q ++ [(a : Int)]) A3 c3 w3 (Tab.out.below k3 (Nat.le_refl _)) (fun x hx => by rcases List.mem_append.1 hx with h | h; exact Hq.out x h; simp at h; omega) (by rw [hll]; omega) (by rw [icells_append]; exact CRead.of_own own3) (fun e => by simp at e)
            rw [← candR_tied hsym, hll, show q.length + 1 + need = q.length + (need + 1) from by omega, HSZ.out] at ihc
            have e1 := candR_yes hlt Hk.out
            have hL2 := HL'.out
            rw [e1, listsC_cons, ← List.append_assoc] at hL2
            obtain ⟨L4, hL4⟩ : ∃ L4, listsC t need (q ++ [(a : Int)]) ((candR t n q (a + 1)).filter (t a)) = L4 := ⟨_, rfl⟩
            rw [hL4] at ihc hL2
            have hl4 := congrArg List.length hL2
            simp only [List.length_append] at hl4
            have HL2 := Lib.hid hL2
            have rows3 := rows.below (hb3.mono (Nat.le_refl _))
            have IHC := Lib.hid ihc
            clear ihc e1 hL4 hL2 own2 own3 gr3 rows hLl HL'
            go_wp2_with fail
            refine IHC.out.mono ?_
            rintro e w4 ⟨A4, c4, hs4, rfl, rows4, hb4⟩
            have s4 := hb4.size
            have k4 := k3.trans (hb4.mono k3.size)
            have rows3' := rows3.below hb4
            have rows4' := rows4.lower (B' := w.heap.size) (by omega)
            clear rows3 rows4 IHC
            by_cases hz4 : L4 = []
            · have e4 := rows4'.nil hz4
              subst hz4
              simp only [List.length_nil, Value.slice.injEq, true_and] at e4
              obtain ⟨rfl, rfl⟩ := e4
              go_wp2_with (at_builtin; refine wpList_append_own_none rfl _ _ 48 rfl w.heap.size 25 i1 1 Tryd.underlying48 hj _ done.length hs rfl rows3'.own rfl ?_)
              go_roundw
              case rel => exact ⟨a + 1, done, hs, by omega, by go_num, by rw [HL2.out, List.append_nil], rows3', k4⟩
              case measure => simp [intOf]; omega
            · have hp4 : 0 < L4.length := by cases L4 with | nil => exact absurd rfl hz4 | cons x y => simp
              obtain ⟨g4, rfl⟩ := own_form rows4'.own hp4
              have rd4 := CRead.of_own rows4'.own
              have hc4 : ∀ j u, hs4[j]? = some u → w4.cell? ((⟨g4, 0, none⟩ : Addr).add j) = some u := fun j u hj => by
                obtain ⟨b, off, e, _, hcell⟩ := rd4 j u hj
                simp only [Option.some.injEq, Addr.mk.injEq, and_true] at e
                obtain ⟨rfl, rfl⟩ := e
                rw [Addr.add_lit]
                exact hcell
              go_wp2_with (at_builtin; refine wpList_append_own _ rfl _ _ 48 rfl w.heap.size 25 i1 _ 1 24 Tryd.underlying48 hj hy0 hy1 hy2 rfl (by decide) _ _ _ rfl rows3'.own ⟨g4, 0, none⟩ L4.length c4 hs4 rfl (by rw [rows4'.length, Nat.mul_one]) hc4 rows4'.one (by unfold maxLen; omega) (by omega) (by omega) ?_; intro v5 w5 own5 gr5 _; obtain ⟨A5, c5, rfl, _⟩ := own_shape own5)
              have rows5 := rows3'.append rows4' own5 gr5 hz4
              have k5 := k4.grown gr5 (by omega) (fun k hk => (rows3'.own.lt k hk).1)
              go_roundw
              case rel => exact ⟨a + 1, _, _, by omega, by go_num, HL2.out, rows5, k5⟩
              case measure => simp [intOf]; omega
        · have hal : a = n := by omega
          subst hal
          have hge : ¬ ((a : Int) < a) := by omega
          have e := HL'.out
          rw [candR_end _ _ _ (Nat.le_refl _), listsC_nil, List.append_nil] at e
          obtain ⟨A5, c5, rfl, _⟩ := own_shape rows.own
          have HE := Lib.hid e
          clear e HL'
          go_wp2
          go_ret
          rw [HE.out]
          exact ⟨A5, c5, hs, rfl, rows, hb⟩
    · have hx : q[q.length - 1]? = some x := by rw [hqx]; simp
      have hxn := hq x (List.mem_of_getElem? hx)
      have hqpos : 0 < q.length := by rw [hqx]; simp
      have hfrom : fromQ q = x.toNat + 1 := by rw [hqx]; unfold fromQ; simp
      obtain ⟨y, rfl⟩ : ∃ y : Nat, x = y := ⟨x.toNat, by omega⟩
      rw [Int.toNat_natCast] at hfrom
      rw [hfrom] at hL
      have HL := Lib.hid hL
      have hqi : (0 : Int) < (q.length : Int) := by omega
      have hq1 : (0 : Int) ≤ (q.length : Int) - 1 := by omega
      have hq2 : ((q.length : Int) - 1).toNat = q.length - 1 := by omega
      obtain ⟨b, off, rfl, hbb, cx⟩ := hA.int hx
      clear hL tab hq hqx hfrom hx
      have Hqpos := Lib.hid hqpos
      go_enter Tryd.func76, Tryd.ntmps76
      go_wp2
      clear hqi hq1 hq2 cx
      go_loopw [8, 9] (fun v i wr => ∃ (a : Nat) (done : List (List Int)) (hs : List Value), a ≤ n ∧ i = .int .i64 a ∧ L = done ++ listsC t (need + 1) q (candR t n q a) ∧ LRows wr w.heap.size v done hs ∧ Below w.heap.size w wr) (fun _ i _ => n - (intOf i).toNat)
      case atStart => exact ⟨y + 1, [], [], by omega, by go_num, by rw [HL.out]; rfl, LRows.none _ _, Below.refl _ _⟩
      case round =>
        obtain ⟨a, done, hs, han, rfl, hL, rows, hb⟩ := hrel
        have s0 := hb.size
        have hLl := congrArg List.length hL
        rw [List.length_append] at hLl
        have HL' := Lib.hid hL
        clear hL
        by_cases hlt : a < n
        · have hai : (a : Int) < n := by omega
          go_wp2_with fail
          refine (trKnows_any n a t At ct G B0 q (some ⟨b, off, none⟩) c _ hn hlt (Tab.out.below hb (Nat.le_refl _)) Hq.out (by omega) ((hA.below hb (Nat.le_refl _)).more s0)).mono ?_
          rintro e w1 ⟨rfl, rfl⟩
          cases hk : (q.all fun y => t a y.toNat) with
          | false =>
            have Hk := Lib.hid hk
            clear hk
            go_wp2
            go_roundw
            case rel => exact ⟨a + 1, done, hs, by omega, by go_num, by rw [HL'.out, candR_no hlt Hk.out], rows, hb⟩
            case measure => simp [intOf]; omega
          | true =>
            have Hk := Lib.hid hk
            clear hk
            go_wp2_with fail
            refine (l1Own_all q (some ⟨b, off, none⟩) c _ (by omega) ((hA.below hb (Nat.le_refl _)).more s0) (fun e => by have h := Hqpos.out; rw [e] at h; simp at h)).mono ?_
            rintro e w2 ⟨A2, c2, rfl, own2, hb2⟩
            have s2 := hb2.size
            go_wp2_with (at_builtin; refine wpList_append_own _ rfl _ _ 25 rfl wr.heap.size 3 i0 _ 1 8 Tryd.underlying25 hi hz0 hz1 hz2 rfl (by decide) _ _ _ rfl (own2.alloc _) ⟨w2.heap.size, 0, none⟩ 1 1 [.int .i64 a] rfl rfl (one_cell (by simp)) (one_one rfl) (by unfold maxLen; omega) (by omega) (by simp; omega) ?_; intro v3 w3 own3 gr3 _; obtain ⟨A3, c3, rfl, _⟩ := own_shape own3)
            have hb3 : Below wr.heap.size wr w3 := (hb2.alloc s2 _).grown gr3 (by simp; omega) (fun k hk => (own2.lt k hk).1)
            have s3 := hb3.size
            have k3 := hb.trans (hb3.mono s0)
            have hll : (q ++ [(a : Int)]).length = q.length + 1 := by simp
            have ihc := ih (q ++ [(a : Int)]) A3 c3 w3 (Tab.out.below k3 (Nat.le_refl _)) (fun x hx => by rcases List.mem_append.1 hx with h | h; exact Hq.out x h; simp at h; omega) (by rw [hll]; omega) (by rw [icells_append]; exact CRead.of_own own3) (fun e => by simp at e)
            rw [← candR_tied hsym, hll, show q.length + 1 + need = q.length + (need + 1) from by omega, HSZ.out] at ihc
            have e1 := candR_yes hlt Hk.out
            have hL2 := HL'.out
            rw [e1, listsC_cons, ← List.append_assoc] at hL2
            obtain ⟨L4, hL4⟩ : ∃ L4, listsC t need (q ++ [(a : Int)]) ((candR t n q (a + 1)).filter (t a)) = L4 := ⟨_, rfl⟩
            rw [hL4] at ihc hL2
            have hl4 := congrArg List.length hL2
            simp only [List.length_append] at hl4
            have HL2 := Lib.hid hL2
            have rows3 := rows.below (hb3.mono (Nat.le_refl _))
            have IHC := Lib.hid ihc
            clear ihc e1 hL4 hL2 own2 own3 gr3 rows hLl HL'
            go_wp2_with fail
            refine IHC.out.mono ?_
            rintro e w4 ⟨A4, c4, hs4, rfl, rows4, hb4⟩
            have s4 := hb4.size
            have k4 := k3.trans (hb4.mono k3.size)
            have rows3' := rows3.below hb4
            have rows4' := rows4.lower (B' := w.heap.size) (by omega)
            clear rows3 rows4 IHC
            by_cases hz4 : L4 = []
            · have e4 := rows4'.nil hz4
              subst hz4
              simp only [List.length_nil, Value.slice.injEq, true_and] at e4
              obtain ⟨rfl, rfl⟩ := e4
              go_wp2_with (at_builtin; refine wpList_append_own_none rfl _ _ 48 rfl w.heap.size 25 i1 1 Tryd.underlying48 hj _ done.length hs rfl rows3'.own rfl ?_)
              go_roundw
              case rel => exact ⟨a + 1, done, hs, by omega, by go_num, by rw [HL2.out, List.append_nil], rows3', k4⟩
              case measure => simp [intOf]; omega
            · have hp4 : 0 < L4.length := by cases L4 with | nil => exact absurd rfl hz4 | cons x y => simp
              obtain ⟨g4, rfl⟩ := own_form rows4'.own hp4
              have rd4 := CRead.of_own rows4'.own
              have hc4 : ∀ j u, hs4[j]? = some u → w4.cell? ((⟨g4, 0, none⟩ : Addr).add j) = some u := fun j u hj => by
                obtain ⟨b, off, e, _, hcell⟩ := rd4 j u hj
                simp only [Option.some.injEq, Addr.mk.injEq, and_true] at e
                obtain ⟨rfl, rfl⟩ := e
                rw [Addr.add_lit]
                exact hcell
              go_wp2_with (at_builtin; refine wpList_append_own _ rfl _ _ 48 rfl w.heap.size 25 i1 _ 1 24 Tryd.underlying48 hj hy0 hy1 hy2 rfl (by decide) _ _ _ rfl rows3'.own ⟨g4, 0, none⟩ L4.length c4 hs4 rfl (by rw [rows4'.length, Nat.mul_one]) hc4 rows4'.one (by unfold maxLen; omega) (by omega) (by omega) ?_; intro v5 w5 own5 gr5 _; obtain ⟨A5, c5, rfl, _⟩ := own_shape own5)
              have rows5 := rows3'.append rows4' own5 gr5 hz4
              have k5 := k4.grown gr5 (by omega) (fun k hk => (rows3'.own.lt k hk).1)
              go_roundw
              case rel => exact ⟨a + 1, _, _, by omega, by go_num, HL2.out, rows5, k5⟩
              case measure => simp [intOf]; omega
        · have hal : a = n := by omega
          subst hal
          have hge : ¬ ((a : Int) < a) := by omega
          have e := HL'.out
          rw [candR_end _ _ _ (Nat.le_refl _), listsC_nil, List.append_nil] at e
          obtain ⟨A5, c5, rfl, _⟩ := own_shape rows.own
          have HE := Lib.hid e
          clear e HL'
          go_wp2
          go_ret
          rw [HE.out]
          exact ⟨A5, c5, hs, rfl, rows, hb⟩
end Go.Proofs.YtgccapdjhnejcaaDoor
