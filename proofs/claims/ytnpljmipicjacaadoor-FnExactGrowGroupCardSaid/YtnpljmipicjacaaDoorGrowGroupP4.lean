/-
  Texts put together for the claim of 'GrowGroup' (pack 4): GroupS, TrG, CountG, Threes, ThreesAt, Clone, Put, GrowP, GrLook.
-/
import Derived.Test.YtnpljmipicjacaaDoorGrowGroupP2
import Derived.Test.YtnpljmipicjacaaDoorGrowGroupP3
import Derived.Lib.SliceRun
import Derived.Deep.LoopGhost
import Derived.Deep.Slices
import Derived.WideShapes
import Derived.Laws.AppendOwnNone
import Derived.Deep.RegionLaw
import Derived.Deep.AppendLies
/-
  'IsGroup' of the model, by its contract.
-/
namespace Go.Proofs.YtnpljmipicjacaaDoor
open Go.RowKit

theorem getD_is {q : List Int} {k : Nat} {x : Int} (h : q[k]? = some x) : q.getD k 0 = x := by rw [List.getD_eq_getElem?_getD, h]; rfl

set_option maxHeartbeats 1000000 in
set_option maxRecDepth 100000 in
theorem trKnows_any (n a : Nat) (t : Nat → Nat → Bool) (A : Option Addr) (c : Nat) (G : Nat → Nat) (B : Nat) (q : List Int) (Bq : Option Addr) (d : Nat) (w : World) (hn : n ≤ 12) (ha : a < n) (tab : TabG w B (.slice A n c) n n G t)
    (hq : ∀ x ∈ q, 0 ≤ x ∧ x < n) (hlq : q.length ≤ 1048576) (hB : CRead w w.heap.size Bq (icells q)) :
    Calls Tryd.prog 78 #[.slice A n c, .slice Bq q.length d, .int .i64 a] w fun e w' => e = .returned (.bool (q.all fun y => t a y.toNat)) ∧ w = w' := by
  obtain ⟨g, rfl⟩ := own_form tab.own (by omega)
  have d0 := tab.outer ha
  have hai : (a : Int) < n := by omega
  go_enter Tryd.func78, Tryd.ntmps78
  go_wp2
  go_loop [11] (fun i => ∃ k : Nat, k ≤ q.length ∧ i = .int .i64 k ∧ ∀ (j : Nat) (x : Int), j < k → q[j]? = some x → t a x.toNat = true) (fun i => q.length - (intOf i).toNat)
  case atStart => exact ⟨0, Nat.zero_le _, rfl, fun j x hj => by omega⟩
  case round =>
    obtain ⟨k, hk, rfl, hg⟩ := hrel
    have Hg := Lib.hid hg
    clear hg
    by_cases hlt : k < q.length
    · obtain ⟨x, hx⟩ := getSome q k hlt
      obtain ⟨b, off, rfl, hbb, c0⟩ := hB.int hx
      have hx0 := hq x (List.mem_of_getElem? hx)
      obtain ⟨y, rfl⟩ : ∃ y : Nat, x = y := ⟨x.toNat, by omega⟩
      have hki : (k : Int) < (q.length : Int) := by omega
      have hyi : (y : Int) < n := by omega
      have d1 := tab.cell ha (show y < n by omega)
      have Hx := Lib.hid hx
      clear hx
      cases ht : t a y with
      | false =>
        have e : (q.all fun y => t a y.toNat) = false := by
          rw [List.all_eq_false]
          exact ⟨_, List.mem_of_getElem? Hx.out, by simp [ht]⟩
        have He := Lib.hid e
        rw [ht] at d1
        clear e ht
        go_wp2
        go_ret
        exact ⟨by rw [He.out]; rfl, rfl⟩
      | true =>
        rw [ht] at d1
        have Ht := Lib.hid ht
        clear ht
        go_wp2
        go_round
        case rel =>
          refine ⟨k + 1, by omega, by go_num, fun j z hj hz => ?_⟩
          by_cases hjk : j = k
          · subst hjk
            rw [Hx.out] at hz
            simp only [Option.some.injEq] at hz
            subst hz
            exact Ht.out
          · exact Hg.out j z (by omega) hz
        case measure => simp [intOf]; omega
    · have hkl : k = q.length := by omega
      have hge : ¬ ((k : Int) < (q.length : Int)) := by omega
      have e : (q.all fun y => t a y.toNat) = true := by
        rw [List.all_eq_true]
        intro x hx
        obtain ⟨j, hj, e⟩ := List.getElem_of_mem hx
        exact Hg.out j x (by omega) (by rw [List.getElem?_eq_getElem hj, e])
      have He := Lib.hid e
      clear e
      go_wp2
      go_ret
      exact ⟨by rw [He.out]; rfl, rfl⟩

end Go.Proofs.YtnpljmipicjacaaDoor
/-
  THE MODEL's GROUPS OF A SIZE ('spec.trGroups'), by its contract: induction on how many are still to come.
-/
namespace Go.Proofs.YtnpljmipicjacaaDoor
open Go.RowKit

theorem candR_set {t : Nat → Nat → Bool} {n : Nat} (hn : n ≤ 12) (q : List Int) (a : Nat) : (candR t n q a).length ≤ 12 := by
  unfold candR
  refine Nat.le_trans (List.length_filter_le _ _) ?_
  simp only [List.length_range']
  omega
theorem lists_candR {t : Nat → Nat → Bool} {n k : Nat} (hn : n ≤ 12) (q : List Int) (a : Nat) : (listsC t k q (candR t n q a)).length ≤ 4096 := by
  have h1 := listsC_length_le t k q (candR t n q a)
  have h2 : 2 ^ (candR t n q a).length ≤ 2 ^ 12 := Nat.pow_le_pow_right (by omega) (candR_set hn q a)
  omega
theorem Tryd.infoIntsG : (Tryd.prog.info? 25).map (fun i => (i.zero, i.size, i.bytes)) = some (some (.slice none 0 0), 1, 24) := by kernel_rfl

set_option maxHeartbeats 4000000 in
set_option maxRecDepth 100000 in
theorem trGroups_any (n : Nat) (hn : n ≤ 12) (t : Nat → Nat → Bool) (hsym : ∀ i j, t i j = t j i) (At : Option Addr) (ct : Nat) (G : Nat → Nat) (B0 : Nat) : ∀ (need : Nat) (q : List Int) (A : Option Addr) (c : Nat) (w : World),
    TabG w B0 (.slice At n ct) n n G t → (∀ x ∈ q, 0 ≤ x ∧ x < n) → q.length + need ≤ 100 → CRead w w.heap.size A (icells q) → (q = [] → A = none ∧ c = 0) →
    Calls Tryd.prog 57 #[.slice At n ct, .slice A q.length c, .int .i64 ((q.length + need : Nat) : Int)] w (GotLL w (listsC t need q (candR t n q (fromQ q)))) := by
  obtain ⟨i0, hi, hz0, hz1, hz2⟩ := info_parts Tryd.infoInt
  obtain ⟨i1, hj, hy0, hy1, hy2⟩ := info_parts Tryd.infoIntsG
  intro need
  induction need with
  | zero =>
    intro q A c w tab hq h100 hA hnil
    rw [listsC_zero]
    have hown := l1Own_all q A c w (by omega) hA hnil
    have Hown := Lib.hid hown
    clear hown tab
    rw [Nat.add_zero]
    go_enter Tryd.func57, Tryd.ntmps57
    go_wp2_with fail
    refine Hown.out.mono ?_
    rintro e w1 ⟨A1, c1, rfl, own1, hb1⟩
    go_wp2
    go_ret
    refine ⟨_, _, [.slice A1 q.length c1], rfl, ⟨?_, fun i l hl => ?_, fun e => by simp at e⟩, hb1.alloc hb1.size _⟩
    · refine ⟨by simp, .inr ⟨w1.heap.size, 1, #[.slice A1 q.length c1], rfl, hb1.size, heap_alloc_new w1 _, by simp, by simp [maxLen], by simp, by simp⟩⟩
    · match i, hl with
      | 0, hl =>
        simp at hl
        subst hl
        exact ⟨A1, c1, by simp, own_below own1 ((Below.refl _ w1).alloc (Nat.le_refl _) _) (Nat.le_refl _)⟩
  | succ need ih =>
    intro q A c w tab hq h100 hA hnil
    obtain ⟨L, hL⟩ : ∃ L, listsC t (need + 1) q (candR t n q (fromQ q)) = L := ⟨_, rfl⟩
    have hL4096 := lists_candR (t := t) (k := need + 1) hn q (fromQ q)
    rw [hL] at hL4096 ⊢
    obtain ⟨sz, hsz⟩ : ∃ sz : Int, ((q.length + (need + 1) : Nat) : Int) = sz := ⟨_, rfl⟩
    have hne : ((q.length : Int) == sz) = false := by simp only [beq_eq_false_iff_ne, ne_eq]; omega
    rw [hsz]
    have HSZ := Lib.hid hsz
    clear hsz
    have Tab := Lib.hid tab
    have Hq := Lib.hid hq
    rcases List.eq_nil_or_concat q with hq0 | ⟨q', x, hqx⟩
    · obtain ⟨rfl, rfl⟩ := hnil hq0
      subst hq0
      have HL := Lib.hid (show listsC t (need + 1) [] (candR t n [] 0) = L from hL)
      clear hL tab hq hnil
      generalize hqq : ([] : List Int) = q at *
      have hq0 : ¬ (0 : Int) < (q.length : Int) := by rw [← hqq]; simp
      go_enter Tryd.func57, Tryd.ntmps57
      go_wp2
      go_loopw [8, 9] (fun v i wr => ∃ (a : Nat) (done : List (List Int)) (hs : List Value), a ≤ n ∧ i = .int .i64 a ∧ L = done ++ listsC t (need + 1) q (candR t n q a) ∧ LRows wr w.heap.size v done hs ∧ Below w.heap.size w wr) (fun _ i _ => n - (intOf i).toNat)
      case atStart => exact ⟨0, [], [], by omega, by go_num, by rw [HL.out]; rfl, LRows.none _ _, Below.refl _ _⟩
      case round =>
        obtain ⟨a, done, hs, han, rfl, hL, rows, hb⟩ := hrel
        have s0 := hb.size
        have hLl := congrArg List.length hL
        rw [List.length_append] at hLl
        have HL' := Lib.hid hL
        clear hL
        by_cases hlt : a < n
        · have hai : (a : Int) < n := by omega
          go_wp2_with fail
          refine (trKnows_any n a t At ct G B0 q none 0 _ hn hlt (Tab.out.below hb (Nat.le_refl _)) Hq.out (by omega) ((hA.below hb (Nat.le_refl _)).more s0)).mono ?_
          rintro e w1 ⟨rfl, rfl⟩
          cases hk : (q.all fun y => t a y.toNat) with
          | false =>
            have Hk := Lib.hid hk
            clear hk
            go_wp2
            go_roundw
            case rel => exact ⟨a + 1, done, hs, by omega, by go_num, by rw [HL'.out, candR_no hlt Hk.out], rows, hb⟩
            case measure => simp [intOf]; omega
          | true =>
            have Hk := Lib.hid hk
            clear hk
            go_wp2_with fail
            refine (l1Own_all q none 0 _ (by omega) ((hA.below hb (Nat.le_refl _)).more s0) (fun _ => ⟨rfl, rfl⟩)).mono ?_
            rintro e w2 ⟨A2, c2, rfl, own2, hb2⟩
            have s2 := hb2.size
            go_wp2_with (at_builtin; refine wpList_append_own _ rfl _ _ 25 rfl wr.heap.size 3 i0 _ 1 8 Tryd.underlying25 hi hz0 hz1 hz2 rfl (by decide) _ _ _ rfl (own2.alloc _) ⟨w2.heap.size, 0, none⟩ 1 1 [.int .i64 a] rfl rfl (one_cell (by simp)) (one_one rfl) (by unfold maxLen; omega) (by omega) (by simp; omega) ?_; intro v3 w3 own3 gr3 _; obtain ⟨A3, c3, rfl, _⟩ := own_shape own3)
            have hb3 : Below wr.heap.size wr w3 := (hb2.alloc s2 _).grown gr3 (by simp; omega) (fun k hk => (own2.lt k hk).1)
            have s3 := hb3.size
            have k3 := hb.trans (hb3.mono s0)
            have hll : (q ++ [(a : Int)]).length = q.length + 1 := by simp
            have ihc := ih (q ++ [(a : Int)]) A3 c3 w3 (Tab.out.below k3 (Nat.le_refl _)) (fun x hx => by rcases List.mem_append.1 hx with h | h; exact Hq.out x h; simp at h; omega) (by rw [hll]; omega) (by rw [icells_append]; exact CRead.of_own own3) (fun e => by simp at e)
            rw [← candR_tied hsym, hll, show q.length + 1 + need = q.length + (need + 1) from by omega, HSZ.out] at ihc
            have e1 := candR_yes hlt Hk.out
            have hL2 := HL'.out
            rw [e1, listsC_cons, ← List.append_assoc] at hL2
            obtain ⟨L4, hL4⟩ : ∃ L4, listsC t need (q ++ [(a : Int)]) ((candR t n q (a + 1)).filter (t a)) = L4 := ⟨_, rfl⟩
            rw [hL4] at ihc hL2
            have hl4 := congrArg List.length hL2
            simp only [List.length_append] at hl4
            have HL2 := Lib.hid hL2
            have rows3 := rows.below (hb3.mono (Nat.le_refl _))
            have IHC := Lib.hid ihc
            clear ihc e1 hL4 hL2 own2 own3 gr3 rows hLl HL'
            go_wp2_with fail
            refine IHC.out.mono ?_
            rintro e w4 ⟨A4, c4, hs4, rfl, rows4, hb4⟩
            have s4 := hb4.size
            have k4 := k3.trans (hb4.mono k3.size)
            have rows3' := rows3.below hb4
            have rows4' := rows4.lower (B' := w.heap.size) (by omega)
            clear rows3 rows4 IHC
            by_cases hz4 : L4 = []
            · have e4 := rows4'.nil hz4
              subst hz4
              simp only [List.length_nil, Value.slice.injEq, true_and] at e4
              obtain ⟨rfl, rfl⟩ := e4
              go_wp2_with (at_builtin; refine wpList_append_own_none rfl _ _ 42 rfl w.heap.size 25 i1 1 Tryd.underlying42 hj _ done.length hs rfl rows3'.own rfl ?_)
              go_roundw
              case rel => exact ⟨a + 1, done, hs, by omega, by go_num, by rw [HL2.out, List.append_nil], rows3', k4⟩
              case measure => simp [intOf]; omega
            · have hp4 : 0 < L4.length := by cases L4 with | nil => exact absurd rfl hz4 | cons x y => simp
              obtain ⟨g4, rfl⟩ := own_form rows4'.own hp4
              have rd4 := CRead.of_own rows4'.own
              have hc4 : ∀ j u, hs4[j]? = some u → w4.cell? ((⟨g4, 0, none⟩ : Addr).add j) = some u := fun j u hj => by
                obtain ⟨b, off, e, _, hcell⟩ := rd4 j u hj
                simp only [Option.some.injEq, Addr.mk.injEq, and_true] at e
                obtain ⟨rfl, rfl⟩ := e
                rw [Addr.add_lit]
                exact hcell
              go_wp2_with (at_builtin; refine wpList_append_own _ rfl _ _ 42 rfl w.heap.size 25 i1 _ 1 24 Tryd.underlying42 hj hy0 hy1 hy2 rfl (by decide) _ _ _ rfl rows3'.own ⟨g4, 0, none⟩ L4.length c4 hs4 rfl (by rw [rows4'.length, Nat.mul_one]) hc4 rows4'.one (by unfold maxLen; omega) (by omega) (by omega) ?_; intro v5 w5 own5 gr5 _; obtain ⟨A5, c5, rfl, _⟩ := own_shape own5)
              have rows5 := rows3'.append rows4' own5 gr5 hz4
              have k5 := k4.grown gr5 (by omega) (fun k hk => (rows3'.own.lt k hk).1)
              go_roundw
              case rel => exact ⟨a + 1, _, _, by omega, by go_num, HL2.out, rows5, k5⟩
              case measure => simp [intOf]; omega
        · have hal : a = n := by omega
          subst hal
          have hge : ¬ ((a : Int) < a) := by omega
          have e := HL'.out
          rw [candR_end _ _ _ (Nat.le_refl _), listsC_nil, List.append_nil] at e
          obtain ⟨A5, c5, rfl, _⟩ := own_shape rows.own
          have HE := Lib.hid e
          clear e HL'
          go_wp2
          go_ret
          rw [HE.out]
          exact ⟨A5, c5, hs, rfl, rows, hb⟩
    · have hx : q[q.length - 1]? = some x := by rw [hqx]; simp
      have hxn := hq x (List.mem_of_getElem? hx)
      have hqpos : 0 < q.length := by rw [hqx]; simp
      have hfrom : fromQ q = x.toNat + 1 := by rw [hqx]; unfold fromQ; simp
      obtain ⟨y, rfl⟩ : ∃ y : Nat, x = y := ⟨x.toNat, by omega⟩
      rw [Int.toNat_natCast] at hfrom
      rw [hfrom] at hL
      have HL := Lib.hid hL
      have hqi : (0 : Int) < (q.length : Int) := by omega
      have hq1 : (0 : Int) ≤ (q.length : Int) - 1 := by omega
      have hq2 : ((q.length : Int) - 1).toNat = q.length - 1 := by omega
      obtain ⟨b, off, rfl, hbb, cx⟩ := hA.int hx
      clear hL tab hq hqx hfrom hx
      have Hqpos := Lib.hid hqpos
      go_enter Tryd.func57, Tryd.ntmps57
      go_wp2
      clear hqi hq1 hq2 cx
      go_loopw [8, 9] (fun v i wr => ∃ (a : Nat) (done : List (List Int)) (hs : List Value), a ≤ n ∧ i = .int .i64 a ∧ L = done ++ listsC t (need + 1) q (candR t n q a) ∧ LRows wr w.heap.size v done hs ∧ Below w.heap.size w wr) (fun _ i _ => n - (intOf i).toNat)
      case atStart => exact ⟨y + 1, [], [], by omega, by go_num, by rw [HL.out]; rfl, LRows.none _ _, Below.refl _ _⟩
      case round =>
        obtain ⟨a, done, hs, han, rfl, hL, rows, hb⟩ := hrel
        have s0 := hb.size
        have hLl := congrArg List.length hL
        rw [List.length_append] at hLl
        have HL' := Lib.hid hL
        clear hL
        by_cases hlt : a < n
        · have hai : (a : Int) < n := by omega
          go_wp2_with fail
          refine (trKnows_any n a t At ct G B0 q (some ⟨b, off, none⟩) c _ hn hlt (Tab.out.below hb (Nat.le_refl _)) Hq.out (by omega) ((hA.below hb (Nat.le_refl _)).more s0)).mono ?_
          rintro e w1 ⟨rfl, rfl⟩
          cases hk : (q.all fun y => t a y.toNat) with
          | false =>
            have Hk := Lib.hid hk
            clear hk
            go_wp2
            go_roundw
            case rel => exact ⟨a + 1, done, hs, by omega, by go_num, by rw [HL'.out, candR_no hlt Hk.out], rows, hb⟩
            case measure => simp [intOf]; omega
          | true =>
            have Hk := Lib.hid hk
            clear hk
            go_wp2_with fail
            refine (l1Own_all q (some ⟨b, off, none⟩) c _ (by omega) ((hA.below hb (Nat.le_refl _)).more s0) (fun e => by have h := Hqpos.out; rw [e] at h; simp at h)).mono ?_
            rintro e w2 ⟨A2, c2, rfl, own2, hb2⟩
            have s2 := hb2.size
            go_wp2_with (at_builtin; refine wpList_append_own _ rfl _ _ 25 rfl wr.heap.size 3 i0 _ 1 8 Tryd.underlying25 hi hz0 hz1 hz2 rfl (by decide) _ _ _ rfl (own2.alloc _) ⟨w2.heap.size, 0, none⟩ 1 1 [.int .i64 a] rfl rfl (one_cell (by simp)) (one_one rfl) (by unfold maxLen; omega) (by omega) (by simp; omega) ?_; intro v3 w3 own3 gr3 _; obtain ⟨A3, c3, rfl, _⟩ := own_shape own3)
            have hb3 : Below wr.heap.size wr w3 := (hb2.alloc s2 _).grown gr3 (by simp; omega) (fun k hk => (own2.lt k hk).1)
            have s3 := hb3.size
            have k3 := hb.trans (hb3.mono s0)
            have hll : (q ++ [(a : Int)]).length = q.length + 1 := by simp
            have ihc := ih (q ++ [(a : Int)]) A3 c3 w3 (Tab.out.below k3 (Nat.le_refl _)) (fun x hx => by rcases List.mem_append.1 hx with h | h; exact Hq.out x h; simp at h; omega) (by rw [hll]; omega) (by rw [icells_append]; exact CRead.of_own own3) (fun e => by simp at e)
            rw [← candR_tied hsym, hll, show q.length + 1 + need = q.length + (need + 1) from by omega, HSZ.out] at ihc
            have e1 := candR_yes hlt Hk.out
            have hL2 := HL'.out
            rw [e1, listsC_cons, ← List.append_assoc] at hL2
            obtain ⟨L4, hL4⟩ : ∃ L4, listsC t need (q ++ [(a : Int)]) ((candR t n q (a + 1)).filter (t a)) = L4 := ⟨_, rfl⟩
            rw [hL4] at ihc hL2
            have hl4 := congrArg List.length hL2
            simp only [List.length_append] at hl4
            have HL2 := Lib.hid hL2
            have rows3 := rows.below (hb3.mono (Nat.le_refl _))
            have IHC := Lib.hid ihc
            clear ihc e1 hL4 hL2 own2 own3 gr3 rows hLl HL'
            go_wp2_with fail
            refine IHC.out.mono ?_
            rintro e w4 ⟨A4, c4, hs4, rfl, rows4, hb4⟩
            have s4 := hb4.size
            have k4 := k3.trans (hb4.mono k3.size)
            have rows3' := rows3.below hb4
            have rows4' := rows4.lower (B' := w.heap.size) (by omega)
            clear rows3 rows4 IHC
            by_cases hz4 : L4 = []
            · have e4 := rows4'.nil hz4
              subst hz4
              simp only [List.length_nil, Value.slice.injEq, true_and] at e4
              obtain ⟨rfl, rfl⟩ := e4
              go_wp2_with (at_builtin; refine wpList_append_own_none rfl _ _ 42 rfl w.heap.size 25 i1 1 Tryd.underlying42 hj _ done.length hs rfl rows3'.own rfl ?_)
              go_roundw
              case rel => exact ⟨a + 1, done, hs, by omega, by go_num, by rw [HL2.out, List.append_nil], rows3', k4⟩
              case measure => simp [intOf]; omega
            · have hp4 : 0 < L4.length := by cases L4 with | nil => exact absurd rfl hz4 | cons x y => simp
              obtain ⟨g4, rfl⟩ := own_form rows4'.own hp4
              have rd4 := CRead.of_own rows4'.own
              have hc4 : ∀ j u, hs4[j]? = some u → w4.cell? ((⟨g4, 0, none⟩ : Addr).add j) = some u := fun j u hj => by
                obtain ⟨b, off, e, _, hcell⟩ := rd4 j u hj
                simp only [Option.some.injEq, Addr.mk.injEq, and_true] at e
                obtain ⟨rfl, rfl⟩ := e
                rw [Addr.add_lit]
                exact hcell
              go_wp2_with (at_builtin; refine wpList_append_own _ rfl _ _ 42 rfl w.heap.size 25 i1 _ 1 24 Tryd.underlying42 hj hy0 hy1 hy2 rfl (by decide) _ _ _ rfl rows3'.own ⟨g4, 0, none⟩ L4.length c4 hs4 rfl (by rw [rows4'.length, Nat.mul_one]) hc4 rows4'.one (by unfold maxLen; omega) (by omega) (by omega) ?_; intro v5 w5 own5 gr5 _; obtain ⟨A5, c5, rfl, _⟩ := own_shape own5)
              have rows5 := rows3'.append rows4' own5 gr5 hz4
              have k5 := k4.grown gr5 (by omega) (fun k hk => (rows3'.own.lt k hk).1)
              go_roundw
              case rel => exact ⟨a + 1, _, _, by omega, by go_num, HL2.out, rows5, k5⟩
              case measure => simp [intOf]; omega
        · have hal : a = n := by omega
          subst hal
          have hge : ¬ ((a : Int) < a) := by omega
          have e := HL'.out
          rw [candR_end _ _ _ (Nat.le_refl _), listsC_nil, List.append_nil] at e
          obtain ⟨A5, c5, rfl, _⟩ := own_shape rows.own
          have HE := Lib.hid e
          clear e HL'
          go_wp2
          go_ret
          rw [HE.out]
          exact ⟨A5, c5, hs, rfl, rows, hb⟩
end Go.Proofs.YtnpljmipicjacaaDoor
/-
  'CountGroups': the model's and the program's, by their contracts.
-/
namespace Go.Proofs.YtnpljmipicjacaaDoor
open Go.RowKit

theorem friendsT_of {n : Int} {l : PL} (h : isP n l = true) : TiesOf (friendsT l) (adj l) := by
  have hn := isP_range h
  have hl := (isP_list h).2.2.1
  have key : ∀ m, m ≤ l.length → TiesOf (friendsT (l.take m)) (adj (l.take m)) := by
    intro m
    induction m with
    | zero => intro _; exact TiesOf.none
    | succ m ih =>
      intro hm
      obtain ⟨⟨x, y⟩, hx⟩ := getSome l m (by omega)
      have h0 := hl _ (List.mem_of_getElem? hx)
      simp only at h0
      obtain ⟨a, rfl⟩ : ∃ a : Nat, x = a := ⟨x.toNat, by omega⟩
      obtain ⟨b, rfl⟩ : ∃ b : Nat, y = b := ⟨y.toNat, by omega⟩
      rw [List.take_add_one, hx, Option.toList_some, friendsT_snoc, adj_snoc]
      exact (ih (by omega)).with (by omega) (by omega) (by omega)
  have := key l.length (Nat.le_refl _)
  rwa [List.take_length] at this
theorem candR_all (t : Nat → Nat → Bool) (n : Nat) : candR t n [] 0 = List.range n := by
  unfold candR
  rw [List.filter_eq_self.2 (by simp), Nat.sub_zero, List.range_eq_range']
/-- the groups of a size -/
def groupsL (n : Nat) (l : PL) (k : Nat) : List (List Int) := listsC (adj l) k [] (List.range n)
theorem groupsL_few {n : Nat} (hn : n ≤ 12) (l : PL) (k : Nat) : (groupsL n l k).length ≤ 4096 := lists_few (IsSet.people (n := n) (by omega)) (fun b hb => by have := List.mem_range.1 hb; omega)
def resCountGroups (p : Int) (l : PL) (k : Int) : Int × Bool := if isP p l && decide (0 ≤ k ∧ k ≤ 12) then ((groupsL p.toNat l k.toNat).length, true) else (0, false)

end Go.Proofs.YtnpljmipicjacaaDoor
/-
  HOW MANY LISTS OF TIED PEOPLE HAVE A PERSON. Nothing here speaks of the program.
-/
namespace Go.Proofs.YtnpljmipicjacaaDoor
open Go.RowKit

theorem listsC_told (t : Nat → Nat → Bool) : ∀ (k : Nat) (told : List Int) (cs : List Nat), listsC t k told cs = (listsC t k [] cs).map (told ++ ·) := by
  intro k told cs
  induction h : k + cs.length using Nat.strongRecOn generalizing k told cs with
  | _ n ih =>
    match k, cs with
    | 0, cs => rw [listsC_zero, listsC_zero]; simp
    | k + 1, [] => rw [listsC_nil, listsC_nil]; rfl
    | k + 1, a :: cs =>
      simp only [List.length_cons] at h
      have h0 : (cs.filter (t a)).length ≤ cs.length := List.length_filter_le _ _
      rw [listsC_cons, listsC_cons, List.map_append, ih (k + (cs.filter (t a)).length) (by omega) k (told ++ [(a : Int)]) _ rfl, ih (k + 1 + cs.length) (by omega) (k + 1) told cs rfl,
        ih (k + (cs.filter (t a)).length) (by omega) k ([] ++ [(a : Int)]) _ rfl, List.map_map]
      congr 1
      refine List.map_congr_left fun x _ => ?_
      simp
theorem listsC_len (t : Nat → Nat → Bool) (k : Nat) (told : List Int) (cs : List Nat) : (listsC t k told cs).length = (listsC t k [] cs).length := by rw [listsC_told, List.length_map]
theorem listsC_size (t : Nat → Nat → Bool) : ∀ (k : Nat) (told : List Int) (cs : List Nat), ∀ l ∈ listsC t k told cs, l.length = told.length + k := by
  intro k told cs
  induction h : k + cs.length using Nat.strongRecOn generalizing k told cs with
  | _ n ih =>
    match k, cs with
    | 0, cs => rw [listsC_zero]; simp
    | k + 1, [] => rw [listsC_nil]; simp
    | k + 1, a :: cs =>
      simp only [List.length_cons] at h
      have h0 : (cs.filter (t a)).length ≤ cs.length := List.length_filter_le _ _
      rw [listsC_cons]
      intro l hl
      rcases List.mem_append.1 hl with hl | hl
      · have := ih (k + (cs.filter (t a)).length) (by omega) k _ _ rfl l hl
        simp at this
        omega
      · have := ih (k + 1 + cs.length) (by omega) (k + 1) _ _ rfl l hl
        omega
/-- whom a list has -/
theorem listsC_mem (t : Nat → Nat → Bool) : ∀ (k : Nat) (told : List Int) (cs : List Nat), ∀ l ∈ listsC t k told cs, ∀ x ∈ l, x ∈ told ∨ ∃ b ∈ cs, x = ((b : Nat) : Int) := by
  intro k told cs
  induction h : k + cs.length using Nat.strongRecOn generalizing k told cs with
  | _ n ih =>
    match k, cs with
    | 0, cs => rw [listsC_zero]; intro l hl x hx; simp at hl; subst hl; exact .inl hx
    | k + 1, [] => rw [listsC_nil]; simp
    | k + 1, a :: cs =>
      simp only [List.length_cons] at h
      have h0 : (cs.filter (t a)).length ≤ cs.length := List.length_filter_le _ _
      rw [listsC_cons]
      intro l hl x hx
      rcases List.mem_append.1 hl with hl | hl
      · rcases ih (k + (cs.filter (t a)).length) (by omega) k _ _ rfl l hl x hx with h1 | ⟨b, hb, h1⟩
        · rcases List.mem_append.1 h1 with h1 | h1
          · exact .inl h1
          · simp at h1
            exact .inr ⟨a, by simp, h1⟩
        · exact .inr ⟨b, by simp [(List.mem_filter.1 hb).1], h1⟩
      · rcases ih (k + 1 + cs.length) (by omega) (k + 1) _ _ rfl l hl x hx with h1 | ⟨b, hb, h1⟩
        · exact .inl h1
        · exact .inr ⟨b, by simp [hb], h1⟩
/-- how many lists have a person -/
def hasN (L : List (List Int)) (a : Nat) : Nat := L.countP (hasI · a)
theorem hasN_append (L M : List (List Int)) (a : Nat) : hasN (L ++ M) a = hasN L a + hasN M a := List.countP_append
theorem hasN_none {t : Nat → Nat → Bool} {k : Nat} {told : List Int} {cs : List Nat} {a : Nat} (h0 : (a : Int) ∉ told) (h : a ∉ cs) : hasN (listsC t k told cs) a = 0 := by
  refine List.countP_eq_zero.2 fun l hl hc => ?_
  rcases listsC_mem t k told cs l hl _ (hasI_mem.1 hc) with h1 | ⟨b, hb, h1⟩
  · exact h0 h1
  · have : a = b := by omega
    exact h (this ▸ hb)
theorem hasN_all {t : Nat → Nat → Bool} {k : Nat} {told : List Int} {cs : List Nat} {a : Nat} (h0 : (a : Int) ∈ told) : hasN (listsC t k told cs) a = (listsC t k told cs).length := by
  refine List.countP_eq_length.2 fun l hl => ?_
  rw [listsC_told] at hl
  obtain ⟨m, _, rfl⟩ := List.mem_map.1 hl
  exact hasI_mem.2 (List.mem_append_left _ h0)
theorem hasN_listsC {t : Nat → Nat → Bool} (hsym : ∀ i j, t i j = t j i) {a : Nat} (hirr : t a a = false) : ∀ (k : Nat) (told : List Int) (cs : List Nat),
    cs.Pairwise (· < ·) → a ∈ cs → (a : Int) ∉ told → hasN (listsC t (k + 1) told cs) a = (listsC t k [] (cs.filter (t a))).length := by
  intro k told cs
  induction h : k + cs.length using Nat.strongRecOn generalizing k told cs with
  | _ n ih =>
    intro hs ha h0
    match cs with
    | [] => simp at ha
    | x :: cs =>
      simp only [List.length_cons] at h
      obtain ⟨hx, hs'⟩ := List.pairwise_cons.1 hs
      have hl0 : (cs.filter (t x)).length ≤ cs.length := List.length_filter_le _ _
      rw [listsC_cons, hasN_append]
      by_cases e : x = a
      · subst e
        have hn : x ∉ cs := fun hc => by have := hx x hc; omega
        rw [hasN_all (by simp), hasN_none h0 hn, listsC_len, List.filter_cons_of_neg (by simp [hirr])]
        omega
      · have ha' : a ∈ cs := by rcases List.mem_cons.1 ha with h | h; exact absurd h.symm e; exact h
        have h1 : (a : Int) ∉ told ++ [(x : Int)] := by simp [h0]; omega
        rw [ih (k + cs.length) (by omega) k told cs rfl hs' ha' h0]
        match k with
        | 0 =>
          rw [listsC_zero, listsC_zero, listsC_zero]
          have : hasN [told ++ [(x : Int)]] a = 0 := List.countP_eq_zero.2 fun l hl hc => by
            simp only [List.mem_singleton] at hl
            subst hl
            exact h1 (hasI_mem.1 hc)
          rw [this]
          simp
        | k + 1 =>
          cases hxa : t x a with
          | true =>
            have hax : t a x = true := by rw [hsym, hxa]
            rw [ih (k + (cs.filter (t x)).length) (by omega) k _ _ rfl (hs'.filter _) (List.mem_filter.2 ⟨ha', hxa⟩) h1, List.filter_cons_of_pos hax, listsC_cons, List.length_append, listsC_len t k ([] ++ [(x : Int)])]
            congr 2
            rw [List.filter_filter, List.filter_filter]
            congr 1
            exact List.filter_congr fun b _ => Bool.and_comm _ _
          | false =>
            have hax : ¬ t a x = true := by rw [hsym, hxa]; simp
            rw [hasN_none h1 (fun hc => by have := (List.mem_filter.1 hc).2; simp [hxa] at this), List.filter_cons_of_neg hax]
            omega
end Go.Proofs.YtnpljmipicjacaaDoor
/-
  'ThreesAt': the model's and the program's, by their contracts.
-/
namespace Go.Proofs.YtnpljmipicjacaaDoor
open Go.RowKit

theorem adj_of {n : Nat} {l : PL} (h : isP n l = true) {a b : Nat} (hab : adj l a b = true) : a < n ∧ b < n ∧ a ≠ b := by
  have hl := (isP_list h).2.2.1
  unfold adj at hab
  simp only [Bool.or_eq_true, List.contains_iff_mem] at hab
  rcases hab with hab | hab
  · have := hl _ hab; simp only at this; omega
  · have := hl _ hab; simp only at this; omega
theorem adj_self {n : Nat} {l : PL} (h : isP n l = true) (a : Nat) : adj l a a = false := by
  cases e : adj l a a with
  | false => rfl
  | true => exact absurd rfl (adj_of h e).2.2
theorem friends_set {n : Nat} {l : PL} (h : isP n l = true) {T : Nat → Nat} (hT : TiesOf T (adj l)) {a : Nat} (ha : a < n) : IsSet (T a) ((List.range n).filter (adj l a)) := by
  have hn := isP_range h
  refine ⟨List.pairwise_lt_range.filter _, fun b hb => by have := List.mem_range.1 (List.mem_filter.1 hb).1; omega, fun b => ?_⟩
  rw [List.mem_filter, List.mem_range]
  by_cases hb : b < 16
  · rw [hT.bit a b (by omega) hb]
    exact ⟨fun e => ⟨(adj_of h e).2.1, e⟩, fun e => e.2⟩
  · have : (T a).testBit b = false := Nat.testBit_lt_two_pow (Nat.lt_of_lt_of_le (hT.lt a (by omega)) (Nat.pow_le_pow_right (n := 2) (i := 16) (by omega) (by omega)))
    rw [this]
    simp
    omega
def threesAtN (n : Nat) (l : PL) (a : Nat) : Nat := hasN (groupsL n l 3) a
theorem threesAt_eq {n : Nat} {l : PL} (h : isP n l = true) {a : Nat} (ha : a < n) : (listsC (adj l) 2 [] ((List.range n).filter (adj l a))).length = threesAtN n l a := by
  unfold threesAtN groupsL
  rw [hasN_listsC (adj_comm l) (adj_self h a) 2 [] _ List.pairwise_lt_range (List.mem_range.2 ha) (by simp)]
def resThreesAt (p : Int) (l : PL) (a : Int) : Int × Bool := if isP p l && isMan p a then (threesAtN p.toNat l a.toNat, true) else (0, false)

end Go.Proofs.YtnpljmipicjacaaDoor
/-
  slices.Clone of pairs and of numbers, by its contracts, at every address.
-/
namespace Go.Proofs.YtnpljmipicjacaaDoor
open Go.RowKit

theorem read_add_P {w : World} {B : Nat} {a : Addr} {l : PL} (h : CRead w B (some a) (pcells l)) : ∀ j u, (pcells l)[j]? = some u → w.cell? (a.add j) = some u := by
  intro j u hj
  obtain ⟨b, off, e, _, hc⟩ := h j u hj
  simp only [Option.some.injEq] at e
  subst e
  rw [Go.WideShapes.add_plain]
  exact hc
theorem read_add_I {w : World} {B : Nat} {a : Addr} {l : List Int} (h : CRead w B (some a) (icells l)) : ∀ j u, (icells l)[j]? = some u → w.cell? (a.add j) = some u := by
  intro j u hj
  obtain ⟨b, off, e, _, hc⟩ := h j u hj
  simp only [Option.some.injEq] at e
  subst e
  rw [Go.WideShapes.add_plain]
  exact hc
set_option maxHeartbeats 1000000 in
set_option maxRecDepth 100000 in
theorem cloneI_any (l : List Int) (A : Option Addr) (c : Nat) (w : World) (hl : l.length ≤ 1048576) (hA : CRead w w.heap.size A (icells l)) :
    Calls Tryd.prog 59 #[.slice A l.length c] w fun e w' => ∃ A' c', e = .returned (.slice A' l.length c') ∧ w'.ownsRow w.heap.size 3 1 (.slice A' l.length c') l.length (icells l) ∧ Below w.heap.size w w' := by
  obtain ⟨i0, hi, hz0, hz1, hz2⟩ := info_parts Tryd.infoInt
  have q22 : ∀ (w : World) (a : Option Addr) (n c n' c' : Nat), (binOp .eql 25 (.slice a n c) (.slice none n' c')).run Tryd.prog w = .ok (.bool a.isNone) w := fun w a n c n' c' => Lib.run_eql_slice_nil w _ _ a n c n' c' Tryd.underlying25
  have u22 : ∀ w, Sem.run Tryd.prog (underlying 25) w = .ok (TypeDesc.slice 3) w := run_underlying Tryd.underlying25
  cases A with
  | none =>
    have hq : l = [] := by
      cases l with
      | nil => rfl
      | cons x l =>
        obtain ⟨b, off, e, _⟩ := hA 0 _ (by simp [icells]; rfl)
        cases e
    subst hq
    go_enter Tryd.func59, Tryd.ntmps59
    go_wp2
    go_ret
    exact ⟨none, 0, rfl, World.ownsRow_nil _ _ _ _, Below.refl _ _⟩
  | some a =>
    have hc := read_add_I hA
    have H : Aside (∀ j u, (icells l)[j]? = some u → w.cell? (a.add j) = some u) := hc
    clear hc hA
    go_enter Tryd.func59, Tryd.ntmps59
    go_wp2_with (at_builtin; refine wpList_append_own _ rfl _ _ 25 rfl w.heap.size 3 i0 (.int .i64 0) 1 8 Tryd.underlying25 hi hz0 hz1 hz2 rfl (by decide) _ _ _ rfl (World.ownsRow_made w #[] 0 (Nat.le_refl _) (Nat.zero_le _) rfl) a l.length c (icells l) rfl ?qc1 ?qc2 ?qc3 ?qc4 ?qc5 ?qc6 ?_)
    case qc1 => rw [icells_length, Nat.mul_one]
    case qc2 =>
      intro j u hj
      exact Lib.cell?_alloc_some _ (H.out j u hj)
    case qc3 => exact icells_one l
    case qc4 => unfold maxLen; omega
    case qc5 => omega
    case qc6 => simp
    intro v' w1 hown hgrow _

    obtain ⟨A1, c1, rfl, _⟩ := own_shape hown
    go_wp2
    go_ret
    exact ⟨A1, c1, rfl, hown, ((Below.refl _ w).alloc (Nat.le_refl _) _).grown hgrow (by simp) (by intro k hk; simp [Value.ownBlock] at hk; omega)⟩
end Go.Proofs.YtnpljmipicjacaaDoor
/-
  'spec.l1Put': a number put into a rising list that lacks it, by its contract.
-/
namespace Go.Proofs.YtnpljmipicjacaaDoor
open Go.RowKit

def putAt (l : List Int) (x : Int) : Nat := (l.takeWhile fun y => decide (y < x)).length
def putI (l : List Int) (x : Int) : List Int := l.take (putAt l x) ++ [x] ++ l.drop (putAt l x)
theorem putAt_le (l : List Int) (x : Int) : putAt l x ≤ l.length := by
  unfold putAt
  induction l with
  | nil => simp
  | cons y l ih =>
    rw [List.takeWhile_cons]
    split
    · simp only [List.length_cons]; omega
    · simp
theorem putAt_lt {l : List Int} {x y : Int} {k : Nat} (h : k < putAt l x) (hy : l[k]? = some y) : y < x := by
  unfold putAt at h
  induction l generalizing k with
  | nil => simp at h
  | cons z l ih =>
    rw [List.takeWhile_cons] at h
    split at h
    · rename_i hz
      cases k with
      | zero =>
        have e : z = y := by simpa using hy
        rw [← e]; exact of_decide_eq_true hz
      | succ k => exact ih (by simpa using h) (by simpa using hy)
    · simp at h
theorem putAt_stop {l : List Int} {x y : Int} (hy : l[putAt l x]? = some y) : ¬ y < x := by
  unfold putAt at hy
  induction l with
  | nil => simp at hy
  | cons z l ih =>
    rw [List.takeWhile_cons] at hy
    split at hy
    · exact ih (by simpa using hy)
    · rename_i hz
      have e : z = y := by simpa using hy
      rw [← e]
      intro h
      exact hz (decide_eq_true h)
theorem icells_take (l : List Int) (k : Nat) : icells (l.take k) = (icells l).take k := by simp [icells]
theorem icells_drop (l : List Int) (k : Nat) : icells (l.drop k) = (icells l).drop k := by simp [icells]

set_option maxHeartbeats 2000000 in
set_option maxRecDepth 100000 in
theorem l1Put_any (l : List Int) (x : Int) (g c : Nat) (w : World) (hl : l.length ≤ 12) (hd : l.length ≤ c) (hx : x ∉ l) (hA : CRead w w.heap.size (some ⟨g, 0, none⟩) (icells l)) (hgw : g < w.heap.size) :
    Calls Tryd.prog 41 #[.slice (some ⟨g, 0, none⟩) l.length c, .int .i64 x] w fun e w' => ∃ A' c', e = .returned (.slice A' (l.length + 1) c') ∧ w'.ownsRow w.heap.size 3 1 (.slice A' (l.length + 1) c') (l.length + 1) (icells (putI l x)) ∧ Below w.heap.size w w' := by
  obtain ⟨i0, hi, hz0, hz1, hz2⟩ := info_parts Tryd.infoInt
  have hpl := putAt_le l x
  have H : Aside (∀ j u, (icells l)[j]? = some u → w.cell? ((⟨g, 0, none⟩ : Addr).add j) = some u) := read_add_I hA
  have hat : ∀ k y, l[k]? = some y → w.cell? ⟨g, k, none⟩ = some (.int .i64 y) := fun k y h => by
    have := H.out k _ (icells_at h)
    rw [Addr.add_lit, Nat.zero_add] at this
    exact this
  have Hat := Lib.hid hat
  clear hA hat
  go_enter Tryd.func41, Tryd.ntmps41
  go_wp2_with fail
  go_loopw [5] (fun i wr => ∃ k : Nat, k ≤ putAt l x ∧ i = .int .i64 k ∧ w = wr) (fun i _ => putAt l x - (intOf i).toNat)
  case atStart => exact ⟨0, Nat.zero_le _, rfl, rfl⟩
  case round =>
    obtain ⟨k, hk, rfl, rfl⟩ := hrel
    by_cases hlt : k < putAt l x
    · obtain ⟨y, hy⟩ := getSome l k (by omega)
      have hyx := putAt_lt hlt hy
      have d0 := Hat.out k y hy
      have hki : (k : Int) < (l.length : Int) := by omega
      have Hy := Lib.hid hy
      clear hy
      go_wp2
      go_roundw
      case rel => exact ⟨k + 1, by omega, by go_num, trivial⟩
      case measure => simp [intOf]; omega
    · have hkl : k = putAt l x := by omega
      have HT := Lib.hid (show ∀ j u, (icells (l.take k))[j]? = some u → w.cell? ((⟨g, 0, none⟩ : Addr).add j) = some u from fun j u hj => H.out j u (by
        rw [icells_take, List.getElem?_take] at hj
        split at hj
        · exact hj
        · cases hj))
      have HD := Lib.hid (show ∀ j u, (icells (l.drop k))[j]? = some u → w.cell? ((⟨g, k, none⟩ : Addr).add j) = some u from fun j u hj => by
        rw [icells_drop, List.getElem?_drop] at hj
        have := H.out _ u hj
        rw [Addr.add_lit] at this ⊢
        rwa [Nat.zero_add] at this)
      by_cases hln : k < l.length
      · obtain ⟨y, hy⟩ := getSome l k hln
        have hyx := putAt_stop (hkl ▸ hy)
        have d0 := Hat.out k y hy
        have hki : (k : Int) < (l.length : Int) := by omega
        have hne : (y == x) = false := by
          rw [beq_eq_false_iff_ne]
          rintro rfl
          exact hx (List.mem_of_getElem? hy)
        have Hkl := Lib.hid hkl
        clear hy hkl
        have hkc : ¬ (c - k = 0) := by omega
        have hn : k + 1 + (l.length - k) = l.length + 1 := by omega
        go_wp2_with (at_builtin; first | (refine wpList_append_own _ rfl _ _ 25 rfl w.heap.size 3 i0 _ 1 8 Tryd.underlying25 hi hz0 hz1 hz2 rfl (by decide) (.slice A2 (k + 1) c2) (k + 1) _ rfl own2 ⟨g, k, none⟩ (l.length - k) (c - k) (icells (l.drop k)) rfl (by rw [icells_length, List.length_drop]; omega) (fun j u hj => by have h5 := HD.out j u hj; rw [Addr.add_lit] at h5 ⊢; exact carry k2 h5 hgw) (icells_one _) (by unfold maxLen; omega) (by omega) k2.size ?_; intro v3 w3 own3 gr3 _; have k3 : Below w.heap.size w w3 := k2.grown gr3 k2.size (fun m hm => (own2.lt m hm).1); obtain ⟨A3, c3, rfl, _⟩ := own_shape own3) | (refine wpList_append_own _ rfl _ _ 25 rfl w.heap.size 3 i0 _ 1 8 Tryd.underlying25 hi hz0 hz1 hz2 rfl (by decide) (.slice A1 k c1) k _ rfl (own1.alloc _) ⟨w1.heap.size, 0, none⟩ 1 1 [.int .i64 x] rfl rfl (one_cell (by simp)) (one_one rfl) (by unfold maxLen; omega) (by omega) (by have := k1.size; simp; omega) ?_; intro v2 w2 own2 gr2 _; have k2 : Below w.heap.size w w2 := (k1.alloc k1.size _).grown gr2 (by have := k1.size; simp; omega) (fun m hm => (own1.lt m hm).1); obtain ⟨A2, c2, rfl, _⟩ := own_shape own2) | (refine wpList_append_own _ rfl _ _ 25 rfl w.heap.size 3 i0 _ 1 8 Tryd.underlying25 hi hz0 hz1 hz2 rfl (by decide) (.slice (some ⟨w.heap.size, 0, none⟩) 0 0) 0 [] rfl (World.ownsRow_made w #[] 0 (Nat.le_refl _) (Nat.zero_le _) rfl) ⟨g, 0, none⟩ k c (icells (l.take k)) rfl (by rw [icells_length, List.length_take]; omega) (fun j u hj => Lib.cell?_alloc_some _ (HT.out j u hj)) (icells_one _) (by unfold maxLen; omega) (by omega) (by simp) ?_; intro v1 w1 own1 gr1 _; have k1 : Below w.heap.size w w1 := ((Below.refl _ w).alloc (Nat.le_refl _) _).grown gr1 (by simp) (by intro m hm; simp [Value.ownBlock] at hm; omega); simp only [Nat.zero_add, List.nil_append] at own1; obtain ⟨A1, c1, rfl, _⟩ := own_shape own1))
        go_ret
        refine ⟨A3, c3, rfl, ?_, k3⟩
        rw [hn] at own3
        rw [putI, ← Hkl.out, icells_append, icells_append]
        exact own3
      · have hki : ¬ ((k : Int) < (l.length : Int)) := by omega
        have Hkl := Lib.hid hkl
        have Hdn := Lib.hid (show icells (l.drop k) = [] by rw [List.drop_of_length_le (by omega)]; rfl)
        have hn : k + 1 + (l.length - k) = l.length + 1 := by omega
        clear hkl
        by_cases hkc : c - k = 0
        · go_wp2_with (at_builtin; first | (refine wpList_append_own _ rfl _ _ 25 rfl w.heap.size 3 i0 _ 1 8 Tryd.underlying25 hi hz0 hz1 hz2 rfl (by decide) (.slice A2 (k + 1) c2) (k + 1) _ rfl own2 ⟨g, 0, none⟩ (l.length - k) 0 (icells (l.drop k)) rfl (by rw [icells_length, List.length_drop]; omega) (fun j u hj => by rw [Hdn.out] at hj; cases hj) (icells_one _) (by unfold maxLen; omega) (by omega) k2.size ?_; intro v3 w3 own3 gr3 _; have k3 : Below w.heap.size w w3 := k2.grown gr3 k2.size (fun m hm => (own2.lt m hm).1); obtain ⟨A3, c3, rfl, _⟩ := own_shape own3) | (refine wpList_append_own _ rfl _ _ 25 rfl w.heap.size 3 i0 _ 1 8 Tryd.underlying25 hi hz0 hz1 hz2 rfl (by decide) (.slice A1 k c1) k _ rfl (own1.alloc _) ⟨w1.heap.size, 0, none⟩ 1 1 [.int .i64 x] rfl rfl (one_cell (by simp)) (one_one rfl) (by unfold maxLen; omega) (by omega) (by have := k1.size; simp; omega) ?_; intro v2 w2 own2 gr2 _; have k2 : Below w.heap.size w w2 := (k1.alloc k1.size _).grown gr2 (by have := k1.size; simp; omega) (fun m hm => (own1.lt m hm).1); obtain ⟨A2, c2, rfl, _⟩ := own_shape own2) | (refine wpList_append_own _ rfl _ _ 25 rfl w.heap.size 3 i0 _ 1 8 Tryd.underlying25 hi hz0 hz1 hz2 rfl (by decide) (.slice (some ⟨w.heap.size, 0, none⟩) 0 0) 0 [] rfl (World.ownsRow_made w #[] 0 (Nat.le_refl _) (Nat.zero_le _) rfl) ⟨g, 0, none⟩ k c (icells (l.take k)) rfl (by rw [icells_length, List.length_take]; omega) (fun j u hj => Lib.cell?_alloc_some _ (HT.out j u hj)) (icells_one _) (by unfold maxLen; omega) (by omega) (by simp) ?_; intro v1 w1 own1 gr1 _; have k1 : Below w.heap.size w w1 := ((Below.refl _ w).alloc (Nat.le_refl _) _).grown gr1 (by simp) (by intro m hm; simp [Value.ownBlock] at hm; omega); simp only [Nat.zero_add, List.nil_append] at own1; obtain ⟨A1, c1, rfl, _⟩ := own_shape own1))
          go_ret
          refine ⟨A3, c3, rfl, ?_, k3⟩
          rw [hn] at own3
          rw [putI, ← Hkl.out, icells_append, icells_append]
          exact own3
        · go_wp2_with (at_builtin; first | (refine wpList_append_own _ rfl _ _ 25 rfl w.heap.size 3 i0 _ 1 8 Tryd.underlying25 hi hz0 hz1 hz2 rfl (by decide) (.slice A2 (k + 1) c2) (k + 1) _ rfl own2 ⟨g, k, none⟩ (l.length - k) (c - k) (icells (l.drop k)) rfl (by rw [icells_length, List.length_drop]; omega) (fun j u hj => by have h5 := HD.out j u hj; rw [Addr.add_lit] at h5 ⊢; exact carry k2 h5 hgw) (icells_one _) (by unfold maxLen; omega) (by omega) k2.size ?_; intro v3 w3 own3 gr3 _; have k3 : Below w.heap.size w w3 := k2.grown gr3 k2.size (fun m hm => (own2.lt m hm).1); obtain ⟨A3, c3, rfl, _⟩ := own_shape own3) | (refine wpList_append_own _ rfl _ _ 25 rfl w.heap.size 3 i0 _ 1 8 Tryd.underlying25 hi hz0 hz1 hz2 rfl (by decide) (.slice A1 k c1) k _ rfl (own1.alloc _) ⟨w1.heap.size, 0, none⟩ 1 1 [.int .i64 x] rfl rfl (one_cell (by simp)) (one_one rfl) (by unfold maxLen; omega) (by omega) (by have := k1.size; simp; omega) ?_; intro v2 w2 own2 gr2 _; have k2 : Below w.heap.size w w2 := (k1.alloc k1.size _).grown gr2 (by have := k1.size; simp; omega) (fun m hm => (own1.lt m hm).1); obtain ⟨A2, c2, rfl, _⟩ := own_shape own2) | (refine wpList_append_own _ rfl _ _ 25 rfl w.heap.size 3 i0 _ 1 8 Tryd.underlying25 hi hz0 hz1 hz2 rfl (by decide) (.slice (some ⟨w.heap.size, 0, none⟩) 0 0) 0 [] rfl (World.ownsRow_made w #[] 0 (Nat.le_refl _) (Nat.zero_le _) rfl) ⟨g, 0, none⟩ k c (icells (l.take k)) rfl (by rw [icells_length, List.length_take]; omega) (fun j u hj => Lib.cell?_alloc_some _ (HT.out j u hj)) (icells_one _) (by unfold maxLen; omega) (by omega) (by simp) ?_; intro v1 w1 own1 gr1 _; have k1 : Below w.heap.size w w1 := ((Below.refl _ w).alloc (Nat.le_refl _) _).grown gr1 (by simp) (by intro m hm; simp [Value.ownBlock] at hm; omega); simp only [Nat.zero_add, List.nil_append] at own1; obtain ⟨A1, c1, rfl, _⟩ := own_shape own1))
          go_ret
          refine ⟨A3, c3, rfl, ?_, k3⟩
          rw [hn] at own3
          rw [putI, ← Hkl.out, icells_append, icells_append]
          exact own3

set_option maxHeartbeats 2000000 in
set_option maxRecDepth 100000 in
theorem l1Put_nil (x : Int) (w : World) :
    Calls Tryd.prog 41 #[.slice none 0 0, .int .i64 x] w fun e w' => ∃ A' c', e = .returned (.slice A' 1 c') ∧ w'.ownsRow w.heap.size 3 1 (.slice A' 1 c') 1 (icells [x]) ∧ Below w.heap.size w w' := by
  obtain ⟨i0, hi, hz0, hz1, hz2⟩ := info_parts Tryd.infoInt
  go_enter Tryd.func41, Tryd.ntmps41
  go_wp2_with fail
  go_loopw [5] (fun i wr => i = .int .i64 0 ∧ w = wr) (fun _ _ => 0)
  case atStart => exact ⟨rfl, rfl⟩
  case round =>
    obtain ⟨rfl, rfl⟩ := hrel
    go_wp2_with (at_builtin; first | (refine wpList_append_own_none rfl _ _ 25 rfl w.heap.size 3 i0 1 Tryd.underlying25 hi (.slice A2 1 c2) 1 _ rfl own2 rfl ?_) | (refine wpList_append_own_none rfl _ _ 25 rfl w.heap.size 3 i0 1 Tryd.underlying25 hi (.slice (some ⟨w.heap.size, 0, none⟩) 0 0) 0 [] rfl (World.ownsRow_made w #[] 0 (Nat.le_refl _) (Nat.zero_le _) rfl) rfl ?_) | (refine wpList_append_own _ rfl _ _ 25 rfl w.heap.size 3 i0 _ 1 8 Tryd.underlying25 hi hz0 hz1 hz2 rfl (by decide) (.slice (some ⟨w.heap.size, 0, none⟩) 0 0) 0 [] rfl ((World.ownsRow_made w #[] 0 (Nat.le_refl _) (Nat.zero_le _) rfl).alloc _) ⟨w.heap.size + 1, 0, none⟩ 1 1 [.int .i64 x] rfl rfl (one_cell (by simp)) (one_one rfl) (by unfold maxLen; omega) (by omega) (by simp; omega) ?_; intro v2 w2 own2 gr2 _; have k2 : Below w.heap.size w w2 := (((Below.refl _ w).alloc (Nat.le_refl _) _).alloc (by simp) _).grown gr2 (by simp; omega) (by intro m hm; simp [Value.ownBlock] at hm; omega); simp only [Nat.zero_add, List.nil_append] at own2; obtain ⟨A2, c2, rfl, _⟩ := own_shape own2))
    go_ret
    exact ⟨A2, c2, rfl, own2, k2⟩
end Go.Proofs.YtnpljmipicjacaaDoor
/-
  A GROUP THAT GROWS, as plain lists: person by person, who is tied to all joins. Nothing here speaks of the program.
-/
namespace Go.Proofs.YtnpljmipicjacaaDoor
open Go.RowKit

theorem putI_mem {l : List Int} {x y : Int} : y ∈ putI l x ↔ y = x ∨ y ∈ l := by
  unfold putI
  have h : y ∈ l ↔ y ∈ l.take (putAt l x) ∨ y ∈ l.drop (putAt l x) := by rw [← List.mem_append, List.take_append_drop]
  simp only [List.mem_append, List.mem_singleton, h]
  constructor
  · rintro ((h | h) | h)
    · exact .inr (.inl h)
    · exact .inl h
    · exact .inr (.inr h)
  · rintro (h | h | h)
    · exact .inl (.inr h)
    · exact .inl (.inl h)
    · exact .inr h
theorem putI_length (l : List Int) (x : Int) : (putI l x).length = l.length + 1 := by
  have := putAt_le l x
  unfold putI
  simp only [List.length_append, List.length_take, List.length_drop, List.length_singleton]
  omega
theorem putI_up {l : List Int} {x : Int} (hl : l.Pairwise (· < ·)) (hx : x ∉ l) : (putI l x).Pairwise (· < ·) := by
  unfold putI
  have h1 : ∀ y ∈ l.take (putAt l x), y < x := by
    intro y hy
    obtain ⟨k, hk, e⟩ := List.getElem_of_mem hy
    rw [List.length_take] at hk
    rw [List.getElem_take] at e
    exact putAt_lt (l := l) (x := x) (k := k) (by omega) (by rw [List.getElem?_eq_getElem (by omega), e])
  have h2 : ∀ y ∈ l.drop (putAt l x), x < y := by
    intro y hy
    obtain ⟨k, hk, e⟩ := List.getElem_of_mem hy
    rw [List.length_drop] at hk
    rw [List.getElem_drop] at e
    have hlt : putAt l x < l.length := by omega
    have h0 := putAt_stop (l := l) (x := x) (y := l[putAt l x]) (List.getElem?_eq_getElem hlt)
    have hne : l[putAt l x] ≠ x := fun h => hx (h ▸ List.getElem_mem hlt)
    have hle : l[putAt l x] ≤ y := by
      rw [← e]
      by_cases hk0 : k = 0
      · subst hk0; simp
      · have := List.pairwise_iff_getElem.1 hl (putAt l x) (putAt l x + k) hlt (by omega) (by omega)
        omega
    omega
  refine List.pairwise_append.2 ⟨List.pairwise_append.2 ⟨hl.sublist (List.take_sublist _ _), by simp, fun y hy z hz => ?_⟩, hl.sublist (List.drop_sublist _ _), fun y hy z hz => ?_⟩
  · simp only [List.mem_singleton] at hz; subst hz; exact h1 y hy
  · rcases List.mem_append.1 hy with hy | hy
    · have := h1 y hy; have := h2 z hz; omega
    · simp only [List.mem_singleton] at hy; subst hy; exact h2 z hz
/-- a rising list of people -/
structure IsUp (n : Nat) (q : List Int) : Prop where
  up : q.Pairwise (· < ·)
  lt : ∀ x ∈ q, 0 ≤ x ∧ x < n
theorem IsUp.set {n : Nat} {q : List Int} (h : IsUp n q) (hn : n ≤ 16) {J : Nat} (hJ : ∀ b, J.testBit b = true ↔ (b : Int) ∈ q) : IsSet J (q.map Int.toNat) := by
  refine ⟨?_, fun b hb => ?_, fun b => ?_⟩
  · rw [List.pairwise_map]
    exact h.up.imp_of_mem fun {x y} hx hy hxy => by have := h.lt x hx; have := h.lt y hy; omega
  · obtain ⟨x, hx, rfl⟩ := List.mem_map.1 hb
    have := h.lt x hx
    omega
  · rw [hJ, List.mem_map]
    constructor
    · intro hb; exact ⟨b, hb, by simp⟩
    · rintro ⟨x, hx, rfl⟩
      have := h.lt x hx
      rwa [Int.toNat_of_nonneg this.1]
theorem IsUp.back {n : Nat} {q : List Int} (h : IsUp n q) : (q.map Int.toNat).map (fun b : Nat => (b : Int)) = q := by
  rw [List.map_map]
  conv => rhs; rw [← List.map_id q]
  exact List.map_congr_left fun x hx => by have := h.lt x hx; simp only [Function.comp_apply, id_eq]; omega
theorem IsUp.nodup {n : Nat} {q : List Int} (h : IsUp n q) : q.Nodup := h.up.imp fun {a b} hab => by omega
theorem IsUp.short {n : Nat} {q : List Int} (h : IsUp n q) : q.length ≤ n := by
  have h2 := List.Nodup.length_le_of_subset (l₁ := q) (l₂ := (List.range n).map fun b : Nat => (b : Int)) h.nodup (fun x hx => by
    have := h.lt x hx
    exact List.mem_map.2 ⟨x.toNat, List.mem_range.2 (by omega), by omega⟩)
  simpa using h2
theorem IsUp.put {n : Nat} {q : List Int} (h : IsUp n q) {a : Nat} (ha : a < n) (hq : (a : Int) ∉ q) : IsUp n (putI q a) :=
  ⟨putI_up h.up hq, fun x hx => by rcases putI_mem.1 hx with rfl | hx; omega; exact h.lt x hx⟩
/-- all of a list are tied to somebody -/
def knowsL (t : Nat → Nat → Bool) (q : List Int) (a : Nat) : Bool := q.all fun y => t a y.toNat
theorem knowsL_self {t : Nat → Nat → Bool} (ht : ∀ a, t a a = false) {q : List Int} {a : Nat} (h : knowsL t q a = true) : (a : Int) ∉ q := by
  intro hm
  have := List.all_eq_true.1 h _ hm
  simp [ht] at this
def growS (t : Nat → Nat → Bool) (q : List Int) (a : Nat) : List Int := if knowsL t q a then putI q a else q
def growI (t : Nat → Nat → Bool) (q : List Int) (k : Nat) : List Int := (List.range k).foldl (growS t) q
theorem growI_zero (t : Nat → Nat → Bool) (q : List Int) : growI t q 0 = q := rfl
theorem growI_succ (t : Nat → Nat → Bool) (q : List Int) (k : Nat) : growI t q (k + 1) = growS t (growI t q k) k := by simp [growI, List.range_succ, List.foldl_append]
theorem growI_up {t : Nat → Nat → Bool} (ht : ∀ a, t a a = false) {n : Nat} {q : List Int} (h : IsUp n q) : ∀ k, k ≤ n → IsUp n (growI t q k) := by
  intro k
  induction k with
  | zero => intro _; exact h
  | succ k ih =>
    intro hk
    have i := ih (by omega)
    rw [growI_succ]
    unfold growS
    split
    · rename_i hn
      exact i.put (by omega) (knowsL_self ht hn)
    · exact i
/-- a number's bits are those of a list of people -/
def BitsOf (J : Nat) (q : List Int) : Prop := J < 65536 ∧ ∀ b, J.testBit b = true ↔ (b : Int) ∈ q
theorem BitsOf.nil : BitsOf 0 [] := ⟨by omega, fun b => by simp⟩
theorem BitsOf.put {J : Nat} {q q' : List Int} (h : BitsOf J q) {a : Nat} (ha : a < 16) (hq : ∀ y, y ∈ q' ↔ y = (a : Int) ∨ y ∈ q) : BitsOf (J ||| 2 ^ a) q' := by
  refine ⟨or_lt h.1 ha, fun b => ?_⟩
  rw [Nat.testBit_or, Bool.or_eq_true, h.2 b, Nat.testBit_two_pow, decide_eq_true_eq, hq]
  constructor
  · rintro (h | h)
    · exact .inr h
    · exact .inl (by omega)
  · rintro (h | h)
    · exact .inr (by omega)
    · exact .inl h
theorem off_bit {T b : Nat} (hT : T < 65536) (hb : b < 16) : (65535 - T).testBit b = !T.testBit b := by
  have h := Nat.testBit_two_pow_sub_succ (x := T) (n := 16) (by simpa using hT) b
  have e : (2 : Nat) ^ 16 - (T + 1) = 65535 - T := by omega
  rw [e] at h
  rw [h]
  simp [hb]
/-- who is tied to all: no bit is left -/
theorem BitsOf.knows {J : Nat} {q : List Int} (h : BitsOf J q) {n : Nat} (hq : IsUp n q) (hn : n ≤ 16) {t : Nat → Nat → Bool} {T a : Nat} (hT : T < 65536) (hb : ∀ b, b < 16 → T.testBit b = t a b) :
    decide (J &&& (65535 - T) = 0) = knowsL t q a := by
  rw [Bool.eq_iff_iff, decide_eq_true_eq]
  unfold knowsL
  rw [List.all_eq_true]
  constructor
  · intro h0 y hy
    have hy0 := hq.lt y hy
    have h1 := (h.2 y.toNat).2 (by rwa [Int.toNat_of_nonneg hy0.1])
    have h2 : (J &&& (65535 - T)).testBit y.toNat = false := by rw [h0]; simp
    rw [Nat.testBit_and, h1, Bool.true_and, off_bit hT (by omega), hb _ (by omega)] at h2
    simpa using h2
  · intro hall
    refine Nat.eq_of_testBit_eq fun b => ?_
    rw [Nat.zero_testBit, Nat.testBit_and]
    cases e : J.testBit b with
    | false => rfl
    | true =>
      have hm := (h.2 b).1 e
      have h0 := hq.lt _ hm
      have h1 := hall _ hm
      rw [Int.toNat_natCast] at h1
      rw [off_bit hT (by omega), hb _ (by omega), h1]
      rfl
/-- a group is a rising list of people who are tied -/
theorem group_up {p : Int} {l : PL} {q : List Int} (h : isGroupI p l q = true) : IsUp p.toNat q := by
  have hc : isChoiceI p q = true := by
    cases e : isChoiceI p q with
    | true => rfl
    | false => rw [groups_not e] at h; cases h
  exact ⟨isChoiceI_sorted hc, fun x hx => by have := isChoiceI_mem hc x hx; omega⟩
def resGrowGroup (p : Int) (l : PL) (q : List Int) : List Int × Bool := if isP p l && isGroupI p l q then (growI (adj l) q p.toNat, true) else ([], false)
theorem resGrowGroup_len (p : Int) (l : PL) (q : List Int) : (resGrowGroup p l q).1.length ≤ 1048576 := by
  unfold resGrowGroup
  split
  · rename_i h
    simp only [Bool.and_eq_true] at h
    have hn := isP_range h.1
    have hp2 : isP (p.toNat : Int) l = true := by rw [Int.toNat_of_nonneg hn.1]; exact h.1
    have := (growI_up (t := adj l) (adj_self hp2) (group_up h.2) p.toNat (Nat.le_refl _)).short
    simp only
    omega
  · simp
end Go.Proofs.YtnpljmipicjacaaDoor
/-
  THE MODEL's LOOK FOR ALL GROUPS ('spec.grLook', 'spec.grGroups'), by its contract: what it has found grows in a cell of its caller's.
-/
namespace Go.Proofs.YtnpljmipicjacaaDoor
open Go.RowKit

/-- the longer lists of tied candidates behind those told, in order -/
def subsC (t : Nat → Nat → Bool) : List Int → List Nat → List (List Int)
  | _, [] => []
  | told, a :: cs => (told ++ [(a : Int)]) :: (subsC t (told ++ [(a : Int)]) (cs.filter (t a)) ++ subsC t told cs)
termination_by _ cs => cs.length
decreasing_by
  · simp only [List.length_cons, List.length_unattach]
    refine Nat.lt_succ_of_le (Nat.le_trans (List.length_filter_le _ _) ?_)
    simp
  · simp
theorem subsC_nil (t : Nat → Nat → Bool) (told : List Int) : subsC t told [] = [] := by simp [subsC]
theorem subsC_cons (t : Nat → Nat → Bool) (told : List Int) (a : Nat) (cs : List Nat) : subsC t told (a :: cs) = (told ++ [(a : Int)]) :: (subsC t (told ++ [(a : Int)]) (cs.filter (t a)) ++ subsC t told cs) := by rw [subsC]
theorem subsC_few (t : Nat → Nat → Bool) : ∀ (told : List Int) (cs : List Nat), (subsC t told cs).length + 1 ≤ 2 ^ cs.length := by
  intro told cs
  induction h : cs.length using Nat.strongRecOn generalizing told cs with
  | _ n ih =>
    match cs with
    | [] => rw [subsC_nil]; simp at h; subst h; simp
    | a :: cs =>
      simp only [List.length_cons] at h
      have h0 : (cs.filter (t a)).length ≤ cs.length := List.length_filter_le _ _
      have h1 := ih (cs.filter (t a)).length (by omega) (told ++ [(a : Int)]) _ rfl
      have h2 := ih cs.length (by omega) told _ rfl
      have h3 : 2 ^ (cs.filter (t a)).length ≤ 2 ^ cs.length := Nat.pow_le_pow_right (by omega) h0
      rw [subsC_cons, ← h, Nat.pow_succ]
      simp only [List.length_cons, List.length_append]
      omega
/-- the world behind a look: all below the found one's cell is as it was, and all rows of numbers above it -/
structure Kept (o : Nat) (w w' : World) : Prop where
  low : Below o w w'
  rows : ∀ (A : Option Addr) (c : Nat) (x : List Int), w.ownsRow (o + 1) 3 1 (.slice A x.length c) x.length (icells x) → w'.ownsRow (o + 1) 3 1 (.slice A x.length c) x.length (icells x)
theorem Kept.refl (o : Nat) (w : World) : Kept o w w := ⟨Below.refl _ _, fun _ _ _ h => h⟩
theorem Kept.trans {o : Nat} {a b c : World} (h : Kept o a b) (k : Kept o b c) : Kept o a c := ⟨h.low.trans k.low, fun A c x hx => k.rows A c x (h.rows A c x hx)⟩
theorem Kept.of_below {o : Nat} {w w' : World} (h : Below w.heap.size w w') (ho : o ≤ w.heap.size) : Kept o w w' := ⟨h.mono ho, fun _ _ _ hx => own_below hx h (Nat.le_refl _)⟩
/-- what has been found, in its cell -/
structure Found (w : World) (o : Nat) (LL : List (List Int)) (A : Option Addr) (c : Nat) (hs : List Value) : Prop where
  box : w.heap[o]? = some (.cells #[.slice A LL.length c] 42 (0, 0))
  rows : LRows w (o + 1) (.slice A LL.length c) LL hs
section
variable {w w' : World} {o c : Nat} {LL : List (List Int)} {A : Option Addr} {hs : List Value}
theorem Found.lt (h : Found w o LL A c hs) : o < w.heap.size := (Array.getElem?_eq_some_iff.1 h.box).1
theorem Found.below (h : Found w o LL A c hs) (hb : Below w.heap.size w w') : Found w' o LL A c hs := ⟨by rw [hb.block o h.lt]; exact h.box, h.rows.below hb⟩
theorem Found.cell (h : Found w o LL A c hs) : w.cell? ⟨o, 0, none⟩ = some (.slice A LL.length c) := by rw [cell_of_row _ _ _ _ _ _ h.box]; rfl
theorem Found.thawed (h : Found w o LL A c hs) : w.frozen? ⟨o, 0, none⟩ = false := frozen_of_row _ _ 0 _ _ h.box
theorem Found.push (h : Found w o LL A c hs) {q : List Int} {A2 : Option Addr} {c2 : Nat} (own2 : w.ownsRow (o + 1) 3 1 (.slice A2 q.length c2) q.length (icells q))
    {w3 : World} {g3 c3 : Nat} (own3 : w3.ownsRow (o + 1) 25 1 (.slice (some ⟨g3, 0, none⟩) (LL.length + 1) c3) (LL.length + 1) (hs ++ [.slice A2 q.length c2]))
    (gr3 : (w.alloc (Obj.cells #[.slice A2 q.length c2] 25)).grownBy w3 (Value.slice A LL.length c).ownBlock) :
    w3.cell? ⟨o, 0, none⟩ = some (.slice A LL.length c) ∧ w3.frozen? ⟨o, 0, none⟩ = false ∧ w3.heap.size ≥ w.heap.size ∧
    Found (w3.setCell ⟨o, 0, none⟩ (.slice (some ⟨g3, 0, none⟩) (LL.length + 1) c3)) o (LL ++ [q]) (some ⟨g3, 0, none⟩) c3 (hs ++ [.slice A2 q.length c2]) ∧ Kept o w (w3.setCell ⟨o, 0, none⟩ (.slice (some ⟨g3, 0, none⟩) (LL.length + 1) c3)) := by
  obtain ⟨X, hX⟩ : ∃ X, w.alloc (Obj.cells #[.slice A2 q.length c2] 25) = X := ⟨_, rfl⟩
  have kX : Below w.heap.size w X := by rw [← hX]; go_grown
  have zX : X.heap.size = w.heap.size + 1 := by rw [← hX]; simp
  have nX : X.heap[w.heap.size]? = some (Obj.cells #[.slice A2 q.length c2] 25 (0, 0)) := by rw [← hX]; exact heap_alloc_new w _
  rw [hX] at gr3
  have hlt := h.lt
  have fX := h.below kX
  have ne : some o ≠ (Value.slice A LL.length c).ownBlock := fun e => by have := (fX.rows.own.lt o e.symm).1; omega
  have b3 : w3.heap[o]? = some (.cells #[.slice A LL.length c] 42 (0, 0)) := by rw [gr3.block o fX.lt ne]; exact fX.box
  have s3 := gr3.size
  have r2 : LRows X (o + 1) (.slice (some ⟨w.heap.size, 0, none⟩) 1 1) [q] [.slice A2 q.length c2] := ⟨⟨by simp, .inr ⟨w.heap.size, 1, _, rfl, by omega, nX, Nat.le_refl _, by simp [maxLen], by simp, by simp⟩⟩, fun i l hi => by
    match i with
    | 0 => simp at hi; subst hi; exact ⟨A2, c2, rfl, own_below own2 kX (Nat.le_refl _)⟩
    | i + 1 => simp at hi, fun e => by simp at e⟩
  have el : (LL ++ [q]).length = LL.length + 1 := by simp
  have r3 := LRows.append fX.rows r2 own3 gr3 (by simp)
  have setg : ∀ v, w3.grownBy (w3.setCell ⟨o, 0, none⟩ v) (some o) := fun v => ⟨rfl, rfl, rfl, by simp, fun k _ hk => heap_setCell_other _ _ _ _ (fun e => hk (by rw [e]))⟩
  have low : ∀ {e : TypeId} {size n : Nat} {v : Value} {xs : List Value}, w3.ownsRow (o + 1) e size v n xs → ∀ u, (w3.setCell ⟨o, 0, none⟩ u).ownsRow (o + 1) e size v n xs := fun hv u => hv.kept (setg u) (.inr fun e => by have := (hv.lt o e).1; omega)
  refine ⟨by rw [cell_of_row _ _ _ _ _ _ b3]; rfl, frozen_of_row _ _ 0 _ _ b3, by omega, ⟨by rw [el]; exact heap_setCell_same w3 o 0 _ _ _ b3, ⟨by rw [el]; have e3 := r3.own; rw [el] at e3; exact low e3 _, fun i l hi => ?_, fun e => by simp at e⟩⟩, ?_, ?_⟩
  · obtain ⟨Ai, ci, e, oi⟩ := r3.row i l hi
    exact ⟨Ai, ci, e, low oi _⟩
  · exact (((kX.mono (Nat.le_of_lt hlt)).grown gr3 (by omega) (fun k hk => by have := (fX.rows.own.lt k hk).1; omega)).setCell (p := ⟨o, 0, none⟩) (Nat.le_refl _) _)
  · intro B d x hx
    have hx2 := own_below hx kX (Nat.le_refl _)
    exact low (hx2.kept gr3 (blocks_apart fX.rows.own hx2 (show (25 : TypeId) ≠ 3 by decide))) _
end

set_option maxHeartbeats 1000000 in
set_option maxRecDepth 100000 in
theorem grJoins_any (n a : Nat) (t : Nat → Nat → Bool) (A : Option Addr) (c : Nat) (G : Nat → Nat) (B : Nat) (q : List Int) (Bq : Option Addr) (d : Nat) (w : World) (hn : n ≤ 12) (ha : a < n) (tab : TabG w B (.slice A n c) n n G t)
    (hq : ∀ x ∈ q, 0 ≤ x ∧ x < n) (hlq : q.length ≤ 1048576) (hB : CRead w w.heap.size Bq (icells q)) :
    Calls Tryd.prog 40 #[.slice A n c, .slice Bq q.length d, .int .i64 a] w fun e w' => e = .returned (.bool (q.all fun y => t a y.toNat)) ∧ w = w' := by
  obtain ⟨g, rfl⟩ := own_form tab.own (by omega)
  have d0 := tab.outer ha
  have hai : (a : Int) < n := by omega
  go_enter Tryd.func40, Tryd.ntmps40
  go_wp2
  go_loop [11] (fun i => ∃ k : Nat, k ≤ q.length ∧ i = .int .i64 k ∧ ∀ (j : Nat) (x : Int), j < k → q[j]? = some x → t a x.toNat = true) (fun i => q.length - (intOf i).toNat)
  case atStart => exact ⟨0, Nat.zero_le _, rfl, fun j x hj => by omega⟩
  case round =>
    obtain ⟨k, hk, rfl, hg⟩ := hrel
    have Hg := Lib.hid hg
    clear hg
    by_cases hlt : k < q.length
    · obtain ⟨x, hx⟩ := getSome q k hlt
      obtain ⟨b, off, rfl, hbb, c0⟩ := hB.int hx
      have hx0 := hq x (List.mem_of_getElem? hx)
      obtain ⟨y, rfl⟩ : ∃ y : Nat, x = y := ⟨x.toNat, by omega⟩
      have hki : (k : Int) < (q.length : Int) := by omega
      have hyi : (y : Int) < n := by omega
      have d1 := tab.cell ha (show y < n by omega)
      have Hx := Lib.hid hx
      clear hx
      cases ht : t a y with
      | false =>
        have e : (q.all fun y => t a y.toNat) = false := by
          rw [List.all_eq_false]
          exact ⟨_, List.mem_of_getElem? Hx.out, by simp [ht]⟩
        have He := Lib.hid e
        rw [ht] at d1
        clear e ht
        go_wp2
        go_ret
        exact ⟨by rw [He.out]; rfl, rfl⟩
      | true =>
        rw [ht] at d1
        have Ht := Lib.hid ht
        clear ht
        go_wp2
        go_round
        case rel =>
          refine ⟨k + 1, by omega, by go_num, fun j z hj hz => ?_⟩
          by_cases hjk : j = k
          · subst hjk
            rw [Hx.out] at hz
            simp only [Option.some.injEq] at hz
            subst hz
            exact Ht.out
          · exact Hg.out j z (by omega) hz
        case measure => simp [intOf]; omega
    · have hkl : k = q.length := by omega
      have hge : ¬ ((k : Int) < (q.length : Int)) := by omega
      have e : (q.all fun y => t a y.toNat) = true := by
        rw [List.all_eq_true]
        intro x hx
        obtain ⟨j, hj, e⟩ := List.getElem_of_mem hx
        exact Hg.out j x (by omega) (by rw [List.getElem?_eq_getElem hj, e])
      have He := Lib.hid e
      clear e
      go_wp2
      go_ret
      exact ⟨by rw [He.out]; rfl, rfl⟩
set_option maxHeartbeats 4000000 in
set_option maxRecDepth 100000 in
theorem grLook_any (n : Nat) (hn : n ≤ 12) (t : Nat → Nat → Bool) (hsym : ∀ i j, t i j = t j i) (At : Option Addr) (ct : Nat) (G : Nat → Nat) (B0 : Nat) (wt : World) (tab : TabG wt B0 (.slice At n ct) n n G t) (o : Nat) (hwo : wt.heap.size ≤ o) :
    ∀ (m f : Nat) (q : List Int) (A : Option Addr) (c : Nat) (w : World) (LL : List (List Int)) (A0 : Option Addr) (c0 : Nat) (hs0 : List Value), n - f ≤ m → f ≤ n → q.length ≤ f → Below o wt w → (∀ x ∈ q, 0 ≤ x ∧ x < n) →
    w.ownsRow (o + 1) 3 1 (.slice A q.length c) q.length (icells q) → (q = [] → A = none ∧ c = 0) → Found w o LL A0 c0 hs0 → LL.length + (subsC t q (candR t n q f)).length + 1 ≤ 4096 →
    Calls Tryd.prog 90 #[.slice At n ct, .slice A q.length c, .int .i64 f, .pointer (some ⟨o, 0, none⟩)] w fun e w' => e = .returned (.tuple #[]) ∧ Kept o w w' ∧ ∃ A' c' hs', Found w' o (LL ++ (q :: subsC t q (candR t n q f))) A' c' hs' := by
  obtain ⟨i0, hi, hz0, hz1, hz2⟩ := info_parts Tryd.infoInt
  obtain ⟨i1, hj, hy0, hy1, hy2⟩ := info_parts Tryd.infoIntsG
  have Tab := Lib.hid tab
  clear tab
  intro m
  induction m using Nat.strongRecOn with
  | _ m ih =>
    intro f q A c w LL A0 c0 hs0 hm hf hqf hwt hq own hnil found hfew
    have hlt0 := found.lt
    have cell0 := found.cell
    have thaw0 := found.thawed
    have hLf : LL.length ≤ 4096 := by omega
    obtain ⟨R, hR⟩ : ∃ R, q :: subsC t q (candR t n q f) = R := ⟨_, rfl⟩
    rw [hR]
    have HR := Lib.hid hR
    have Hq := Lib.hid hq
    have Hfew := Lib.hid hfew
    have Hnil := Lib.hid hnil
    have Found0 := Lib.hid found
    have Own0 := Lib.hid own
    have hq100 : q.length ≤ 1048576 := by omega
    clear hR hq hfew hnil found own
    go_enter Tryd.func90, Tryd.ntmps90
    go_wp2_with fail
    go_region_law (first
      | (go_simp; go_at_call 38; refine (l1Own_all q A c w.drew hq100 (CRead.of_own (own_below Own0.out ((Below.refl _ _).drew) (Nat.le_refl _))) Hnil.out).mono ?_; rintro e w2 ⟨A2, c2, rfl, own2, hb2⟩; have hX2 : Below w.heap.size w w2 := (Below.refl _ _).drew.trans hb2; have found2 := Found0.out.below hX2; have s2 := hX2.size; have kq : ∀ ob : Obj, (w2.alloc ob).cell? ⟨o, 0, none⟩ = some (.slice A0 LL.length c0) := fun ob => (World.cell?_alloc_lt w2 _ _ (by simp; omega)).trans found2.cell; have r1 := found2.cell)
      | (refine step_append_lies _ (by rfl) _ _ _ (by rfl) (o + 1) 25 i1 _ 1 24 Tryd.underlying42 hj hy0 hy1 hy2 (by rfl) (by decide) _ LL.length hs0 (by rfl) (found2.rows.own.alloc _) ⟨w2.heap.size, 0, none⟩ 1 1 [.slice A2 q.length c2] (by rfl) rfl (one_cell (by simp)) (one_one rfl) (by decide) (by unfold maxLen; omega) (by omega) (by simp; omega) (w2.heap.size + 1) (by simp) ?_; intro g3 c3 w3 own3 gr3 hat3 hlt3; obtain ⟨y0, y1, y2, found3, kept3⟩ := found2.push (own_lower own2 (by simp; omega)) own3 gr3))
    all_goals
      have kw3 := (Kept.of_below hX2 (Nat.le_of_lt hlt0)).trans kept3
      obtain ⟨X, hX⟩ : ∃ X, w3.setCell { block := o, off := 0 } (Value.slice (some { block := g3, off := 0 }) (LL.length + 1) c3) = X := ⟨_, rfl⟩
      rw [hX] at found3 kw3 ⊢
      clear hX kept3 own3 gr3 hat3 hlt3 y0 y1 y2 own2 hX2 found2 s2 hb2 kq r1 cell0 thaw0
      have Kw3 := Lib.hid kw3
      have Found3 := Lib.hid found3
      clear kw3 found3
      go_wp2_with fail
      go_loopw [8] (fun i wr => ∃ (a : Nat) (done : List (List Int)) (A' : Option Addr) (c' : Nat) (hs' : List Value), f ≤ a ∧ a ≤ n ∧ i = .int .i64 a ∧ Kept o w wr ∧ Found wr o done A' c' hs' ∧ LL ++ R = done ++ subsC t q (candR t n q a)) (fun i _ => n - (intOf i).toNat)
      case atStart => exact ⟨f, LL ++ [q], _, _, _, Nat.le_refl _, hf, rfl, Kw3.out, Found3.out, by rw [← HR.out]; simp⟩
      case round =>
        clear Kw3 Found3
        obtain ⟨a, done, A', c', hs', hfa, han, rfl, kr, foundr, hL⟩ := hrel
        have lowr : Below o wt wr := hwt.trans kr.low
        have tabr := Tab.out.below lowr hwo
        have ownr := kr.rows A c q Own0.out
        have hltr := foundr.lt
        have hLl := congrArg List.length hL
        rw [List.length_append, List.length_append] at hLl
        have hRl : R.length = (subsC t q (candR t n q f)).length + 1 := by rw [← HR.out]; simp
        have hfw := Hfew.out
        have HL := Lib.hid hL
        have Kr := Lib.hid kr
        have Foundr := Lib.hid foundr
        have Ownr := Lib.hid ownr
        have Tabr := Lib.hid tabr
        have Lowr := Lib.hid lowr
        clear hL kr foundr ownr tabr lowr
        by_cases hlt : a < n
        · have hai : (a : Int) < n := by omega
          go_wp2_with fail
          refine (grJoins_any n a t At ct G B0 q A c _ hn hlt Tabr.out Hq.out hq100 (CRead.of_own Ownr.out)).mono ?_
          rintro e w1 ⟨rfl, rfl⟩
          cases hk : (q.all fun y => t a y.toNat) with
          | false =>
            have Hk := Lib.hid hk
            clear hk
            go_wp2
            go_roundw
            case rel => exact ⟨a + 1, done, A', c', hs', by omega, by omega, by go_num, Kr.out, Foundr.out, by rw [HL.out, candR_no hlt Hk.out]⟩
            case measure => simp [intOf]; omega
          | true =>
            have Hk := Lib.hid hk
            clear hk
            go_wp2_with fail
            refine (l1Own_all q A c wr hq100 (CRead.of_own Ownr.out) Hnil.out).mono ?_
            rintro e w5 ⟨A5, c5, rfl, own5, hb5⟩
            have s5 := hb5.size
            go_wp2_with (at_builtin; refine wpList_append_own _ rfl _ _ 25 rfl wr.heap.size 3 i0 _ 1 8 Tryd.underlying25 hi hz0 hz1 hz2 rfl (by decide) _ _ _ rfl (own5.alloc _) ⟨w5.heap.size, 0, none⟩ 1 1 [.int .i64 a] rfl rfl (one_cell (by simp)) (one_one rfl) (by unfold maxLen; omega) (by omega) (by simp; omega) ?_; intro v6 w6 own6 gr6 _; obtain ⟨A6, c6, rfl, _⟩ := own_shape own6)
            have hb6 : Below wr.heap.size wr w6 := (hb5.alloc s5 _).grown gr6 (by simp; omega) (fun k hk => (own5.lt k hk).1)
            have k6 := Kr.out.trans (Kept.of_below hb6 (Nat.le_of_lt hltr))
            have found6 := Foundr.out.below hb6
            have hll : (q ++ [(a : Int)]).length = q.length + 1 := by simp
            have e1 := candR_yes hlt Hk.out
            have e2 := candR_tied hsym n q a
            rw [show fromQ (q ++ [(a : Int)]) = a + 1 from by unfold fromQ; simp] at e2
            have hL2 := HL.out
            rw [e1, subsC_cons, e2] at hL2
            have hl2 := congrArg List.length hL2
            simp only [List.length_append, List.length_cons] at hl2
            have hfew6 : done.length + (subsC t (q ++ [(a : Int)]) (candR t n (q ++ [(a : Int)]) (a + 1))).length + 1 ≤ 4096 := by omega
            have ihc := ih (n - (a + 1)) (by omega) (a + 1) (q ++ [(a : Int)]) A6 c6 w6 done A' c' hs' (Nat.le_refl _) (by omega) (by rw [hll]; omega) (hwt.trans k6.low) (fun x hx => by rcases List.mem_append.1 hx with h | h; exact Hq.out x h; simp at h; omega)
              (by rw [icells_append, hll]; exact own_lower own6 (by omega)) (fun e => by simp at e) found6 hfew6
            rw [hll, show (((a + 1 : Nat)) : Int) = (a : Int) + 1 from by omega] at ihc
            have IHC := Lib.hid ihc
            have K6 := Lib.hid k6
            have HL2 := Lib.hid hL2
            clear ihc own5 own6 gr6 hb5 hb6 found6 k6 hL2 hl2 e1 e2 hLl HL Foundr Ownr Tabr
            go_wp2_with fail
            refine IHC.out.mono ?_
            rintro e w7 ⟨rfl, kept7, A7, c7, hs7, found7⟩
            have k7 := K6.out.trans kept7
            clear IHC kept7
            go_wp2
            go_roundw
            case rel => exact ⟨a + 1, _, A7, c7, hs7, by omega, by omega, by go_num, k7, found7, by rw [HL2.out]; simp⟩
            case measure => simp [intOf]; omega
        · have hal : a = n := by omega
          subst hal
          have hge : ¬ ((a : Int) < a) := by omega
          have e := HL.out
          rw [candR_end _ _ _ (Nat.le_refl _), subsC_nil, List.append_nil] at e
          have HE := Lib.hid e
          clear e HL
          go_wp2
          refine show _ = [] ∧ _ from ⟨rfl, .tuple #[], by simp [results, Tryd.results90, go_sem], ?_⟩
          exact ⟨rfl, Kr.out, A', c', hs', by rw [HE.out]; exact Foundr.out⟩
set_option maxHeartbeats 1000000 in
set_option maxRecDepth 100000 in
theorem grGroups_any (n : Nat) (hn : n ≤ 12) (t : Nat → Nat → Bool) (hsym : ∀ i j, t i j = t j i) (At : Option Addr) (ct : Nat) (G : Nat → Nat) (B0 : Nat) (w : World) (tab : TabG w B0 (.slice At n ct) n n G t) :
    Calls Tryd.prog 82 #[.slice At n ct] w (GotLL w ([] :: subsC t [] (List.range n))) := by
  have hc : candR t n [] 0 = List.range n := by
    unfold candR
    rw [List.filter_eq_self.2 (by simp), Nat.sub_zero, List.range_eq_range']
  have hfew := subsC_few t [] (List.range n)
  have h12 : 2 ^ (List.range n).length ≤ 2 ^ 12 := Nat.pow_le_pow_right (by omega) (by simp; omega)
  obtain ⟨X, hX⟩ : ∃ X, w.alloc (Obj.cells #[.slice none 0 0] 42) = X := ⟨_, rfl⟩
  have kX : Below w.heap.size w X := by rw [← hX]; go_grown
  have fX : Found X w.heap.size [] none 0 [] := ⟨by rw [← hX]; exact heap_alloc_new w _, LRows.none _ _⟩
  have g := grLook_any n hn t hsym At ct G B0 w tab w.heap.size (Nat.le_refl _) n 0 [] none 0 X [] none 0 [] (by omega) (by omega) (by simp) kX (by simp) (World.ownsRow_nil _ _ _ _) (fun _ => ⟨rfl, rfl⟩) fX (by rw [hc]; simp; omega)
  rw [hc] at g
  simp only [List.nil_append, List.length_nil] at g
  obtain ⟨R, hR⟩ : ∃ R, [] :: subsC t [] (List.range n) = R := ⟨_, rfl⟩
  rw [hR] at g ⊢
  have Gg := Lib.hid g
  have HX := Lib.hid hX
  have KX := Lib.hid kX
  clear g hX kX fX hfew h12 hR hc
  go_enter Tryd.func82, Tryd.ntmps82
  go_wp2_with fail
  rw [HX.out]
  refine Gg.out.mono ?_
  rintro e w4 ⟨rfl, kept, A4, c4, hs4, found4⟩
  have cell4 := found4.cell
  have k4 := KX.out.trans kept.low
  have rows4 := found4.rows.lower (B' := w.heap.size) (by omega)
  clear found4 kept Gg
  go_wp2
  go_ret
  exact ⟨A4, c4, hs4, rfl, rows4, k4⟩
theorem subsC_longer (t : Nat → Nat → Bool) : ∀ (told : List Int) (cs : List Nat), ∀ l ∈ subsC t told cs, told.length < l.length := by
  intro told cs
  induction h : cs.length using Nat.strongRecOn generalizing told cs with
  | _ n ih =>
    match cs with
    | [] => rw [subsC_nil]; simp
    | a :: cs =>
      simp only [List.length_cons] at h
      have h0 : (cs.filter (t a)).length ≤ cs.length := List.length_filter_le _ _
      rw [subsC_cons]
      intro l hl
      rcases List.mem_cons.1 hl with rfl | hl
      · simp
      · rcases List.mem_append.1 hl with hl | hl
        · have := ih _ (by omega) (told ++ [(a : Int)]) _ rfl l hl
          simp at this
          omega
        · exact ih _ (by omega) told cs rfl l hl
theorem subsC_size (t : Nat → Nat → Bool) : ∀ (k : Nat) (told : List Int) (cs : List Nat), (told :: subsC t told cs).filter (fun l => l.length == told.length + k) = listsC t k told cs := by
  intro k told cs
  induction h : cs.length using Nat.strongRecOn generalizing k told cs with
  | _ n ih =>
    match k with
    | 0 =>
      rw [listsC_zero, List.filter_cons_of_pos (by simp), List.filter_eq_nil_iff.2 (fun l hl => by have := subsC_longer t told cs l hl; simp; omega)]
    | k + 1 =>
      rw [List.filter_cons_of_neg (by simp)]
      match cs with
      | [] => rw [subsC_nil, listsC_nil]; rfl
      | a :: cs =>
        simp only [List.length_cons] at h
        have h0 : (cs.filter (t a)).length ≤ cs.length := List.length_filter_le _ _
        have h1 := ih (cs.filter (t a)).length (by omega) k (told ++ [(a : Int)]) _ rfl
        have h2 := ih cs.length (by omega) (k + 1) told cs rfl
        rw [List.filter_cons_of_neg (by simp)] at h2
        rw [show (told ++ [(a : Int)]).length + k = told.length + (k + 1) from by simp; omega] at h1
        rw [subsC_cons, ← List.cons_append, List.filter_append, h1, h2, listsC_cons]
theorem subsC_has {t : Nat → Nat → Bool} {cs : List Nat} {k : Nat} : (listsC t k [] cs).isEmpty = false ↔ ∃ l ∈ ([] :: subsC t [] cs), l.length = k := by
  rw [← subsC_size t k [] cs]
  simp only [List.isEmpty_eq_false_iff_exists_mem, List.mem_filter, beq_iff_eq, List.length_nil, Nat.zero_add]
theorem subsC_short (t : Nat → Nat → Bool) : ∀ (told : List Int) (cs : List Nat), ∀ l ∈ subsC t told cs, l.length ≤ told.length + cs.length := by
  intro told cs
  induction h : cs.length using Nat.strongRecOn generalizing told cs with
  | _ n ih =>
    match cs with
    | [] => rw [subsC_nil]; simp
    | a :: cs =>
      simp only [List.length_cons] at h
      have h0 : (cs.filter (t a)).length ≤ cs.length := List.length_filter_le _ _
      rw [subsC_cons]
      intro l hl
      rcases List.mem_cons.1 hl with rfl | hl
      · simp; omega
      · rcases List.mem_append.1 hl with hl | hl
        · have := ih _ (by omega) (told ++ [(a : Int)]) _ rfl l hl
          simp at this
          omega
        · have := ih _ (by omega) told cs rfl l hl
          omega
end Go.Proofs.YtnpljmipicjacaaDoor
