/-
  'GroupNumbers': the model's and the program's, by their contracts.
-/
import Derived.Test.YtgccapdjhnejcaaDoorCountG
import Derived.Test.YtgccapdjhnejcaaDoorGrAtP
import Derived.Test.YtgccapdjhnejcaaDoorGot
import Derived.Deep.RegionHeld3
namespace Go.Proofs.YtgccapdjhnejcaaDoor
open Go.RowKit

def cntL (L : List (List Int)) (k : Nat) : Nat := L.countP fun l => l.length == k
def numsB (L : List (List Int)) (M : Nat) : List Int := (List.range M).map fun k => (cntL L k : Int)
theorem numsB_length (L : List (List Int)) (M : Nat) : (numsB L M).length = M := by simp [numsB]
theorem numsB_at (L : List (List Int)) {M k : Nat} (h : k < M) : (numsB L M)[k]? = some (cntL L k : Int) := by simp [numsB, h]
theorem numsB_grow {L : List (List Int)} {M : Nat} (h : ∀ l ∈ L, l.length < M) : numsB L (M + 1) = numsB L M ++ [0] := by
  have : cntL L M = 0 := List.countP_eq_zero.2 fun l hl hc => by have := h l hl; simp at hc; omega
  simp [numsB, List.range_succ, this]
theorem cntL_append (L : List (List Int)) (q : List Int) (k : Nat) : cntL (L ++ [q]) k = cntL L k + (if q.length = k then 1 else 0) := by
  unfold cntL
  rw [List.countP_append]
  simp [List.countP_cons]
theorem numsB_set {L : List (List Int)} {M : Nat} {q : List Int} : (numsB L M).set q.length ((cntL L q.length : Int) + 1) = numsB (L ++ [q]) M := by
  refine List.ext_getElem (by simp [numsB]) fun i h1 h2 => ?_
  rw [List.getElem_set]
  simp only [numsB, List.getElem_map, List.getElem_range, cntL_append]
  split
  · rename_i h; subst h; simp
  · rfl
def groupNums (n : Nat) (l : PL) : List Int := numsK (adj l) (List.range n) (topK (adj l) (List.range n))
theorem groupNums_of {n : Nat} {l : PL} {M : Nat} (h1 : ∀ x ∈ ([] :: subsC (adj l) [] (List.range n)), x.length < M) (h2 : M = 0 ∨ ∃ x ∈ ([] :: subsC (adj l) [] (List.range n)), x.length + 1 = M) :
    numsB ([] :: subsC (adj l) [] (List.range n)) M = groupNums n l := by
  have hM : M = topK (adj l) (List.range n) := by
    refine Nat.le_antisymm ?_ ?_
    · rcases h2 with h2 | ⟨x, hx, h2⟩
      · omega
      · refine Nat.le_of_not_lt fun hlt => ?_
        have := (subsC_has (t := adj l) (cs := List.range n) (k := x.length)).2 ⟨x, hx, rfl⟩
        rw [topK_over (by omega)] at this
        simp at this
    · refine Nat.le_of_not_lt fun hlt => ?_
      obtain ⟨x, hx, hxk⟩ := subsC_has.1 (topK_some hlt)
      have := h1 x hx
      omega
  subst hM
  unfold groupNums numsB numsK
  refine List.map_congr_left fun k _ => ?_
  have := subsC_size (adj l) k [] (List.range n)
  unfold cntL
  rw [List.countP_eq_length_filter, ← this]
  simp
def resGroupNumbers (p : Int) (l : PL) : List Int × Bool := if isP p l then (groupNums p.toNat l, true) else ([], false)
theorem resGroupNumbers_len (p : Int) (l : PL) : (resGroupNumbers p l).1.length ≤ 1048576 := by
  unfold resGroupNumbers
  split
  · rename_i h
    have h1 := isP_range h
    have h2 := topK_le (adj l) (List.range p.toNat)
    simp only [groupNums, numsK_length]
    simp at h2
    omega
  · simp

set_option maxHeartbeats 4000000 in
set_option maxRecDepth 100000 in
theorem specGroupNumbers_any (p : Int) (l : PL) (A : Option Addr) (c : Nat) (w : World) (hl : l.length ≤ 1048576) (hA : CRead w w.heap.size A (pcells l)) :
    Calls Tryd.prog 26 #[.agg #[.int .i64 p, .slice A l.length c]] w (GotIntsOk w (resGroupNumbers p l).1 (resGroupNumbers p l).2) := by
  obtain ⟨i0, hi, hz0, hz1, hz2⟩ := info_parts Tryd.infoInt
  have hr : CRead (w.alloc (Obj.cells #[.int .i64 p, .slice A l.length c] 31)) (w.alloc (Obj.cells #[.int .i64 p, .slice A l.length c] 31)).heap.size A (pcells l) := (hA.below (B' := w.heap.size) (by go_grown) (Nat.le_refl _)).more (by go_size)
  cases hp : isP p l with
  | false =>
    have e : resGroupNumbers p l = ([], false) := by simp [resGroupNumbers, hp]
    rw [e]
    have Hp := Lib.hid hp
    clear hp e
    go_enter Tryd.func26, Tryd.ntmps26
    go_wp2_with fail
    refine (paGood_any _ _ _ _ _ hl hr).mono ?_
    rw [Hp.out]
    rintro e w2 ⟨rfl, hb2⟩
    simp only [World.size_alloc] at hb2
    go_wp2
    go_ret2
    exact ⟨none, 0, rfl, World.ownsRow_nil _ _ _ _, Below.trans (b := _) (by go_grown) (hb2.mono (by omega))⟩
  | true =>
    obtain ⟨n, rfl⟩ : ∃ n : Nat, p = n := ⟨p.toNat, by have := isP_range hp; omega⟩
    have hn := isP_range hp
    have e : resGroupNumbers n l = (groupNums n l, true) := by simp [resGroupNumbers, hp]
    rw [e]
    have hof := fun M => groupNums_of (n := n) (l := l) (M := M)
    have hsz : ∀ l3 ∈ ([] :: subsC (adj l) [] (List.range n)), l3.length ≤ 12 := fun l3 h3 => by
      rcases List.mem_cons.1 h3 with rfl | h3
      · simp
      · have := subsC_short _ _ _ l3 h3
        simp at this
        omega
    have hfew : ([] :: subsC (adj l) [] (List.range n)).length ≤ 4096 := by
      have h1 := subsC_few (adj l) [] (List.range n)
      have h2 : 2 ^ (List.range n).length ≤ 2 ^ 12 := Nat.pow_le_pow_right (by omega) (by simp; omega)
      simp only [List.length_cons]
      omega
    obtain ⟨LL, hLL⟩ : ∃ LL, [] :: subsC (adj l) [] (List.range n) = LL := ⟨_, rfl⟩
    obtain ⟨R, hR⟩ : ∃ R, groupNums n l = R := ⟨_, rfl⟩
    simp only [hLL, hR] at hof
    rw [hLL] at hfew hsz
    rw [hR]
    have Hof := Lib.hid hof
    have Hsz := Lib.hid hsz
    have HLL := Lib.hid hLL
    have Hp := Lib.hid hp
    clear hp hof hsz hLL hR e
    go_enter Tryd.func26, Tryd.ntmps26
    go_wp2_with fail
    refine (paGood_any _ _ _ _ _ hl hr).mono ?_
    rw [Hp.out]
    rintro e w2 ⟨rfl, hb2⟩
    have s2 := hb2.size
    have k2 : Below w.heap.size w w2 := Below.trans (b := _) (by go_grown) (hb2.mono (by simp))
    have c0 : w2.cell? ⟨w.heap.size, 0, none⟩ = some (.int .i64 n) := carry hb2 (by simp) (by simp)
    have c1 : w2.cell? ⟨w.heap.size, 1, none⟩ = some (.slice A l.length c) := carry hb2 (by simp) (by simp)
    simp only [World.size_alloc] at s2
    go_wp2_with fail
    refine (paTable_any _ _ _ _ _ Hp.out ((hA.below k2 (Nat.le_refl _)).more k2.size)).mono ?_
    rw [Int.toNat_natCast]
    rintro e w4 ⟨A4, c4, G, rfl, tab, hb4⟩
    have k4 := k2.trans (hb4.mono k2.size)
    have g := grGroups_any n (by omega) (adj l) (adj_comm l) A4 c4 G _ w4 tab
    rw [HLL.out] at g
    have Gg := Lib.hid g
    clear g c0 c1 tab
    go_wp2_with fail
    refine Gg.out.mono ?_
    rintro e w5 ⟨A5, c5, hs, rfl, rows, hb5⟩
    have k5 := k4.trans (hb5.mono k4.size)
    clear Gg hb2 hb4 hb5 s2
    have Rows := Lib.hid rows
    have K5 := Lib.hid k5
    clear rows k5 k2 k4 hr
    go_wp2
    go_loopw [4, 14] (fun v i wr => ∃ (j M : Nat) (B : Option Addr) (d : Nat), j ≤ LL.length ∧ i = .int .i64 j ∧ v = .slice B M d ∧ M ≤ 13 ∧ wr.ownsRow w5.heap.size 3 1 v M (icells (numsB (LL.take j) M)) ∧ (∀ x ∈ LL.take j, x.length < M) ∧ (M = 0 ∨ ∃ x ∈ LL.take j, x.length + 1 = M) ∧ Below w5.heap.size w5 wr) (fun _ i _ => LL.length - (intOf i).toNat)
    case atStart => exact ⟨0, 0, none, 0, Nat.zero_le _, by go_num, rfl, by omega, World.ownsRow_nil _ _ _ _, by simp, .inl rfl, Below.refl _ _⟩
    case round =>
      obtain ⟨j, M, B, d, hj, rfl, rfl, hM, own, hall, hatt, hb⟩ := hrel
      have s0 := hb.size
      have Own := Lib.hid own
      have Hall := Lib.hid hall
      have Hatt := Lib.hid hatt
      have Hb := Lib.hid hb
      clear own hall hatt hb
      by_cases hlt : j < LL.length
      · obtain ⟨q, hq⟩ := getSome LL j hlt
        have rowsr := Rows.out.below Hb.out
        obtain ⟨Aj, cj, hj', ownj⟩ := rowsr.row j q hq
        obtain ⟨b, off, rfl, hbb, c0⟩ := (CRead.of_own rowsr.own) j _ hj'
        have hji : (j : Int) < (LL.length : Int) := by omega
        have hq12 : q.length ≤ 12 := Hsz.out q (List.mem_of_getElem? hq)
        have Hq := Lib.hid hq
        clear hq hj' ownj rowsr
        go_wp2_with fail
        clear c0 hji
        go_loopw [4] (fun v wi => ∃ (M' : Nat) (B' : Option Addr) (d' : Nat), M ≤ M' ∧ M' ≤ 13 ∧ (M' = M ∨ M' ≤ q.length + 1) ∧ v = .slice B' M' d' ∧ wi.ownsRow w5.heap.size 3 1 v M' (icells (numsB (LL.take j) M')) ∧ Below w5.heap.size w5 wi) (fun v _ => q.length + 1 - sliceLen v)
        case atStart => exact ⟨M, B, d, Nat.le_refl _, hM, .inl rfl, rfl, Own.out, Hb.out⟩
        case round =>
          obtain ⟨M', B', d', hMM, hM', hMq, rfl, own, hbi⟩ := hrel
          have s1 := hbi.size
          by_cases hle : M' ≤ q.length
          · have hlei : (M' : Int) ≤ (q.length : Int) := by omega
            have hgrow := numsB_grow (L := LL.take j) (M := M') (fun x hx => by have := Hall.out x hx; omega)
            have Hgrow := Lib.hid hgrow
            have Own1 := Lib.hid own
            have Hbi := Lib.hid hbi
            clear hgrow own hbi
            go_wp2_with (at_builtin; refine wpList_append_own _ rfl _ _ 25 rfl w5.heap.size 3 i0 _ 1 8 Tryd.underlying25 hi hz0 hz1 hz2 rfl (by decide) _ _ _ rfl (Own1.out.alloc _) ⟨wr.heap.size, 0, none⟩ 1 1 [.int .i64 0] rfl rfl (one_cell (by simp)) (one_one rfl) (by unfold maxLen; omega) (by omega) (by simp; omega) ?_; intro v3 w3 own3 gr3 _; obtain ⟨A3, c3, rfl, _⟩ := own_shape own3)
            have hb3 : Below w5.heap.size w5 w3 := (Hbi.out.alloc (by omega) _).grown gr3 (by simp; omega) (fun k hk => (Own1.out.lt k hk).1)
            go_roundw
            case rel => exact ⟨M' + 1, A3, c3, by omega, by omega, .inr (by omega), by go_num, by rw [Hgrow.out, icells_append]; exact own3, hb3⟩
            case measure => simp [sliceLen]; omega
          · have hlei : ¬ ((M' : Int) ≤ (q.length : Int)) := by omega
            have hqM : q.length < M' := by omega
            obtain ⟨g, rfl⟩ := own_form own (by omega)
            have hat := numsB_at (LL.take j) hqM
            have cu := own_intAt own hat
            have fu := own.frozenAt q.length
            have hset := own_setInt own q.length ((cntL (LL.take j) q.length : Int) + 1)
            rw [numsB_set] at hset
            have hcu : cntL (LL.take j) q.length ≤ 4096 := Nat.le_trans List.countP_le_length (by rw [List.length_take]; omega)
            obtain ⟨C, hC⟩ : ∃ C, cntL (LL.take j) q.length = C := ⟨_, rfl⟩
            rw [hC] at cu hset hcu
            have hqi : (q.length : Int) < (M' : Int) := by omega
            have htk : LL.take (j + 1) = LL.take j ++ [q] := by rw [List.take_add_one, Hq.out]; rfl
            have hbs := hbi.setCell (p := ⟨g, q.length, none⟩) (own.lt g rfl).1 (.int .i64 ((C : Int) + 1))
            have Hset := Lib.hid hset
            have Htk := Lib.hid htk
            have Hbs := Lib.hid hbs
            clear hat own hset htk hC hbi hbs
            go_wp2
            go_roundw
            case rel =>
              refine ⟨j + 1, M', _, d', by omega, by go_num, rfl, hM', by rw [Htk.out]; exact Hset.out, ?_, ?_, Hbs.out⟩
              · rw [Htk.out]
                intro x hx
                rcases List.mem_append.1 hx with hx | hx
                · have := Hall.out x hx; omega
                · simp at hx; subst hx; exact hqM
              · rw [Htk.out]
                by_cases h : M' = q.length + 1
                · exact .inr ⟨q, by simp, h.symm⟩
                · have e : M' = M := by omega
                  subst e
                  rcases Hatt.out with h0 | ⟨x, hx, hxM⟩
                  · exact .inl h0
                  · exact .inr ⟨x, List.mem_append_left _ hx, hxM⟩
            case measure => simp [intOf]; omega
      · have hje : j = LL.length := by omega
        subst hje
        have hge : ¬ ((LL.length : Int) < (LL.length : Int)) := by omega
        have hfin := Hof.out M (by have := Hall.out; rwa [List.take_length] at this) (by have := Hatt.out; rwa [List.take_length] at this)
        have own := Own.out
        rw [List.take_length, hfin] at own
        have hRl : R.length = M := by rw [← hfin, numsB_length]
        have kk := K5.out.trans (Hb.out.mono K5.out.size)
        have own' := own_lower own K5.out.size
        clear hfin own
        subst hRl
        go_wp2
        go_ret2
        exact ⟨B, d, rfl, own', kk⟩
set_option maxHeartbeats 4000000 in
set_option maxRecDepth 100000 in
theorem implGroupNumbers_any (p : Int) (l : PL) (A : Option Addr) (c : Nat) (w : World) (hl : l.length ≤ 1048576) (hA : CRead w w.heap.size A (pcells l)) (htab : TabW w) :
    Calls Tryd.prog 27 #[.agg #[.int .i64 p, .slice A l.length c]] w (GotIntsOk w (resGroupNumbers p l).1 (resGroupNumbers p l).2) := by
  have hr : CRead (w.alloc (Obj.cells #[.int .i64 p, .slice A l.length c] 31)) (w.alloc (Obj.cells #[.int .i64 p, .slice A l.length c] 31)).heap.size A (pcells l) := (hA.below (B' := w.heap.size) (by go_grown) (Nat.le_refl _)).more (by go_size)
  have HTab := Lib.hid htab
  clear htab
  cases hp : isP p l with
  | false =>
    have e : resGroupNumbers p l = ([], false) := by simp [resGroupNumbers, hp]
    rw [e]
    have Hp := Lib.hid hp
    clear hp e
    go_enter Tryd.func27, Tryd.ntmps27
    go_wp2_with fail
    refine (isParty_any _ _ _ _ _ hl hr).mono ?_
    rw [Hp.out]
    rintro e w2 ⟨rfl, hb2⟩
    simp only [World.size_alloc] at hb2
    go_wp2
    go_ret2
    exact ⟨none, 0, rfl, World.ownsRow_nil _ _ _ _, Below.trans (b := _) (by go_grown) (hb2.mono (by omega))⟩
  | true =>
    obtain ⟨n, rfl⟩ : ∃ n : Nat, p = n := ⟨p.toNat, by have := isP_range hp; omega⟩
    have hn := isP_range hp
    have e : resGroupNumbers n l = (groupNums n l, true) := by simp [resGroupNumbers, hp]
    rw [e]
    have hT := friendsT_of hp
    have hset := IsSet.people (n := n) (by omega)
    have hcs : ∀ b ∈ List.range n, b < 12 := fun b hb => by have := List.mem_range.1 hb; omega
    have h5 := fun (X : World) (hX : TabW X) => numbersOfTied_any hT hset hcs X hX
    obtain ⟨K, hK⟩ : ∃ K, topK (adj l) (List.range n) = K := ⟨_, rfl⟩
    obtain ⟨N, hN⟩ : ∃ N, groupNums n l = N := ⟨_, rfl⟩
    have hN' : numsK (adj l) (List.range n) K = N := by rw [← hN, ← hK]; rfl
    simp only [hK, hN'] at h5
    have hNl : K = N.length := by rw [← hN', numsK_length]
    rw [hN]
    clear hN hN' hK
    subst hNl
    have H5 := Lib.hid h5
    have Hp := Lib.hid hp
    clear hp h5 hT hset hcs e
    go_enter Tryd.func27, Tryd.ntmps27
    go_wp2_with fail
    refine (isParty_any _ _ _ _ _ hl hr).mono ?_
    rw [Hp.out]
    rintro e w2 ⟨rfl, hb2⟩
    have s2 := hb2.size
    simp only [World.size_alloc] at s2
    have k2 : Below w.heap.size w w2 := Below.trans (b := _) (by go_grown) (hb2.mono (by simp))
    have c0 : w2.cell? ⟨w.heap.size, 0, none⟩ = some (.int .i64 n) := carry hb2 (by simp) (by simp)
    have c1 : w2.cell? ⟨w.heap.size, 1, none⟩ = some (.slice A l.length c) := carry hb2 (by simp) (by simp)
    have hpos := HTab.out.pos
    go_wp2
    go_region_held3 (fun w' => w'.cell? ⟨w.heap.size, 0, none⟩ = some (.int .i64 n) ∧ w'.cell? ⟨w.heap.size, 1, none⟩ = some (.slice A l.length c)) (first | exact ⟨c0, c1⟩ | exact ⟨y0, y1⟩ | exact ⟨x0, x1⟩) ((first
      | (go_at_call 58; refine (friendsIn_any _ l A c _ Hp.out ((hA.below k2.drew (Nat.le_refl _)).more k2.size)).mono ?_; rintro e w3 ⟨rfl, _, hb3⟩; have g3 : Below w2.heap.size w2 w3 := (Below.refl _ _).drew.trans hb3; have y0 := carry g3 c0 (by omega); have y1 := carry g3 c1 (by omega); have s3 := g3.size; have k3 := k2.trans (g3.mono k2.size))
      | (go_at_call 67; refine (everybody_any n (by omega) _).mono ?_; rintro e w' ⟨rfl, rfl⟩)
      | (go_at_call 68; refine (H5.out w3 (HTab.out.below k3 hpos)).mono ?_; rintro e w5 ⟨A5, c5, rfl, own5, hb5⟩; have x0 := carry hb5 y0 (by omega); have x1 := carry hb5 y1 (by omega); have k5 := k3.trans (hb5.mono k3.size))))
    all_goals
      have own' := own_lower own5 k3.size
      clear own5
      go_wp2
      go_ret2
      exact ⟨A5, c5, rfl, own', k5⟩
end Go.Proofs.YtgccapdjhnejcaaDoor
