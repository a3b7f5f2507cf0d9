/-
  'GroupsAt': the model's and the program's, by their contracts.
-/
import Derived.Test.YtgccapdjhnejcaaDoorThreesAt
import Derived.Test.YtgccapdjhnejcaaDoorGrAtP
import Derived.Deep.RegionHeld3
namespace Go.Proofs.YtgccapdjhnejcaaDoor
open Go.RowKit

def groupsAtN (n : Nat) (l : PL) (a : Nat) : Nat := hasN ([] :: subsC (adj l) [] (List.range n)) a
theorem groupsAt_eq {n : Nat} {l : PL} (h : isP n l = true) {a : Nat} (ha : a < n) : sumI (numsK (adj l) ((List.range n).filter (adj l a)) (topK (adj l) ((List.range n).filter (adj l a)))) = (groupsAtN n l a : Int) := by
  unfold groupsAtN
  rw [sum_numsK, hasN_cons, hasN_subs (adj_comm l) (adj_self h a) [] _ List.pairwise_lt_range (List.mem_range.2 ha) (by simp), if_neg (by simp [hasI])]
  simp
def resGroupsAt (p : Int) (l : PL) (a : Int) : Int × Bool := if isP p l && isMan p a then (groupsAtN p.toNat l a.toNat, true) else (0, false)

set_option maxHeartbeats 2000000 in
set_option maxRecDepth 100000 in
theorem specGroupsAt_any (p : Int) (l : PL) (A : Option Addr) (c : Nat) (i : Int) (w : World) (hl : l.length ≤ 1048576) (hA : CRead w w.heap.size A (pcells l)) :
    Calls Tryd.prog 28 #[.agg #[.int .i64 p, .slice A l.length c], .int .i64 i] w fun e w' => e = .returned (.tuple #[.int .i64 (resGroupsAt p l i).1, .bool (resGroupsAt p l i).2]) ∧ Below w.heap.size w w' := by
  have hr : CRead (w.alloc (Obj.cells #[.int .i64 p, .slice A l.length c] 31)) (w.alloc (Obj.cells #[.int .i64 p, .slice A l.length c] 31)).heap.size A (pcells l) := (hA.below (B' := w.heap.size) (by go_grown) (Nat.le_refl _)).more (by go_size)
  obtain ⟨⟨rv, rok⟩, hres⟩ : ∃ x, resGroupsAt p l i = x := ⟨_, rfl⟩
  rw [hres]
  cases hp : isP p l with
  | false =>
    have e : (rv, rok) = (0, false) := by rw [← hres]; simp [resGroupsAt, hp]
    simp only [Prod.mk.injEq] at e
    obtain ⟨rfl, rfl⟩ := e
    have Hp := Lib.hid hp
    clear hp hres
    go_enter Tryd.func28, Tryd.ntmps28
    go_wp2_with fail
    refine (paGood_any _ _ _ _ _ hl hr).mono ?_
    rw [Hp.out]
    rintro e w2 ⟨rfl, hb2⟩
    simp only [World.size_alloc] at hb2
    go_wp2
    go_ret2
    exact ⟨rfl, Below.trans (b := _) (by go_grown) (hb2.mono (by omega))⟩
  | true =>
    obtain ⟨n, rfl⟩ : ∃ n : Nat, p = n := ⟨p.toNat, by have := isP_range hp; omega⟩
    have hn := isP_range hp
    cases hk : isMan n i with
    | true =>
      have hk' : 0 ≤ i ∧ i < n := by simpa [isMan] using hk
      obtain ⟨a, rfl⟩ : ∃ x : Nat, i = x := ⟨i.toNat, by omega⟩
      have ha : a < n := by omega
      have e : (rv, rok) = ((groupsAtN n l a : Int), true) := by rw [← hres]; simp [resGroupsAt, hp, hk]
      simp only [Prod.mk.injEq] at e
      obtain ⟨rfl, rfl⟩ := e
      have hsz : ∀ l3 ∈ ([] :: subsC (adj l) [] (List.range n)), l3.length ≤ 1048576 := fun l3 h3 => by
        rcases List.mem_cons.1 h3 with rfl | h3
        · simp
        · have := subsC_short _ _ _ l3 h3
          simp at this
          omega
      have hfew : ([] :: subsC (adj l) [] (List.range n)).length ≤ 4096 := by
        have h1 := subsC_few (adj l) [] (List.range n)
        have h2 : 2 ^ (List.range n).length ≤ 2 ^ 12 := Nat.pow_le_pow_right (by omega) (by simp; omega)
        simp only [List.length_cons]
        omega
      unfold groupsAtN
      obtain ⟨LL, hLL⟩ : ∃ LL, [] :: subsC (adj l) [] (List.range n) = LL := ⟨_, rfl⟩
      rw [hLL] at hfew ⊢
      simp only [hLL] at hsz
      have Hsz := Lib.hid hsz
      have HLL := Lib.hid hLL
      clear hsz hLL
      have Hp := Lib.hid hp
      have Hk := Lib.hid hk
      clear hp hres hk
      go_enter Tryd.func28, Tryd.ntmps28
      go_wp2_with fail
      refine (paGood_any _ _ _ _ _ hl hr).mono ?_
      rw [Hp.out]
      rintro e w2 ⟨rfl, hb2⟩
      have s2 := hb2.size
      have k2 : Below w.heap.size w w2 := Below.trans (b := _) (by go_grown) (hb2.mono (by simp))
      have c0 : w2.cell? ⟨w.heap.size, 0, none⟩ = some (.int .i64 n) := carry hb2 (by simp) (by simp)
      have c1 : w2.cell? ⟨w.heap.size, 1, none⟩ = some (.slice A l.length c) := carry hb2 (by simp) (by simp)
      simp only [World.size_alloc] at s2
      go_wp2_with fail
      refine (paHas_any n a A l.length c _ hn).mono ?_
      rw [Hk.out]
      rintro e w3 ⟨rfl, hb3⟩
      have s3 := hb3.size
      have d0 : w3.cell? ⟨w.heap.size, 0, none⟩ = some (.int .i64 n) := carry hb3 c0 (by omega)
      have d1 : w3.cell? ⟨w.heap.size, 1, none⟩ = some (.slice A l.length c) := carry hb3 c1 (by omega)
      have k3 := k2.trans (hb3.mono k2.size)
      clear c0 c1
      go_wp2_with fail
      refine (paTable_any _ _ _ _ _ Hp.out ((hA.below k3 (Nat.le_refl _)).more k3.size)).mono ?_
      rw [Int.toNat_natCast]
      rintro e w4 ⟨A4, c4, G, rfl, tab, hb4⟩
      have k4 := k3.trans (hb4.mono k3.size)
      have g := grGroups_any n (by omega) (adj l) (adj_comm l) A4 c4 G _ w4 tab
      rw [HLL.out] at g
      have Gg := Lib.hid g
      clear g d0 d1 tab
      go_wp2_with fail
      refine Gg.out.mono ?_
      rintro e w5 ⟨A5, c5, hs, rfl, rows, hb5⟩
      have k5 := k4.trans (hb5.mono k4.size)
      clear Gg
      have Rows := Lib.hid rows
      clear rows
      go_wp2
      go_loop [6, 22] (fun v i => ∃ j : Nat, j ≤ LL.length ∧ i = .int .i64 j ∧ v = .int .i64 (hasN (LL.take j) a : Int)) (fun _ i => LL.length - (intOf i).toNat)
      case atStart => exact ⟨0, Nat.zero_le _, by go_num, by go_num⟩
      case round =>
        obtain ⟨j, hj, rfl, rfl⟩ := hrel
        have hcl : hasN (LL.take j) a ≤ j := Nat.le_trans List.countP_le_length (by rw [List.length_take]; omega)
        by_cases hlt : j < LL.length
        · obtain ⟨q, hq⟩ := getSome LL j hlt
          obtain ⟨Aj, cj, hj', ownj⟩ := Rows.out.row j q hq
          obtain ⟨b, off, rfl, hbb, c0⟩ := (CRead.of_own Rows.out.own) j _ hj'
          have hji : (j : Int) < (LL.length : Int) := by omega
          have hq3 : q.length ≤ 1048576 := Hsz.out q (List.mem_of_getElem? hq)
          have htk : LL.take (j + 1) = LL.take j ++ [q] := by rw [List.take_add_one, hq]; rfl
          have h1 : hasN (LL.take (j + 1)) a = hasN (LL.take j) a + (if hasI q a then 1 else 0) := by
            rw [htk, hasN_append]
            simp [hasN, List.countP_cons]
          obtain ⟨C, hC⟩ : ∃ C, hasN (LL.take j) a = C := ⟨_, rfl⟩
          rw [hC] at hcl h1 ⊢
          have H1 := Lib.hid h1
          have Ownj := Lib.hid ownj
          clear hq hj' h1 ownj htk hC
          go_wp2_with fail
          refine (l1Has_any q a _ cj _ hq3 (CRead.of_own Ownj.out)).mono ?_
          rintro e w6 ⟨rfl, rfl⟩
          cases hb : hasI q a with
          | true =>
            have h1 := H1.out
            rw [hb] at h1
            have H2 := Lib.hid h1
            clear h1
            go_wp2
            go_round
            case rel => exact ⟨j + 1, by omega, by go_num, by rw [H2.out]; simp⟩
            case measure => simp [intOf]; omega
          | false =>
            have h1 := H1.out
            rw [hb] at h1
            have H2 := Lib.hid h1
            clear h1
            go_wp2
            go_round
            case rel => exact ⟨j + 1, by omega, by go_num, by rw [H2.out]; simp⟩
            case measure => simp [intOf]; omega
        · have hje : j = LL.length := by omega
          subst hje
          rw [List.take_length]
          have hge : ¬ ((LL.length : Int) < (LL.length : Int)) := by omega
          go_wp2
          go_ret2
          exact ⟨rfl, k5⟩
    | false =>
      have e : (rv, rok) = (0, false) := by rw [← hres]; simp [resGroupsAt, hk]
      simp only [Prod.mk.injEq] at e
      obtain ⟨rfl, rfl⟩ := e
      have Hp := Lib.hid hp
      have Hk := Lib.hid hk
      clear hp hres hk
      go_enter Tryd.func28, Tryd.ntmps28
      go_wp2_with fail
      refine (paGood_any _ _ _ _ _ hl hr).mono ?_
      rw [Hp.out]
      rintro e w2 ⟨rfl, hb2⟩
      have s2 := hb2.size
      have k2 : Below w.heap.size w w2 := Below.trans (b := _) (by go_grown) (hb2.mono (by simp))
      have c0 : w2.cell? ⟨w.heap.size, 0, none⟩ = some (.int .i64 n) := carry hb2 (by simp) (by simp)
      have c1 : w2.cell? ⟨w.heap.size, 1, none⟩ = some (.slice A l.length c) := carry hb2 (by simp) (by simp)
      simp only [World.size_alloc] at s2
      go_wp2_with fail
      refine (paHas_any n i A l.length c _ hn).mono ?_
      rw [Hk.out]
      rintro e w3 ⟨rfl, hb3⟩
      have k3 := k2.trans (hb3.mono k2.size)
      go_wp2
      go_ret2
      exact ⟨rfl, k3⟩
set_option maxHeartbeats 2000000 in
set_option maxRecDepth 100000 in
theorem implGroupsAt_any (p : Int) (l : PL) (A : Option Addr) (c : Nat) (i : Int) (w : World) (hl : l.length ≤ 1048576) (hA : CRead w w.heap.size A (pcells l)) (htab : TabW w) :
    Calls Tryd.prog 29 #[.agg #[.int .i64 p, .slice A l.length c], .int .i64 i] w fun e w' => e = .returned (.tuple #[.int .i64 (resGroupsAt p l i).1, .bool (resGroupsAt p l i).2]) ∧ Below w.heap.size w w' := by
  have hr : CRead (w.alloc (Obj.cells #[.int .i64 p, .slice A l.length c] 31)) (w.alloc (Obj.cells #[.int .i64 p, .slice A l.length c] 31)).heap.size A (pcells l) := (hA.below (B' := w.heap.size) (by go_grown) (Nat.le_refl _)).more (by go_size)
  obtain ⟨⟨rv, rok⟩, hres⟩ : ∃ x, resGroupsAt p l i = x := ⟨_, rfl⟩
  rw [hres]
  have HTab := Lib.hid htab
  clear htab
  cases hp : isP p l with
  | false =>
    have e : (rv, rok) = (0, false) := by rw [← hres]; simp [resGroupsAt, hp]
    simp only [Prod.mk.injEq] at e
    obtain ⟨rfl, rfl⟩ := e
    have Hp := Lib.hid hp
    clear hp hres
    go_enter Tryd.func29, Tryd.ntmps29
    go_wp2_with fail
    refine (isParty_any _ _ _ _ _ hl hr).mono ?_
    rw [Hp.out]
    rintro e w2 ⟨rfl, hb2⟩
    simp only [World.size_alloc] at hb2
    go_wp2
    go_ret2
    exact ⟨rfl, Below.trans (b := _) (by go_grown) (hb2.mono (by omega))⟩
  | true =>
    obtain ⟨n, rfl⟩ : ∃ n : Nat, p = n := ⟨p.toNat, by have := isP_range hp; omega⟩
    have hn := isP_range hp
    cases hk : isMan n i with
    | true =>
      have hk' : 0 ≤ i ∧ i < n := by simpa [isMan] using hk
      obtain ⟨a, rfl⟩ : ∃ x : Nat, i = x := ⟨i.toNat, by omega⟩
      have ha : a < n := by omega
      have e : (rv, rok) = ((groupsAtN n l a : Int), true) := by rw [← hres]; simp [resGroupsAt, hp, hk]
      simp only [Prod.mk.injEq] at e
      obtain ⟨rfl, rfl⟩ := e
      have hT := Lib.hid (friendsT_of hp)
      have hset := Lib.hid (friends_set hp hT.out ha)
      have hcs : ∀ b ∈ (List.range n).filter (adj l a), b < 12 := fun b hb => by have := List.mem_range.1 (List.mem_filter.1 hb).1; omega
      have h5 := fun (X : World) (hX : TabW X) => numbersOfTied_any hT.out hset.out hcs X hX
      have hsm := numsK_small (t := adj l) hset.out hcs
      have hsum := groupsAt_eq hp ha
      obtain ⟨K, hK⟩ : ∃ K, topK (adj l) ((List.range n).filter (adj l a)) = K := ⟨_, rfl⟩
      simp only [hK] at h5
      rw [hK] at hsm hsum
      obtain ⟨N, hN⟩ : ∃ N, numsK (adj l) ((List.range n).filter (adj l a)) K = N := ⟨_, rfl⟩
      simp only [hN] at h5
      rw [hN] at hsm hsum
      have hNl : K = N.length := by rw [← hN, numsK_length]
      clear hN hK
      subst hNl
      rw [← hsum]
      have Hsm := Lib.hid hsm
      have H5 := Lib.hid h5
      have Hp := Lib.hid hp
      have Hk := Lib.hid hk
      clear hp hres hk hset hcs h5 hsm hsum
      go_enter Tryd.func29, Tryd.ntmps29
      go_wp2_with fail
      refine (isParty_any _ _ _ _ _ hl hr).mono ?_
      rw [Hp.out]
      rintro e w2 ⟨rfl, hb2⟩
      have s2 := hb2.size
      simp only [World.size_alloc] at s2
      have k2 : Below w.heap.size w w2 := Below.trans (b := _) (by go_grown) (hb2.mono (by simp))
      have c0 : w2.cell? ⟨w.heap.size, 0, none⟩ = some (.int .i64 n) := carry hb2 (by simp) (by simp)
      have c1 : w2.cell? ⟨w.heap.size, 1, none⟩ = some (.slice A l.length c) := carry hb2 (by simp) (by simp)
      go_wp2_with fail
      refine (isPerson_any n a A l.length c _).mono ?_
      rw [Hk.out]
      rintro e w3 ⟨rfl, hb3⟩
      have s3 := hb3.size
      have d0 : w3.cell? ⟨w.heap.size, 0, none⟩ = some (.int .i64 n) := carry hb3 c0 (by omega)
      have d1 : w3.cell? ⟨w.heap.size, 1, none⟩ = some (.slice A l.length c) := carry hb3 c1 (by omega)
      have k3 := k2.trans (hb3.mono k2.size)
      clear c0 c1
      go_wp2_with fail
      refine (friendsIn_any _ l A c _ Hp.out ((hA.below k3 (Nat.le_refl _)).more k3.size)).mono ?_
      rintro e w4 ⟨rfl, _, hb4⟩
      have k4 := k3.trans (hb4.mono k3.size)
      obtain ⟨X, hX⟩ : ∃ X, w4.alloc (Obj.cells (tcells (friendsT l)) 69) = X := ⟨_, rfl⟩
      have row0 : X.rowIs w4.heap.size 69 12 (fun j => .int .u16 (friendsT l j)) := by rw [← hX]; exact rowIs_u16 w4 _ _
      have zX : X.heap.size = w4.heap.size + 1 := by rw [← hX]; simp
      have kX : Below w.heap.size w X := by rw [← hX]; exact k4.alloc k4.size _
      have va := row0.cell (i := a) (by omega)
      have rg : X.rangeAt w4.heap.size 0 [.int .u16 (friendsT l 0), .int .u16 (friendsT l 1), .int .u16 (friendsT l 2), .int .u16 (friendsT l 3), .int .u16 (friendsT l 4), .int .u16 (friendsT l 5), .int .u16 (friendsT l 6), .int .u16 (friendsT l 7), .int .u16 (friendsT l 8), .int .u16 (friendsT l 9), .int .u16 (friendsT l 10), .int .u16 (friendsT l 11)] := by rw [← hX]; exact World.rangeAt_of_block (heap_alloc_new w4 _) 0 12
      have hu : Tryd.prog.underlying 69 = some (.array 12 66) := by kernel_rfl
      have hsz : (Tryd.prog.info? 69).map (·.size) = some ([.int .u16 (friendsT l 0), .int .u16 (friendsT l 1), .int .u16 (friendsT l 2), .int .u16 (friendsT l 3), .int .u16 (friendsT l 4), .int .u16 (friendsT l 5), .int .u16 (friendsT l 6), .int .u16 (friendsT l 7), .int .u16 (friendsT l 8), .int .u16 (friendsT l 9), .int .u16 (friendsT l 10), .int .u16 (friendsT l 11)] : List Value).length := by kernel_rfl
      have ha0 : (0 : Int) ≤ a := by omega
      have ha12 : (a : Int) < 12 := by omega
      have hta : ((a : Int)).toNat = a := by omega
      have hpos := HTab.out.pos
      unfold tcells at H5 hX ⊢
      have HX := Lib.hid hX
      have KX := Lib.hid kX
      clear hX kX row0 d0 d1 k2 k3 k4 hb2 hb3 hb4
      go_wp2
      rw [HX.out]
      go_region_held3 (fun w' => w'.rangeAt w4.heap.size 0 [.int .u16 (friendsT l 0), .int .u16 (friendsT l 1), .int .u16 (friendsT l 2), .int .u16 (friendsT l 3), .int .u16 (friendsT l 4), .int .u16 (friendsT l 5), .int .u16 (friendsT l 6), .int .u16 (friendsT l 7), .int .u16 (friendsT l 8), .int .u16 (friendsT l 9), .int .u16 (friendsT l 10), .int .u16 (friendsT l 11)] ∧ w'.cell? ⟨w4.heap.size, a, none⟩ = some (.int .u16 (friendsT l a))) (first | exact ⟨rg, va⟩ | exact ⟨yr, ya⟩) ((first
        | (go_at_call 68; refine (H5.out _ (HTab.out.below KX.out.drew hpos)).mono ?_; rintro e w5 ⟨A5, c5, rfl, own5, hb5⟩; have g5 : Below X.heap.size X w5 := (Below.refl _ _).drew.trans hb5; have ya := carry g5 va (by omega); have yr : w5.rangeAt w4.heap.size 0 [.int .u16 (friendsT l 0), .int .u16 (friendsT l 1), .int .u16 (friendsT l 2), .int .u16 (friendsT l 3), .int .u16 (friendsT l 4), .int .u16 (friendsT l 5), .int .u16 (friendsT l 6), .int .u16 (friendsT l 7), .int .u16 (friendsT l 8), .int .u16 (friendsT l 9), .int .u16 (friendsT l 10), .int .u16 (friendsT l 11)] := (fun j v hv => (g5.cell (show w4.heap.size < X.heap.size by omega)).trans (rg j v hv)); have k5 := KX.out.trans (g5.mono KX.out.size))
        | (go_at_call 71; refine (sumOf_small N A5 c5 _ Hsm.out (CRead.of_own own5)).mono ?_; rintro e w6 ⟨rfl, rfl⟩)))
      clear own5
      go_wp2
      go_ret2
      exact ⟨rfl, k5⟩
    | false =>
      have e : (rv, rok) = (0, false) := by rw [← hres]; simp [resGroupsAt, hk]
      simp only [Prod.mk.injEq] at e
      obtain ⟨rfl, rfl⟩ := e
      have Hp := Lib.hid hp
      have Hk := Lib.hid hk
      clear hp hres hk
      go_enter Tryd.func29, Tryd.ntmps29
      go_wp2_with fail
      refine (isParty_any _ _ _ _ _ hl hr).mono ?_
      rw [Hp.out]
      rintro e w2 ⟨rfl, hb2⟩
      have s2 := hb2.size
      have k2 : Below w.heap.size w w2 := Below.trans (b := _) (by go_grown) (hb2.mono (by simp))
      have c0 : w2.cell? ⟨w.heap.size, 0, none⟩ = some (.int .i64 n) := carry hb2 (by simp) (by simp)
      have c1 : w2.cell? ⟨w.heap.size, 1, none⟩ = some (.slice A l.length c) := carry hb2 (by simp) (by simp)
      simp only [World.size_alloc] at s2
      go_wp2_with fail
      refine (isPerson_any n i A l.length c _).mono ?_
      rw [Hk.out]
      rintro e w3 ⟨rfl, hb3⟩
      have k3 := k2.trans (hb3.mono k2.size)
      go_wp2
      go_ret2
      exact ⟨rfl, k3⟩
end Go.Proofs.YtgccapdjhnejcaaDoor
