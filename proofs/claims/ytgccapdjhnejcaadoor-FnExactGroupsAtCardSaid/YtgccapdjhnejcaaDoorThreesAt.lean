/-
  'ThreesAt': the model's and the program's, by their contracts.
-/
import Derived.Test.YtgccapdjhnejcaaDoorCountG
import Derived.Test.YtgccapdjhnejcaaDoorThrees
import Derived.Test.YtgccapdjhnejcaaDoorFriends
namespace Go.Proofs.YtgccapdjhnejcaaDoor
open Go.RowKit

theorem adj_of {n : Nat} {l : PL} (h : isP n l = true) {a b : Nat} (hab : adj l a b = true) : a < n ∧ b < n ∧ a ≠ b := by
  have hl := (isP_list h).2.2.1
  unfold adj at hab
  simp only [Bool.or_eq_true, List.contains_iff_mem] at hab
  rcases hab with hab | hab
  · have := hl _ hab; simp only at this; omega
  · have := hl _ hab; simp only at this; omega
theorem adj_self {n : Nat} {l : PL} (h : isP n l = true) (a : Nat) : adj l a a = false := by
  cases e : adj l a a with
  | false => rfl
  | true => exact absurd rfl (adj_of h e).2.2
theorem friends_set {n : Nat} {l : PL} (h : isP n l = true) {T : Nat → Nat} (hT : TiesOf T (adj l)) {a : Nat} (ha : a < n) : IsSet (T a) ((List.range n).filter (adj l a)) := by
  have hn := isP_range h
  refine ⟨List.pairwise_lt_range.filter _, fun b hb => by have := List.mem_range.1 (List.mem_filter.1 hb).1; omega, fun b => ?_⟩
  rw [List.mem_filter, List.mem_range]
  by_cases hb : b < 16
  · rw [hT.bit a b (by omega) hb]
    exact ⟨fun e => ⟨(adj_of h e).2.1, e⟩, fun e => e.2⟩
  · have : (T a).testBit b = false := Nat.testBit_lt_two_pow (Nat.lt_of_lt_of_le (hT.lt a (by omega)) (Nat.pow_le_pow_right (n := 2) (i := 16) (by omega) (by omega)))
    rw [this]
    simp
    omega
def threesAtN (n : Nat) (l : PL) (a : Nat) : Nat := hasN (groupsL n l 3) a
theorem threesAt_eq {n : Nat} {l : PL} (h : isP n l = true) {a : Nat} (ha : a < n) : (listsC (adj l) 2 [] ((List.range n).filter (adj l a))).length = threesAtN n l a := by
  unfold threesAtN groupsL
  rw [hasN_listsC (adj_comm l) (adj_self h a) 2 [] _ List.pairwise_lt_range (List.mem_range.2 ha) (by simp)]
def resThreesAt (p : Int) (l : PL) (a : Int) : Int × Bool := if isP p l && isMan p a then (threesAtN p.toNat l a.toNat, true) else (0, false)

set_option maxHeartbeats 2000000 in
set_option maxRecDepth 100000 in
theorem specThreesAt_any (p : Int) (l : PL) (A : Option Addr) (c : Nat) (i : Int) (w : World) (hl : l.length ≤ 1048576) (hA : CRead w w.heap.size A (pcells l)) :
    Calls Tryd.prog 37 #[.agg #[.int .i64 p, .slice A l.length c], .int .i64 i] w fun e w' => e = .returned (.tuple #[.int .i64 (resThreesAt p l i).1, .bool (resThreesAt p l i).2]) ∧ Below w.heap.size w w' := by
  have hr : CRead (w.alloc (Obj.cells #[.int .i64 p, .slice A l.length c] 31)) (w.alloc (Obj.cells #[.int .i64 p, .slice A l.length c] 31)).heap.size A (pcells l) := (hA.below (B' := w.heap.size) (by go_grown) (Nat.le_refl _)).more (by go_size)
  obtain ⟨⟨rv, rok⟩, hres⟩ : ∃ x, resThreesAt p l i = x := ⟨_, rfl⟩
  rw [hres]
  cases hp : isP p l with
  | false =>
    have e : (rv, rok) = (0, false) := by rw [← hres]; simp [resThreesAt, hp]
    simp only [Prod.mk.injEq] at e
    obtain ⟨rfl, rfl⟩ := e
    have Hp := Lib.hid hp
    clear hp hres
    go_enter Tryd.func37, Tryd.ntmps37
    go_wp2_with fail
    refine (paGood_any _ _ _ _ _ hl hr).mono ?_
    rw [Hp.out]
    rintro e w2 ⟨rfl, hb2⟩
    simp only [World.size_alloc] at hb2
    go_wp2
    go_ret2
    exact ⟨rfl, Below.trans (b := _) (by go_grown) (hb2.mono (by omega))⟩
  | true =>
    obtain ⟨n, rfl⟩ : ∃ n : Nat, p = n := ⟨p.toNat, by have := isP_range hp; omega⟩
    have hn := isP_range hp
    cases hk : isMan n i with
    | true =>
      have hk' : 0 ≤ i ∧ i < n := by simpa [isMan] using hk
      obtain ⟨a, rfl⟩ : ∃ x : Nat, i = x := ⟨i.toNat, by omega⟩
      have ha : a < n := by omega
      have e : (rv, rok) = ((threesAtN n l a : Int), true) := by rw [← hres]; simp [resThreesAt, hp, hk]
      simp only [Prod.mk.injEq] at e
      obtain ⟨rfl, rfl⟩ := e
      have hsz := fun l3 h3 => listsC_size (adj l) 3 [] (List.range n) l3 h3
      have hfew := groupsL_few (n := n) (by omega) l 3
      unfold threesAtN groupsL
      unfold groupsL at hfew
      obtain ⟨LL, hLL⟩ : ∃ LL, listsC (adj l) 3 [] (List.range n) = LL := ⟨_, rfl⟩
      rw [hLL] at hfew ⊢
      simp only [hLL] at hsz
      have Hsz := Lib.hid hsz
      have HLL := Lib.hid hLL
      clear hsz hLL
      have Hp := Lib.hid hp
      have Hk := Lib.hid hk
      clear hp hres hk
      go_enter Tryd.func37, Tryd.ntmps37
      go_wp2_with fail
      refine (paGood_any _ _ _ _ _ hl hr).mono ?_
      rw [Hp.out]
      rintro e w2 ⟨rfl, hb2⟩
      have s2 := hb2.size
      have k2 : Below w.heap.size w w2 := Below.trans (b := _) (by go_grown) (hb2.mono (by simp))
      have c0 : w2.cell? ⟨w.heap.size, 0, none⟩ = some (.int .i64 n) := carry hb2 (by simp) (by simp)
      have c1 : w2.cell? ⟨w.heap.size, 1, none⟩ = some (.slice A l.length c) := carry hb2 (by simp) (by simp)
      simp only [World.size_alloc] at s2
      go_wp2_with fail
      refine (paHas_any n a A l.length c _ hn).mono ?_
      rw [Hk.out]
      rintro e w3 ⟨rfl, hb3⟩
      have s3 := hb3.size
      have d0 : w3.cell? ⟨w.heap.size, 0, none⟩ = some (.int .i64 n) := carry hb3 c0 (by omega)
      have d1 : w3.cell? ⟨w.heap.size, 1, none⟩ = some (.slice A l.length c) := carry hb3 c1 (by omega)
      have k3 := k2.trans (hb3.mono k2.size)
      clear c0 c1
      go_wp2_with fail
      refine (paTable_any _ _ _ _ _ Hp.out ((hA.below k3 (Nat.le_refl _)).more k3.size)).mono ?_
      rw [Int.toNat_natCast]
      rintro e w4 ⟨A4, c4, G, rfl, tab, hb4⟩
      have k4 := k3.trans (hb4.mono k3.size)
      have g := trGroups_any n (by omega) (adj l) (adj_comm l) A4 c4 G _ 3 [] none 0 w4 tab (by simp) (by simp) CRead.nil (fun _ => ⟨rfl, rfl⟩)
      rw [show fromQ [] = 0 from rfl, candR_all] at g
      simp only [List.length_nil, Nat.zero_add] at g
      rw [HLL.out] at g
      have Gg := Lib.hid g
      clear g d0 d1 tab
      go_wp2_with fail
      refine Gg.out.mono ?_
      rintro e w5 ⟨A5, c5, hs, rfl, rows, hb5⟩
      have k5 := k4.trans (hb5.mono k4.size)
      clear Gg
      have Rows := Lib.hid rows
      clear rows
      go_wp2
      go_loop [6, 22] (fun v i => ∃ j : Nat, j ≤ LL.length ∧ i = .int .i64 j ∧ v = .int .i64 (hasN (LL.take j) a : Int)) (fun _ i => LL.length - (intOf i).toNat)
      case atStart => exact ⟨0, Nat.zero_le _, by go_num, by go_num⟩
      case round =>
        obtain ⟨j, hj, rfl, rfl⟩ := hrel
        have hcl : hasN (LL.take j) a ≤ j := Nat.le_trans List.countP_le_length (by rw [List.length_take]; omega)
        by_cases hlt : j < LL.length
        · obtain ⟨q, hq⟩ := getSome LL j hlt
          obtain ⟨Aj, cj, hj', ownj⟩ := Rows.out.row j q hq
          obtain ⟨b, off, rfl, hbb, c0⟩ := (CRead.of_own Rows.out.own) j _ hj'
          have hji : (j : Int) < (LL.length : Int) := by omega
          have hq3 : q.length ≤ 1048576 := by have hqs := Hsz.out q (List.mem_of_getElem? hq); simp only [List.length_nil, Nat.zero_add] at hqs; omega
          have htk : LL.take (j + 1) = LL.take j ++ [q] := by rw [List.take_add_one, hq]; rfl
          have h1 : hasN (LL.take (j + 1)) a = hasN (LL.take j) a + (if hasI q a then 1 else 0) := by
            rw [htk, hasN_append]
            simp [hasN, List.countP_cons]
          obtain ⟨C, hC⟩ : ∃ C, hasN (LL.take j) a = C := ⟨_, rfl⟩
          rw [hC] at hcl h1 ⊢
          have H1 := Lib.hid h1
          have Ownj := Lib.hid ownj
          clear hq hj' h1 ownj htk hC
          go_wp2_with fail
          refine (l1Has_any q a _ cj _ hq3 (CRead.of_own Ownj.out)).mono ?_
          rintro e w6 ⟨rfl, rfl⟩
          cases hb : hasI q a with
          | true =>
            have h1 := H1.out
            rw [hb] at h1
            have H2 := Lib.hid h1
            clear h1
            go_wp2
            go_round
            case rel => exact ⟨j + 1, by omega, by go_num, by rw [H2.out]; simp⟩
            case measure => simp [intOf]; omega
          | false =>
            have h1 := H1.out
            rw [hb] at h1
            have H2 := Lib.hid h1
            clear h1
            go_wp2
            go_round
            case rel => exact ⟨j + 1, by omega, by go_num, by rw [H2.out]; simp⟩
            case measure => simp [intOf]; omega
        · have hje : j = LL.length := by omega
          subst hje
          rw [List.take_length]
          have hge : ¬ ((LL.length : Int) < (LL.length : Int)) := by omega
          go_wp2
          go_ret2
          exact ⟨rfl, k5⟩
    | false =>
      have e : (rv, rok) = (0, false) := by rw [← hres]; simp [resThreesAt, hk]
      simp only [Prod.mk.injEq] at e
      obtain ⟨rfl, rfl⟩ := e
      have Hp := Lib.hid hp
      have Hk := Lib.hid hk
      clear hp hres hk
      go_enter Tryd.func37, Tryd.ntmps37
      go_wp2_with fail
      refine (paGood_any _ _ _ _ _ hl hr).mono ?_
      rw [Hp.out]
      rintro e w2 ⟨rfl, hb2⟩
      have s2 := hb2.size
      have k2 : Below w.heap.size w w2 := Below.trans (b := _) (by go_grown) (hb2.mono (by simp))
      have c0 : w2.cell? ⟨w.heap.size, 0, none⟩ = some (.int .i64 n) := carry hb2 (by simp) (by simp)
      have c1 : w2.cell? ⟨w.heap.size, 1, none⟩ = some (.slice A l.length c) := carry hb2 (by simp) (by simp)
      simp only [World.size_alloc] at s2
      go_wp2_with fail
      refine (paHas_any n i A l.length c _ hn).mono ?_
      rw [Hk.out]
      rintro e w3 ⟨rfl, hb3⟩
      have k3 := k2.trans (hb3.mono k2.size)
      go_wp2
      go_ret2
      exact ⟨rfl, k3⟩
set_option maxHeartbeats 2000000 in
set_option maxRecDepth 100000 in
theorem implThreesAt_any (p : Int) (l : PL) (A : Option Addr) (c : Nat) (i : Int) (w : World) (hl : l.length ≤ 1048576) (hA : CRead w w.heap.size A (pcells l)) (htab : TabW w) :
    Calls Tryd.prog 38 #[.agg #[.int .i64 p, .slice A l.length c], .int .i64 i] w fun e w' => e = .returned (.tuple #[.int .i64 (resThreesAt p l i).1, .bool (resThreesAt p l i).2]) ∧ Below w.heap.size w w' := by
  have hr : CRead (w.alloc (Obj.cells #[.int .i64 p, .slice A l.length c] 31)) (w.alloc (Obj.cells #[.int .i64 p, .slice A l.length c] 31)).heap.size A (pcells l) := (hA.below (B' := w.heap.size) (by go_grown) (Nat.le_refl _)).more (by go_size)
  obtain ⟨⟨rv, rok⟩, hres⟩ : ∃ x, resThreesAt p l i = x := ⟨_, rfl⟩
  rw [hres]
  have HTab := Lib.hid htab
  clear htab
  cases hp : isP p l with
  | false =>
    have e : (rv, rok) = (0, false) := by rw [← hres]; simp [resThreesAt, hp]
    simp only [Prod.mk.injEq] at e
    obtain ⟨rfl, rfl⟩ := e
    have Hp := Lib.hid hp
    clear hp hres
    go_enter Tryd.func38, Tryd.ntmps38
    go_wp2_with fail
    refine (isParty_any _ _ _ _ _ hl hr).mono ?_
    rw [Hp.out]
    rintro e w2 ⟨rfl, hb2⟩
    simp only [World.size_alloc] at hb2
    go_wp2
    go_ret2
    exact ⟨rfl, Below.trans (b := _) (by go_grown) (hb2.mono (by omega))⟩
  | true =>
    obtain ⟨n, rfl⟩ : ∃ n : Nat, p = n := ⟨p.toNat, by have := isP_range hp; omega⟩
    have hn := isP_range hp
    cases hk : isMan n i with
    | true =>
      have hk' : 0 ≤ i ∧ i < n := by simpa [isMan] using hk
      obtain ⟨a, rfl⟩ : ∃ x : Nat, i = x := ⟨i.toNat, by omega⟩
      have ha : a < n := by omega
      have e : (rv, rok) = ((threesAtN n l a : Int), true) := by rw [← hres]; simp [resThreesAt, hp, hk]
      simp only [Prod.mk.injEq] at e
      obtain ⟨rfl, rfl⟩ := e
      have hT := Lib.hid (friendsT_of hp)
      have hset := Lib.hid (friends_set hp hT.out ha)
      have hcs : ∀ b ∈ (List.range n).filter (adj l a), b < 12 := fun b hb => by have := List.mem_range.1 (List.mem_filter.1 hb).1; omega
      have h5 := fun (X : World) (hX : TabW X) => countTied_any hT.out hset.out hcs (size := 2) (by omega) X hX
      simp only [show (2 : Int).toNat = 2 from rfl, threesAt_eq hp ha] at h5
      have H5 := Lib.hid h5
      have Hp := Lib.hid hp
      have Hk := Lib.hid hk
      clear hp hres hk hset hcs h5
      go_enter Tryd.func38, Tryd.ntmps38
      go_wp2_with fail
      refine (isParty_any _ _ _ _ _ hl hr).mono ?_
      rw [Hp.out]
      rintro e w2 ⟨rfl, hb2⟩
      have s2 := hb2.size
      simp only [World.size_alloc] at s2
      have k2 : Below w.heap.size w w2 := Below.trans (b := _) (by go_grown) (hb2.mono (by simp))
      have c0 : w2.cell? ⟨w.heap.size, 0, none⟩ = some (.int .i64 n) := carry hb2 (by simp) (by simp)
      have c1 : w2.cell? ⟨w.heap.size, 1, none⟩ = some (.slice A l.length c) := carry hb2 (by simp) (by simp)
      go_wp2_with fail
      refine (isPerson_any n a A l.length c _).mono ?_
      rw [Hk.out]
      rintro e w3 ⟨rfl, hb3⟩
      have s3 := hb3.size
      have d0 : w3.cell? ⟨w.heap.size, 0, none⟩ = some (.int .i64 n) := carry hb3 c0 (by omega)
      have d1 : w3.cell? ⟨w.heap.size, 1, none⟩ = some (.slice A l.length c) := carry hb3 c1 (by omega)
      have k3 := k2.trans (hb3.mono k2.size)
      clear c0 c1
      go_wp2_with fail
      refine (friendsIn_any _ l A c _ Hp.out ((hA.below k3 (Nat.le_refl _)).more k3.size)).mono ?_
      rintro e w4 ⟨rfl, _, hb4⟩
      have k4 := k3.trans (hb4.mono k3.size)
      obtain ⟨X, hX⟩ : ∃ X, w4.alloc (Obj.cells (tcells (friendsT l)) 69) = X := ⟨_, rfl⟩
      have row0 : X.rowIs w4.heap.size 69 12 (fun j => .int .u16 (friendsT l j)) := by rw [← hX]; exact rowIs_u16 w4 _ _
      have zX : X.heap.size = w4.heap.size + 1 := by rw [← hX]; simp
      have kX : Below w.heap.size w X := by rw [← hX]; exact k4.alloc k4.size _
      have z0 : ∀ z : Ext X.heap.size X, z.val.cell? ⟨w4.heap.size, 0, none⟩ = some (.int .u16 (friendsT l 0)) := fun z => z.cell (row0.cell (i := 0) (by omega)) (by omega)
      have z1 : ∀ z : Ext X.heap.size X, z.val.cell? ⟨w4.heap.size, 1, none⟩ = some (.int .u16 (friendsT l 1)) := fun z => z.cell (row0.cell (i := 1) (by omega)) (by omega)
      have z2 : ∀ z : Ext X.heap.size X, z.val.cell? ⟨w4.heap.size, 2, none⟩ = some (.int .u16 (friendsT l 2)) := fun z => z.cell (row0.cell (i := 2) (by omega)) (by omega)
      have z3 : ∀ z : Ext X.heap.size X, z.val.cell? ⟨w4.heap.size, 3, none⟩ = some (.int .u16 (friendsT l 3)) := fun z => z.cell (row0.cell (i := 3) (by omega)) (by omega)
      have z4 : ∀ z : Ext X.heap.size X, z.val.cell? ⟨w4.heap.size, 4, none⟩ = some (.int .u16 (friendsT l 4)) := fun z => z.cell (row0.cell (i := 4) (by omega)) (by omega)
      have z5 : ∀ z : Ext X.heap.size X, z.val.cell? ⟨w4.heap.size, 5, none⟩ = some (.int .u16 (friendsT l 5)) := fun z => z.cell (row0.cell (i := 5) (by omega)) (by omega)
      have z6 : ∀ z : Ext X.heap.size X, z.val.cell? ⟨w4.heap.size, 6, none⟩ = some (.int .u16 (friendsT l 6)) := fun z => z.cell (row0.cell (i := 6) (by omega)) (by omega)
      have z7 : ∀ z : Ext X.heap.size X, z.val.cell? ⟨w4.heap.size, 7, none⟩ = some (.int .u16 (friendsT l 7)) := fun z => z.cell (row0.cell (i := 7) (by omega)) (by omega)
      have z8 : ∀ z : Ext X.heap.size X, z.val.cell? ⟨w4.heap.size, 8, none⟩ = some (.int .u16 (friendsT l 8)) := fun z => z.cell (row0.cell (i := 8) (by omega)) (by omega)
      have z9 : ∀ z : Ext X.heap.size X, z.val.cell? ⟨w4.heap.size, 9, none⟩ = some (.int .u16 (friendsT l 9)) := fun z => z.cell (row0.cell (i := 9) (by omega)) (by omega)
      have z10 : ∀ z : Ext X.heap.size X, z.val.cell? ⟨w4.heap.size, 10, none⟩ = some (.int .u16 (friendsT l 10)) := fun z => z.cell (row0.cell (i := 10) (by omega)) (by omega)
      have z11 : ∀ z : Ext X.heap.size X, z.val.cell? ⟨w4.heap.size, 11, none⟩ = some (.int .u16 (friendsT l 11)) := fun z => z.cell (row0.cell (i := 11) (by omega)) (by omega)
      have za : ∀ z : Ext X.heap.size X, z.val.cell? ⟨w4.heap.size, a, none⟩ = some (.int .u16 (friendsT l a)) := fun z => z.cell (row0.cell (i := a) (by omega)) (by omega)
      have ha0 : (0 : Int) ≤ a := by omega
      have ha12 : (a : Int) < 12 := by omega
      have hta : ((a : Int)).toNat = a := by omega
      have hpos := HTab.out.pos
      unfold tcells at H5 hX ⊢
      have HX := Lib.hid hX
      have KX := Lib.hid kX
      clear hX kX row0 d0 d1 k2 k3 k4 hb2 hb3 hb4
      go_wp2
      rw [HX.out]
      refine wp_region_ext X.heap.size (by kernel_rfl) (by kernel_rfl) ?_
      repeat (go_big_quiet_step ((first
        | (go_at_call 73; exact Calls.ext_of ((H5.out _ (HTab.out.below (KX.out.trans ((Ext.below _).mono KX.out.size)) hpos)).mono fun _ _ h => ⟨h.1, h.2.mono (Ext.size _)⟩)))))
      refine wpQuiet_nil ?_
      rintro w5 ⟨⟨_, hb5⟩, rfl⟩
      go_wp2
      go_ret2
      exact ⟨rfl, KX.out.trans (hb5.mono KX.out.size)⟩
    | false =>
      have e : (rv, rok) = (0, false) := by rw [← hres]; simp [resThreesAt, hk]
      simp only [Prod.mk.injEq] at e
      obtain ⟨rfl, rfl⟩ := e
      have Hp := Lib.hid hp
      have Hk := Lib.hid hk
      clear hp hres hk
      go_enter Tryd.func38, Tryd.ntmps38
      go_wp2_with fail
      refine (isParty_any _ _ _ _ _ hl hr).mono ?_
      rw [Hp.out]
      rintro e w2 ⟨rfl, hb2⟩
      have s2 := hb2.size
      have k2 : Below w.heap.size w w2 := Below.trans (b := _) (by go_grown) (hb2.mono (by simp))
      have c0 : w2.cell? ⟨w.heap.size, 0, none⟩ = some (.int .i64 n) := carry hb2 (by simp) (by simp)
      have c1 : w2.cell? ⟨w.heap.size, 1, none⟩ = some (.slice A l.length c) := carry hb2 (by simp) (by simp)
      simp only [World.size_alloc] at s2
      go_wp2_with fail
      refine (isPerson_any n i A l.length c _).mono ?_
      rw [Hk.out]
      rintro e w3 ⟨rfl, hb3⟩
      have k3 := k2.trans (hb3.mono k2.size)
      go_wp2
      go_ret2
      exact ⟨rfl, k3⟩
end Go.Proofs.YtgccapdjhnejcaaDoor
