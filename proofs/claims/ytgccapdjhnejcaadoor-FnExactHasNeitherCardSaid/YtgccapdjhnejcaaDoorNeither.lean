/-
  'HasNeither': the model's and the program's, by their contracts. Written by wip/tools/gen_neither.py.
-/
import Derived.Test.YtgccapdjhnejcaaDoorTies3
import Derived.Test.YtgccapdjhnejcaaDoorKinds
import Derived.Test.YtgccapdjhnejcaaDoorJoin2
namespace Go.Proofs.YtgccapdjhnejcaaDoor
open Go.RowKit

theorem listsC_congr {t t' : Nat → Nat → Bool} : ∀ (k : Nat) (told : List Int) (cs : List Nat), cs.Pairwise (· < ·) → (∀ a b, a ∈ cs → b ∈ cs → a < b → t a b = t' a b) → listsC t k told cs = listsC t' k told cs := by
  intro k told cs
  induction h : k + cs.length using Nat.strongRecOn generalizing k told cs with
  | _ n ih =>
    intro hs he
    match k, cs with
    | 0, cs => rw [listsC_zero, listsC_zero]
    | k + 1, [] => rw [listsC_nil, listsC_nil]
    | k + 1, a :: cs =>
      rw [listsC_cons, listsC_cons]
      simp only [List.length_cons] at h
      obtain ⟨ha, hs'⟩ := List.pairwise_cons.1 hs
      have hf : cs.filter (t a) = cs.filter (t' a) := List.filter_congr fun b hb => he a b List.mem_cons_self (List.mem_cons_of_mem _ hb) (ha b hb)
      have h0 : (cs.filter (t' a)).length ≤ cs.length := List.length_filter_le _ _
      rw [hf, ih (k + (cs.filter (t' a)).length) (by omega) k _ _ rfl (hs'.filter _) (fun x y hx hy hxy => he x y (List.mem_cons_of_mem _ (List.mem_filter.1 hx).1) (List.mem_cons_of_mem _ (List.mem_filter.1 hy).1) hxy),
        ih (k + 1 + cs.length) (by omega) (k + 1) _ _ rfl hs' (fun x y hx hy hxy => he x y (List.mem_cons_of_mem _ hx) (List.mem_cons_of_mem _ hy) hxy)]
/-- the strange people of a size -/
def strangeL (n : Nat) (l : PL) (k : Nat) : List (List Int) := listsC (strangeF n (adj l)) k [] (List.range n)
theorem strangeL_other {n : Nat} {l : PL} (h : isP n l = true) (k : Nat) : groupsL n (otherP n l) k = strangeL n l k := by
  unfold groupsL strangeL
  refine listsC_congr k [] _ List.pairwise_lt_range fun a b ha hb hab => ?_
  have ha' := List.mem_range.1 ha
  have hb' := List.mem_range.1 hb
  rw [adj_other h hab hb']
  unfold strangeF
  simp [ha', hb']
  omega
def neitherB (n : Nat) (l : PL) (r s : Nat) : Bool := (groupsL n l r).isEmpty && (strangeL n l s).isEmpty
def resHasNeither (p : Int) (l : PL) (r s : Int) : Bool × Bool := if isP p l && kindsI r s then (neitherB p.toNat l r.toNat s.toNat, true) else (false, false)
theorem len_zero (L : List (List Int)) : ((L.length : Int) == 0) = L.isEmpty := by cases L <;> simp; omega

set_option maxHeartbeats 4000000 in
set_option maxRecDepth 100000 in
theorem hasNeither_any {T : Nat → Nat} {t : Nat → Nat → Bool} (hT : TiesOf T t) (n r s : Nat) (hn : n ≤ 12) (hr : r ≤ 100) (hs : s ≤ 100) (w : World) (htab : TabW w) :
    Calls Tryd.prog 86 #[.int .i64 n, .agg (tcells T), .int .i64 r, .int .i64 s] w fun e w' =>
      e = .returned (.bool ((listsC t r [] (List.range n)).isEmpty && (listsC (strangeF n t) s [] (List.range n)).isEmpty)) ∧ Below w.heap.size w w' := by
  have hset := IsSet.people (n := n) (by omega)
  have hcs : ∀ b ∈ List.range n, b < 12 := fun b hb => by have := List.mem_range.1 hb; omega
  have h1 := fun (X : World) (hX : TabW X) => hasTied_any hT hset hcs (size := (r : Int)) (by omega) X hX
  have h2 := fun (X : World) (hX : TabW X) => hasTied_any (miss_of hT hn) hset hcs (size := (s : Int)) (by omega) X hX
  have h3 := fun (X : World) => missing_any T hT.lt n hn X
  have h4 := fun (X : World) => everybody_any n hn X
  simp only [Int.toNat_natCast] at h1 h2
  obtain ⟨E, hE⟩ : ∃ E, 2 ^ n - 1 = E := ⟨_, rfl⟩
  obtain ⟨L1, hL1⟩ : ∃ L1, (listsC t r [] (List.range n)).isEmpty = L1 := ⟨_, rfl⟩
  obtain ⟨L2, hL2⟩ : ∃ L2, (listsC (strangeF n t) s [] (List.range n)).isEmpty = L2 := ⟨_, rfl⟩
  obtain ⟨M, hM⟩ : ∃ M, missT T n = M := ⟨_, rfl⟩
  simp only [hE, hL1] at h1
  simp only [hE, hL2, hM] at h2
  simp only [hM] at h3
  simp only [hE] at h4
  rw [hL1, hL2]
  obtain ⟨W, hW⟩ : ∃ W, w.alloc (Obj.cells (tcells T) 69) = W := ⟨_, rfl⟩
  have kW : Below w.heap.size w W := by rw [← hW]; go_grown
  have zW : W.heap.size = w.heap.size + 1 := by rw [← hW]; simp
  have row0 : W.rowIs w.heap.size 69 12 (fun j => .int .u16 (T j)) := by rw [← hW]; exact rowIs_u16 w T _
  have z0 : ∀ z : Ext W.heap.size W, z.val.cell? ⟨w.heap.size, 0, none⟩ = some (.int .u16 (T 0)) := fun z => z.cell (row0.cell (i := 0) (by omega)) (by omega)
  have z1 : ∀ z : Ext W.heap.size W, z.val.cell? ⟨w.heap.size, 1, none⟩ = some (.int .u16 (T 1)) := fun z => z.cell (row0.cell (i := 1) (by omega)) (by omega)
  have z2 : ∀ z : Ext W.heap.size W, z.val.cell? ⟨w.heap.size, 2, none⟩ = some (.int .u16 (T 2)) := fun z => z.cell (row0.cell (i := 2) (by omega)) (by omega)
  have z3 : ∀ z : Ext W.heap.size W, z.val.cell? ⟨w.heap.size, 3, none⟩ = some (.int .u16 (T 3)) := fun z => z.cell (row0.cell (i := 3) (by omega)) (by omega)
  have z4 : ∀ z : Ext W.heap.size W, z.val.cell? ⟨w.heap.size, 4, none⟩ = some (.int .u16 (T 4)) := fun z => z.cell (row0.cell (i := 4) (by omega)) (by omega)
  have z5 : ∀ z : Ext W.heap.size W, z.val.cell? ⟨w.heap.size, 5, none⟩ = some (.int .u16 (T 5)) := fun z => z.cell (row0.cell (i := 5) (by omega)) (by omega)
  have z6 : ∀ z : Ext W.heap.size W, z.val.cell? ⟨w.heap.size, 6, none⟩ = some (.int .u16 (T 6)) := fun z => z.cell (row0.cell (i := 6) (by omega)) (by omega)
  have z7 : ∀ z : Ext W.heap.size W, z.val.cell? ⟨w.heap.size, 7, none⟩ = some (.int .u16 (T 7)) := fun z => z.cell (row0.cell (i := 7) (by omega)) (by omega)
  have z8 : ∀ z : Ext W.heap.size W, z.val.cell? ⟨w.heap.size, 8, none⟩ = some (.int .u16 (T 8)) := fun z => z.cell (row0.cell (i := 8) (by omega)) (by omega)
  have z9 : ∀ z : Ext W.heap.size W, z.val.cell? ⟨w.heap.size, 9, none⟩ = some (.int .u16 (T 9)) := fun z => z.cell (row0.cell (i := 9) (by omega)) (by omega)
  have z10 : ∀ z : Ext W.heap.size W, z.val.cell? ⟨w.heap.size, 10, none⟩ = some (.int .u16 (T 10)) := fun z => z.cell (row0.cell (i := 10) (by omega)) (by omega)
  have z11 : ∀ z : Ext W.heap.size W, z.val.cell? ⟨w.heap.size, 11, none⟩ = some (.int .u16 (T 11)) := fun z => z.cell (row0.cell (i := 11) (by omega)) (by omega)
  have HTab := Lib.hid htab
  have hpos := htab.pos
  unfold tcells at h1 h2 h3 hW ⊢
  have H1 := Lib.hid h1
  have H2 := Lib.hid h2
  have H3 := Lib.hid h3
  have H4 := Lib.hid h4
  have HW := Lib.hid hW
  have KW := Lib.hid kW
  clear h1 h2 h3 h4 hW kW hE hL1 hL2 hM row0 hset hcs hT htab
  cases L1
  all_goals
    go_enter Tryd.func86, Tryd.ntmps86
    go_wp2_with fail
    rw [HW.out]
    refine wp_region_ext W.heap.size (by kernel_rfl) (by kernel_rfl) ?_
    repeat (go_big_quiet_step ((first
      | (go_at_call 67; exact Calls.ext_of ((H4.out _).mono fun _ _ h => ⟨h.1, h.2 ▸ Below.refl _ _⟩))
      | (go_at_call 98; exact Calls.ext_of ((H3.out _).mono fun _ _ h => ⟨h.1, h.2.mono (Ext.size _)⟩))
      | (go_at_call_of 66 (Value.int IntKind.u16 (T 0)); exact Calls.ext_of ((H1.out _ (HTab.out.below (KW.out.trans ((Ext.below _).mono KW.out.size)) hpos)).mono fun _ _ h => ⟨h.1, h.2.mono (Ext.size _)⟩))
      | (go_at_call 66; exact Calls.ext_of ((H2.out _ (HTab.out.below (KW.out.trans ((Ext.below _).mono KW.out.size)) hpos)).mono fun _ _ h => ⟨h.1, h.2.mono (Ext.size _)⟩)))))
    refine wpQuiet_nil ?_
    rintro w5 ⟨⟨_, hb5⟩, rfl⟩
    go_wp2
    go_ret
    exact ⟨by cases L2 <;> rfl, KW.out.trans (hb5.mono KW.out.size)⟩
set_option maxHeartbeats 2000000 in
set_option maxRecDepth 100000 in
theorem trNeither_any (n : Nat) (l : PL) (A : Option Addr) (c r s : Nat) (w : World) (hp : isP n l = true) (hr : r ≤ 100) (hs : s ≤ 100) (hA : CRead w w.heap.size A (pcells l)) :
    Calls Tryd.prog 84 #[.agg #[.int .i64 n, .slice A l.length c], .int .i64 r, .int .i64 s] w fun e w' => e = .returned (.bool (neitherB n l r s)) ∧ Below w.heap.size w w' := by
  have hn := isP_range hp
  have hq : isP n (otherP n l) = true := other_isP hp
  unfold neitherB
  rw [← strangeL_other hp s, ← len_zero, ← len_zero]
  obtain ⟨b1, hb1⟩ : ∃ b1, (((groupsL n l r).length : Int) == 0) = b1 := ⟨_, rfl⟩
  obtain ⟨b2, hb2⟩ : ∃ b2, (((groupsL n (otherP n l) s).length : Int) == 0) = b2 := ⟨_, rfl⟩
  rw [hb1, hb2]
  obtain ⟨q, hqq⟩ : ∃ q, otherP n l = q := ⟨_, rfl⟩
  have hqq' : otherP ((n : Nat) : Int).toNat l = q := by rw [Int.toNat_natCast, hqq]
  rw [hqq] at hb2 hq
  have Hp := Lib.hid hp
  have Hq := Lib.hid hq
  have Hqq := Lib.hid hqq'
  clear hp hq hqq hqq'
  cases b1
  all_goals
    go_enter Tryd.func84, Tryd.ntmps84
    have c0 : (w.alloc (Obj.cells #[.int .i64 n, .slice A l.length c] 31)).cell? ⟨w.heap.size, 0, none⟩ = some (.int .i64 n) := by simp
    have c1 : (w.alloc (Obj.cells #[.int .i64 n, .slice A l.length c] 31)).cell? ⟨w.heap.size, 1, none⟩ = some (.slice A l.length c) := by simp
    go_wp2_with fail
    refine (paTable_any _ _ _ _ _ Hp.out ((hA.below (B' := w.heap.size) (by go_grown) (Nat.le_refl _)).more (by go_size))).mono ?_
    rw [Int.toNat_natCast]
    rintro e w3 ⟨A3, c3, G, rfl, tab, hb3⟩
    have s3 := hb3.size
    simp only [World.size_alloc] at hb3 s3
    have k3 : Below w.heap.size w w3 := Below.trans (b := _) (by go_grown) (hb3.mono (by omega))
    have d0 : w3.cell? ⟨w.heap.size, 0, none⟩ = some (.int .i64 n) := carry hb3 c0 (by omega)
    have d1 : w3.cell? ⟨w.heap.size, 1, none⟩ = some (.slice A l.length c) := carry hb3 c1 (by omega)
    have g := trGroups_any n (by omega) (adj l) (adj_comm l) A3 c3 G _ r [] none 0 w3 tab (by simp) (by simp; omega) CRead.nil (fun _ => ⟨rfl, rfl⟩)
    rw [show fromQ [] = 0 from rfl, candR_all] at g
    simp only [List.length_nil, Nat.zero_add] at g
    have Gg := Lib.hid g
    clear g c0 c1 tab
    go_wp2_with fail
    refine Gg.out.mono ?_
    rintro e w4 ⟨A4, c4, hs4, rfl, rows, hb4⟩
    clear rows
    have k4 := k3.trans (hb4.mono k3.size)
    have s4 := hb4.size
    have e0 : w4.cell? ⟨w.heap.size, 0, none⟩ = some (.int .i64 n) := carry hb4 d0 (by omega)
    have e1 : w4.cell? ⟨w.heap.size, 1, none⟩ = some (.slice A l.length c) := carry hb4 d1 (by omega)
    change (((listsC (adj l) r [] (List.range n)).length : Int) == 0) = _ at hb1
    clear d0 d1 Gg
  · go_wp2
    go_ret
    exact ⟨rfl, k4⟩
  · go_wp2_with fail
    refine (paOther_any _ _ _ _ _ Hp.out ((hA.below k4 (Nat.le_refl _)).more k4.size)).mono ?_
    rw [Hqq.out]
    rintro e w5 ⟨A5, c5, rfl, own5, hb5⟩
    have k5 := k4.trans (hb5.mono k4.size)
    go_wp2_with fail
    refine (paTable_any _ _ _ _ _ Hq.out (CRead.of_own own5)).mono ?_
    rw [Int.toNat_natCast]
    rintro e w6 ⟨A6, c6, G6, rfl, tab, hb6⟩
    have k6 := k5.trans (hb6.mono k5.size)
    have g := trGroups_any n (by omega) (adj q) (adj_comm q) A6 c6 G6 _ s [] none 0 w6 tab (by simp) (by simp; omega) CRead.nil (fun _ => ⟨rfl, rfl⟩)
    rw [show fromQ [] = 0 from rfl, candR_all] at g
    simp only [List.length_nil, Nat.zero_add] at g
    have Gg := Lib.hid g
    clear g tab own5
    go_wp2_with fail
    refine Gg.out.mono ?_
    rintro e w7 ⟨A7, c7, hs7, rfl, rows, hb7⟩
    clear rows Gg
    have k7 := k6.trans (hb7.mono k6.size)
    change (((listsC (adj q) s [] (List.range n)).length : Int) == 0) = _ at hb2
    go_wp2
    go_ret
    exact ⟨rfl, k7⟩
set_option maxHeartbeats 2000000 in
set_option maxRecDepth 100000 in
theorem specHasNeither_any (p : Int) (l : PL) (A : Option Addr) (c : Nat) (r s : Int) (w : World) (hl : l.length ≤ 1048576) (hA : CRead w w.heap.size A (pcells l)) :
    Calls Tryd.prog 45 #[.agg #[.int .i64 p, .slice A l.length c], .int .i64 r, .int .i64 s] w fun e w' => e = .returned (.tuple #[.bool (resHasNeither p l r s).1, .bool (resHasNeither p l r s).2]) ∧ Below w.heap.size w w' := by
  have hr : CRead (w.alloc (Obj.cells #[.int .i64 p, .slice A l.length c] 31)) (w.alloc (Obj.cells #[.int .i64 p, .slice A l.length c] 31)).heap.size A (pcells l) := (hA.below (B' := w.heap.size) (by go_grown) (Nat.le_refl _)).more (by go_size)
  obtain ⟨⟨rv, rok⟩, hres⟩ : ∃ x, resHasNeither p l r s = x := ⟨_, rfl⟩
  rw [hres]
  cases hp : isP p l with
  | false =>
    have e : (rv, rok) = (false, false) := by rw [← hres]; simp [resHasNeither, hp]
    simp only [Prod.mk.injEq] at e
    obtain ⟨rfl, rfl⟩ := e
    have Hp := Lib.hid hp
    clear hp hres
    go_enter Tryd.func45, Tryd.ntmps45
    go_wp2_with fail
    refine (paGood_any _ _ _ _ _ hl hr).mono ?_
    rw [Hp.out]
    rintro e w2 ⟨rfl, hb2⟩
    simp only [World.size_alloc] at hb2
    go_wp2
    go_ret2
    exact ⟨rfl, Below.trans (b := _) (by go_grown) (hb2.mono (by omega))⟩
  | true =>
    cases hk : kindsI r s with
    | true =>
      obtain ⟨n, rfl⟩ : ∃ n : Nat, p = n := ⟨p.toNat, by have := isP_range hp; omega⟩
      have hk' : 1 ≤ r ∧ r ≤ 4 ∧ 1 ≤ s ∧ s ≤ 4 := by simp [kindsI] at hk; omega
      obtain ⟨r, rfl⟩ : ∃ x : Nat, r = x := ⟨r.toNat, by omega⟩
      obtain ⟨s, rfl⟩ : ∃ x : Nat, s = x := ⟨s.toNat, by omega⟩
      have e : (rv, rok) = (neitherB n l r s, true) := by rw [← hres]; simp [resHasNeither, hp, hk]
      simp only [Prod.mk.injEq] at e
      obtain ⟨rfl, rfl⟩ := e
      have Hp := Lib.hid hp
      have Hk := Lib.hid hk
      clear hp hres hk
      go_enter Tryd.func45, Tryd.ntmps45
      go_wp2_with fail
      refine (paGood_any _ _ _ _ _ hl hr).mono ?_
      rw [Hp.out]
      rintro e w2 ⟨rfl, hb2⟩
      have s2 := hb2.size
      have k2 : Below w.heap.size w w2 := Below.trans (b := _) (by go_grown) (hb2.mono (by simp))
      have c0 : w2.cell? ⟨w.heap.size, 0, none⟩ = some (.int .i64 n) := carry hb2 (by simp) (by simp)
      have c1 : w2.cell? ⟨w.heap.size, 1, none⟩ = some (.slice A l.length c) := carry hb2 (by simp) (by simp)
      go_wp2_with fail
      refine (trKinds_any _ _ _).mono ?_
      rw [Hk.out]
      rintro e w' ⟨rfl, rfl⟩
      go_wp2_with fail
      refine (trNeither_any n l A c r s _ Hp.out (by omega) (by omega) ((hA.below k2 (Nat.le_refl _)).more k2.size)).mono ?_
      rintro e w3 ⟨rfl, hb3⟩
      go_wp2
      go_ret2
      exact ⟨rfl, k2.trans (hb3.mono k2.size)⟩
    | false =>
      have e : (rv, rok) = (false, false) := by rw [← hres]; simp [resHasNeither, hk]
      simp only [Prod.mk.injEq] at e
      obtain ⟨rfl, rfl⟩ := e
      have Hp := Lib.hid hp
      have Hk := Lib.hid hk
      clear hp hres hk
      go_enter Tryd.func45, Tryd.ntmps45
      go_wp2_with fail
      refine (paGood_any _ _ _ _ _ hl hr).mono ?_
      rw [Hp.out]
      rintro e w2 ⟨rfl, hb2⟩
      simp only [World.size_alloc] at hb2
      go_wp2_with fail
      refine (trKinds_any _ _ _).mono ?_
      rw [Hk.out]
      rintro e w' ⟨rfl, rfl⟩
      go_wp2
      go_ret2
      exact ⟨rfl, Below.trans (b := _) (by go_grown) (hb2.mono (by omega))⟩
set_option maxHeartbeats 2000000 in
set_option maxRecDepth 100000 in
theorem implHasNeither_any (p : Int) (l : PL) (A : Option Addr) (c : Nat) (r s : Int) (w : World) (hl : l.length ≤ 1048576) (hA : CRead w w.heap.size A (pcells l)) (htab : TabW w) :
    Calls Tryd.prog 46 #[.agg #[.int .i64 p, .slice A l.length c], .int .i64 r, .int .i64 s] w fun e w' => e = .returned (.tuple #[.bool (resHasNeither p l r s).1, .bool (resHasNeither p l r s).2]) ∧ Below w.heap.size w w' := by
  have hr : CRead (w.alloc (Obj.cells #[.int .i64 p, .slice A l.length c] 31)) (w.alloc (Obj.cells #[.int .i64 p, .slice A l.length c] 31)).heap.size A (pcells l) := (hA.below (B' := w.heap.size) (by go_grown) (Nat.le_refl _)).more (by go_size)
  obtain ⟨⟨rv, rok⟩, hres⟩ : ∃ x, resHasNeither p l r s = x := ⟨_, rfl⟩
  rw [hres]
  have HTab := Lib.hid htab
  clear htab
  cases hp : isP p l with
  | false =>
    have e : (rv, rok) = (false, false) := by rw [← hres]; simp [resHasNeither, hp]
    simp only [Prod.mk.injEq] at e
    obtain ⟨rfl, rfl⟩ := e
    have Hp := Lib.hid hp
    clear hp hres
    go_enter Tryd.func46, Tryd.ntmps46
    go_wp2_with fail
    refine (isParty_any _ _ _ _ _ hl hr).mono ?_
    rw [Hp.out]
    rintro e w2 ⟨rfl, hb2⟩
    simp only [World.size_alloc] at hb2
    go_wp2
    go_ret2
    exact ⟨rfl, Below.trans (b := _) (by go_grown) (hb2.mono (by omega))⟩
  | true =>
    cases hk : kindsI r s with
    | true =>
      obtain ⟨n, rfl⟩ : ∃ n : Nat, p = n := ⟨p.toNat, by have := isP_range hp; omega⟩
      have hk' : 1 ≤ r ∧ r ≤ 4 ∧ 1 ≤ s ∧ s ≤ 4 := by simp [kindsI] at hk; omega
      obtain ⟨r, rfl⟩ : ∃ x : Nat, r = x := ⟨r.toNat, by omega⟩
      obtain ⟨s, rfl⟩ : ∃ x : Nat, s = x := ⟨s.toNat, by omega⟩
      have hn := isP_range hp
      have e : (rv, rok) = (neitherB n l r s, true) := by rw [← hres]; simp [resHasNeither, hp, hk]
      simp only [Prod.mk.injEq] at e
      obtain ⟨rfl, rfl⟩ := e
      have hT := friendsT_of hp
      have hS : (List.range n).Pairwise (· < ·) := List.pairwise_lt_range
      have hN : ((listsC (adj l) r [] (List.range n)).isEmpty && (listsC (strangeF n (adj l)) s [] (List.range n)).isEmpty) = neitherB n l r s := rfl
      obtain ⟨v, hv⟩ : ∃ v, neitherB n l r s = v := ⟨_, rfl⟩
      rw [hv] at hN ⊢
      have h5 := fun (X : World) (hX : TabW X) => hasNeither_any hT n r s (by omega) (by omega) (by omega) X hX
      simp only [hN] at h5
      have H5 := Lib.hid h5
      have Hp := Lib.hid hp
      have Hk := Lib.hid hk
      clear hp hres hk hN hv hS h5 hT
      go_enter Tryd.func46, Tryd.ntmps46
      go_wp2_with fail
      refine (isParty_any _ _ _ _ _ hl hr).mono ?_
      rw [Hp.out]
      rintro e w2 ⟨rfl, hb2⟩
      have s2 := hb2.size
      simp only [World.size_alloc] at s2
      have k2 : Below w.heap.size w w2 := Below.trans (b := _) (by go_grown) (hb2.mono (by simp))
      have c0 : w2.cell? ⟨w.heap.size, 0, none⟩ = some (.int .i64 n) := carry hb2 (by simp) (by simp)
      have c1 : w2.cell? ⟨w.heap.size, 1, none⟩ = some (.slice A l.length c) := carry hb2 (by simp) (by simp)
      go_wp2_with fail
      refine (areWanted_any _ _ _).mono ?_
      rw [Hk.out]
      rintro e w' ⟨rfl, rfl⟩
      have q0 : ∀ z : Ext w2.heap.size w2, z.val.cell? ⟨w.heap.size, 0, none⟩ = some (.int .i64 n) := fun z => z.cell c0 (by omega)
      have q1 : ∀ z : Ext w2.heap.size w2, z.val.cell? ⟨w.heap.size, 1, none⟩ = some (.slice A l.length c) := fun z => z.cell c1 (by omega)
      have hpos := HTab.out.pos
      go_wp2
      refine wp_region_ext w2.heap.size (by kernel_rfl) (by kernel_rfl) ?_
      repeat (go_big_quiet_step ((first
        | (go_at_call 58; exact Calls.ext_of ((friendsIn_any _ l A c _ Hp.out ((hA.below (k2.trans ((Ext.below _).mono k2.size)) (Nat.le_refl _)).more (Nat.le_trans k2.size (Ext.size _)))).mono fun _ _ h => ⟨h.1, h.2.2.mono (Ext.size _)⟩))
        | (go_at_call 86; exact Calls.ext_of ((H5.out _ (HTab.out.below (k2.trans ((Ext.below _).mono k2.size)) hpos)).mono fun _ _ h => ⟨h.1, h.2.mono (Ext.size _)⟩)))))
      refine wpQuiet_nil ?_
      rintro w5 ⟨⟨_, hb5⟩, rfl⟩
      go_wp2
      go_ret2
      exact ⟨rfl, k2.trans (hb5.mono k2.size)⟩
    | false =>
      have e : (rv, rok) = (false, false) := by rw [← hres]; simp [resHasNeither, hk]
      simp only [Prod.mk.injEq] at e
      obtain ⟨rfl, rfl⟩ := e
      have Hp := Lib.hid hp
      have Hk := Lib.hid hk
      clear hp hres hk
      go_enter Tryd.func46, Tryd.ntmps46
      go_wp2_with fail
      refine (isParty_any _ _ _ _ _ hl hr).mono ?_
      rw [Hp.out]
      rintro e w2 ⟨rfl, hb2⟩
      simp only [World.size_alloc] at hb2
      go_wp2_with fail
      refine (areWanted_any _ _ _).mono ?_
      rw [Hk.out]
      rintro e w' ⟨rfl, rfl⟩
      go_wp2
      go_ret2
      exact ⟨rfl, Below.trans (b := _) (by go_grown) (hb2.mono (by omega))⟩
end Go.Proofs.YtgccapdjhnejcaaDoor
