/-
  'CountGroups': the model's and the program's, by their contracts.
-/
import Derived.Test.YtgccapdjhnejcaaDoorTies2
import Derived.Test.YtgccapdjhnejcaaDoorTrG
namespace Go.Proofs.YtgccapdjhnejcaaDoor
open Go.RowKit

theorem friendsT_of {n : Int} {l : PL} (h : isP n l = true) : TiesOf (friendsT l) (adj l) := by
  have hn := isP_range h
  have hl := (isP_list h).2.2.1
  have key : ∀ m, m ≤ l.length → TiesOf (friendsT (l.take m)) (adj (l.take m)) := by
    intro m
    induction m with
    | zero => intro _; exact TiesOf.none
    | succ m ih =>
      intro hm
      obtain ⟨⟨x, y⟩, hx⟩ := getSome l m (by omega)
      have h0 := hl _ (List.mem_of_getElem? hx)
      simp only at h0
      obtain ⟨a, rfl⟩ : ∃ a : Nat, x = a := ⟨x.toNat, by omega⟩
      obtain ⟨b, rfl⟩ : ∃ b : Nat, y = b := ⟨y.toNat, by omega⟩
      rw [List.take_add_one, hx, Option.toList_some, friendsT_snoc, adj_snoc]
      exact (ih (by omega)).with (by omega) (by omega) (by omega)
  have := key l.length (Nat.le_refl _)
  rwa [List.take_length] at this
theorem candR_all (t : Nat → Nat → Bool) (n : Nat) : candR t n [] 0 = List.range n := by
  unfold candR
  rw [List.filter_eq_self.2 (by simp), Nat.sub_zero, List.range_eq_range']
/-- the groups of a size -/
def groupsL (n : Nat) (l : PL) (k : Nat) : List (List Int) := listsC (adj l) k [] (List.range n)
theorem groupsL_few {n : Nat} (hn : n ≤ 12) (l : PL) (k : Nat) : (groupsL n l k).length ≤ 4096 := lists_few (IsSet.people (n := n) (by omega)) (fun b hb => by have := List.mem_range.1 hb; omega)
def resCountGroups (p : Int) (l : PL) (k : Int) : Int × Bool := if isP p l && decide (0 ≤ k ∧ k ≤ 12) then ((groupsL p.toNat l k.toNat).length, true) else (0, false)

set_option maxHeartbeats 2000000 in
set_option maxRecDepth 100000 in
theorem specCountGroups_any (p : Int) (l : PL) (A : Option Addr) (c : Nat) (k : Int) (w : World) (hl : l.length ≤ 1048576) (hA : CRead w w.heap.size A (pcells l)) :
    Calls Tryd.prog 43 #[.agg #[.int .i64 p, .slice A l.length c], .int .i64 k] w fun e w' => e = .returned (.tuple #[.int .i64 (resCountGroups p l k).1, .bool (resCountGroups p l k).2]) ∧ Below w.heap.size w w' := by
  have hr : CRead (w.alloc (Obj.cells #[.int .i64 p, .slice A l.length c] 31)) (w.alloc (Obj.cells #[.int .i64 p, .slice A l.length c] 31)).heap.size A (pcells l) := (hA.below (B' := w.heap.size) (by go_grown) (Nat.le_refl _)).more (by go_size)
  obtain ⟨⟨rv, rok⟩, hres⟩ : ∃ r, resCountGroups p l k = r := ⟨_, rfl⟩
  rw [hres]
  cases hp : isP p l with
  | false =>
    have e : (rv, rok) = (0, false) := by rw [← hres]; simp [resCountGroups, hp]
    simp only [Prod.mk.injEq] at e
    obtain ⟨rfl, rfl⟩ := e
    have Hp := Lib.hid hp
    clear hp hres
    go_enter Tryd.func43, Tryd.ntmps43
    go_wp2_with fail
    refine (paGood_any _ _ _ _ _ hl hr).mono ?_
    rw [Hp.out]
    rintro e w2 ⟨rfl, hb2⟩
    simp only [World.size_alloc] at hb2
    go_wp2
    go_ret2
    exact ⟨rfl, Below.trans (b := _) (by go_grown) (hb2.mono (by omega))⟩
  | true =>
    by_cases hk : 0 ≤ k ∧ k ≤ 12
    · obtain ⟨n, rfl⟩ : ∃ n : Nat, p = n := ⟨p.toNat, by have := isP_range hp; omega⟩
      obtain ⟨s, rfl⟩ : ∃ s : Nat, k = s := ⟨k.toNat, by omega⟩
      have hn := isP_range hp
      have e : (rv, rok) = (((groupsL n l s).length : Int), true) := by rw [← hres]; simp [resCountGroups, hp, hk.2]
      simp only [Prod.mk.injEq] at e
      obtain ⟨rfl, rfl⟩ := e
      have Hp := Lib.hid hp
      clear hp hres
      go_enter Tryd.func43, Tryd.ntmps43
      go_wp2_with fail
      refine (paGood_any _ _ _ _ _ hl hr).mono ?_
      rw [Hp.out]
      rintro e w2 ⟨rfl, hb2⟩
      have s2 := hb2.size
      have k2 : Below w.heap.size w w2 := Below.trans (b := _) (by go_grown) (hb2.mono (by simp))
      have c0 : w2.cell? ⟨w.heap.size, 0, none⟩ = some (.int .i64 n) := carry hb2 (by simp) (by simp)
      have c1 : w2.cell? ⟨w.heap.size, 1, none⟩ = some (.slice A l.length c) := carry hb2 (by simp) (by simp)
      go_wp2_with fail
      refine (paPeople_yes _ hk.1 hk.2 _).mono ?_
      rintro e w' ⟨rfl, rfl⟩
      go_wp2_with fail
      refine (paTable_any _ _ _ _ _ Hp.out ((hA.below k2 (Nat.le_refl _)).more k2.size)).mono ?_
      rw [Int.toNat_natCast]
      rintro e w3 ⟨A3, c3, G, rfl, tab, hb3⟩
      have k3 := k2.trans (hb3.mono k2.size)
      have g := trGroups_any n (by omega) (adj l) (adj_comm l) A3 c3 G _ s [] none 0 w3 tab (by simp) (by simp; omega) CRead.nil (fun _ => ⟨rfl, rfl⟩)
      rw [show fromQ [] = 0 from rfl, candR_all] at g
      simp only [List.length_nil, Nat.zero_add] at g
      have Gg := Lib.hid g
      clear g c0 c1
      go_wp2_with fail
      refine Gg.out.mono ?_
      rintro e w4 ⟨A4, c4, hs, rfl, rows, hb4⟩
      go_wp2
      go_ret2
      exact ⟨rfl, k3.trans (hb4.mono k3.size)⟩
    · have e : (rv, rok) = (0, false) := by rw [← hres]; simp [resCountGroups, hk]
      simp only [Prod.mk.injEq] at e
      obtain ⟨rfl, rfl⟩ := e
      have hk' : k < 0 ∨ 12 < k := by omega
      have Hp := Lib.hid hp
      clear hp hres
      go_enter Tryd.func43, Tryd.ntmps43
      go_wp2_with fail
      refine (paGood_any _ _ _ _ _ hl hr).mono ?_
      rw [Hp.out]
      rintro e w2 ⟨rfl, hb2⟩
      simp only [World.size_alloc] at hb2
      go_wp2_with fail
      refine (paPeople_no _ hk' _).mono ?_
      rintro e w' ⟨rfl, rfl⟩
      go_wp2
      go_ret2
      exact ⟨rfl, Below.trans (b := _) (by go_grown) (hb2.mono (by omega))⟩
set_option maxHeartbeats 2000000 in
set_option maxRecDepth 100000 in
theorem implCountGroups_any (p : Int) (l : PL) (A : Option Addr) (c : Nat) (k : Int) (w : World) (hl : l.length ≤ 1048576) (hA : CRead w w.heap.size A (pcells l)) (htab : TabW w) :
    Calls Tryd.prog 44 #[.agg #[.int .i64 p, .slice A l.length c], .int .i64 k] w fun e w' => e = .returned (.tuple #[.int .i64 (resCountGroups p l k).1, .bool (resCountGroups p l k).2]) ∧ Below w.heap.size w w' := by
  have hr : CRead (w.alloc (Obj.cells #[.int .i64 p, .slice A l.length c] 31)) (w.alloc (Obj.cells #[.int .i64 p, .slice A l.length c] 31)).heap.size A (pcells l) := (hA.below (B' := w.heap.size) (by go_grown) (Nat.le_refl _)).more (by go_size)
  obtain ⟨⟨rv, rok⟩, hres⟩ : ∃ r, resCountGroups p l k = r := ⟨_, rfl⟩
  rw [hres]
  have HTab := Lib.hid htab
  clear htab
  cases hp : isP p l with
  | false =>
    have e : (rv, rok) = (0, false) := by rw [← hres]; simp [resCountGroups, hp]
    simp only [Prod.mk.injEq] at e
    obtain ⟨rfl, rfl⟩ := e
    have Hp := Lib.hid hp
    clear hp hres
    go_enter Tryd.func44, Tryd.ntmps44
    go_wp2_with fail
    refine (isParty_any _ _ _ _ _ hl hr).mono ?_
    rw [Hp.out]
    rintro e w2 ⟨rfl, hb2⟩
    simp only [World.size_alloc] at hb2
    go_wp2
    go_ret2
    exact ⟨rfl, Below.trans (b := _) (by go_grown) (hb2.mono (by omega))⟩
  | true =>
    by_cases hk : 0 ≤ k ∧ k ≤ 12
    · obtain ⟨n, rfl⟩ : ∃ n : Nat, p = n := ⟨p.toNat, by have := isP_range hp; omega⟩
      obtain ⟨s, rfl⟩ : ∃ s : Nat, k = s := ⟨k.toNat, by omega⟩
      have hn := isP_range hp
      have e : (rv, rok) = (((groupsL n l s).length : Int), true) := by rw [← hres]; simp [resCountGroups, hp, hk.2]
      simp only [Prod.mk.injEq] at e
      obtain ⟨rfl, rfl⟩ := e
      have hT := Lib.hid (friendsT_of hp)
      have hset := Lib.hid (IsSet.people (n := n) (by omega))
      have hcs : ∀ b ∈ List.range n, b < 12 := fun b hb => by have := List.mem_range.1 hb; omega
      have Hcs := Lib.hid hcs
      have Hp := Lib.hid hp
      have n0 : ¬ (s : Int) < 0 := by omega
      have n1 : ¬ (12 : Int) < s := by omega
      clear hp hres hcs
      go_enter Tryd.func44, Tryd.ntmps44
      go_wp2_with fail
      refine (isParty_any _ _ _ _ _ hl hr).mono ?_
      rw [Hp.out]
      rintro e w2 ⟨rfl, hb2⟩
      have s2 := hb2.size
      simp only [World.size_alloc] at s2
      have k2 : Below w.heap.size w w2 := Below.trans (b := _) (by go_grown) (hb2.mono (by simp))
      have c0 : w2.cell? ⟨w.heap.size, 0, none⟩ = some (.int .i64 n) := carry hb2 (by simp) (by simp)
      have c1 : w2.cell? ⟨w.heap.size, 1, none⟩ = some (.slice A l.length c) := carry hb2 (by simp) (by simp)
      have q0 : ∀ z : Ext w2.heap.size w2, z.val.cell? ⟨w.heap.size, 0, none⟩ = some (.int .i64 n) := fun z => z.cell c0 (by omega)
      have q1 : ∀ z : Ext w2.heap.size w2, z.val.cell? ⟨w.heap.size, 1, none⟩ = some (.slice A l.length c) := fun z => z.cell c1 (by omega)
      have hpos := HTab.out.pos
      go_wp2
      refine wp_region_ext w2.heap.size (by kernel_rfl) (by kernel_rfl) ?_
      repeat (go_big_quiet_step ((first
        | (go_at_call 58; exact Calls.ext_of ((friendsIn_any _ l A c _ Hp.out ((hA.below (k2.trans ((Ext.below _).mono k2.size)) (Nat.le_refl _)).more (Nat.le_trans k2.size (Ext.size _)))).mono fun _ _ h => ⟨h.1, h.2.2.mono (Ext.size _)⟩))
        | (go_at_call 67; exact Calls.ext_of ((everybody_any n (by omega) _).mono fun _ _ h => ⟨h.1, h.2 ▸ Below.refl _ _⟩))
        | (go_at_call 73; exact Calls.ext_of ((countTied_any hT.out hset.out Hcs.out (size := (s : Int)) (by omega) _ (HTab.out.below (k2.trans ((Ext.below _).mono k2.size)) hpos)).mono fun _ _ h => ⟨h.1, h.2.mono (Ext.size _)⟩)))))
      refine wpQuiet_nil ?_
      rintro w5 ⟨⟨_, hb5⟩, rfl⟩
      go_wp2
      go_ret2
      exact ⟨by rw [Int.toNat_natCast]; rfl, k2.trans (hb5.mono k2.size)⟩
    · have e : (rv, rok) = (0, false) := by rw [← hres]; simp [resCountGroups, hk]
      simp only [Prod.mk.injEq] at e
      obtain ⟨rfl, rfl⟩ := e
      have Hp := Lib.hid hp
      clear hp hres
      have hor : k < 0 ∨ ¬ k < 0 ∧ 12 < k := by omega
      clear hk
      rcases hor with h | ⟨h, h'⟩
      all_goals
        go_enter Tryd.func44, Tryd.ntmps44
        go_wp2_with fail
        refine (isParty_any _ _ _ _ _ hl hr).mono ?_
        rw [Hp.out]
        rintro e w2 ⟨rfl, hb2⟩
        simp only [World.size_alloc] at hb2
        go_wp2
        go_ret2
        exact ⟨rfl, Below.trans (b := _) (by go_grown) (hb2.mono (by omega))⟩
end Go.Proofs.YtgccapdjhnejcaaDoor
