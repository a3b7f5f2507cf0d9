/-
  'LacksGroup': the model's and the program's, by their contracts.
-/
import Derived.Test.YtgccapdjhnejcaaDoorCountG
import Derived.Test.YtgccapdjhnejcaaDoorGrLook
namespace Go.Proofs.YtgccapdjhnejcaaDoor
open Go.RowKit

def lacksB (n : Nat) (l : PL) (k : Nat) : Bool := (groupsL n l k).isEmpty
def resLacksGroup (p : Int) (l : PL) (k : Int) : Bool × Bool := if isP p l && decide (1 ≤ k ∧ k ≤ 12) then (lacksB p.toNat l k.toNat, true) else (false, false)
theorem len_eq (a b : Nat) : ((a : Int) == (b : Int)) = decide (a = b) := by
  by_cases h : a = b
  · subst h; simp
  · simp [h]; omega

set_option maxHeartbeats 2000000 in
set_option maxRecDepth 100000 in
theorem specLacksGroup_any (p : Int) (l : PL) (A : Option Addr) (c : Nat) (i : Int) (w : World) (hl : l.length ≤ 1048576) (hA : CRead w w.heap.size A (pcells l)) :
    Calls Tryd.prog 24 #[.agg #[.int .i64 p, .slice A l.length c], .int .i64 i] w fun e w' => e = .returned (.tuple #[.bool (resLacksGroup p l i).1, .bool (resLacksGroup p l i).2]) ∧ Below w.heap.size w w' := by
  have hr : CRead (w.alloc (Obj.cells #[.int .i64 p, .slice A l.length c] 31)) (w.alloc (Obj.cells #[.int .i64 p, .slice A l.length c] 31)).heap.size A (pcells l) := (hA.below (B' := w.heap.size) (by go_grown) (Nat.le_refl _)).more (by go_size)
  obtain ⟨⟨rv, rok⟩, hres⟩ : ∃ x, resLacksGroup p l i = x := ⟨_, rfl⟩
  rw [hres]
  cases hp : isP p l with
  | false =>
    have e : (rv, rok) = (false, false) := by rw [← hres]; simp [resLacksGroup, hp]
    simp only [Prod.mk.injEq] at e
    obtain ⟨rfl, rfl⟩ := e
    have Hp := Lib.hid hp
    clear hp hres
    go_enter Tryd.func24, Tryd.ntmps24
    go_wp2_with fail
    refine (paGood_any _ _ _ _ _ hl hr).mono ?_
    rw [Hp.out]
    rintro e w2 ⟨rfl, hb2⟩
    simp only [World.size_alloc] at hb2
    go_wp2
    go_ret2
    exact ⟨rfl, Below.trans (b := _) (by go_grown) (hb2.mono (by omega))⟩
  | true =>
    obtain ⟨n, rfl⟩ : ∃ n : Nat, p = n := ⟨p.toNat, by have := isP_range hp; omega⟩
    have hn := isP_range hp
    by_cases hk : 1 ≤ i ∧ i ≤ 12
    · obtain ⟨k, rfl⟩ : ∃ x : Nat, i = x := ⟨i.toNat, by omega⟩
      have e : (rv, rok) = (lacksB n l k, true) := by rw [← hres]; simp [resLacksGroup, hp, hk.2]; omega
      simp only [Prod.mk.injEq] at e
      obtain ⟨rfl, rfl⟩ := e
      have hhas : lacksB n l k = false ↔ ∃ x ∈ ([] :: subsC (adj l) [] (List.range n)), x.length = k := subsC_has
      obtain ⟨LL, hLL⟩ : ∃ LL, [] :: subsC (adj l) [] (List.range n) = LL := ⟨_, rfl⟩
      rw [hLL] at hhas
      obtain ⟨bv, hbv⟩ : ∃ bv, lacksB n l k = bv := ⟨_, rfl⟩
      rw [hbv] at hhas ⊢
      have hfew : LL.length ≤ 4096 := by
        rw [← hLL]
        have h1 := subsC_few (adj l) [] (List.range n)
        have h2 : 2 ^ (List.range n).length ≤ 2 ^ 12 := Nat.pow_le_pow_right (by omega) (by simp; omega)
        simp only [List.length_cons]
        omega
      have Hhas := Lib.hid hhas
      have HLL := Lib.hid hLL
      have Hp := Lib.hid hp
      clear hp hres hLL hhas hbv
      go_enter Tryd.func24, Tryd.ntmps24
      go_wp2_with fail
      refine (paGood_any _ _ _ _ _ hl hr).mono ?_
      rw [Hp.out]
      rintro e w2 ⟨rfl, hb2⟩
      have s2 := hb2.size
      have k2 : Below w.heap.size w w2 := Below.trans (b := _) (by go_grown) (hb2.mono (by simp))
      have c0 : w2.cell? ⟨w.heap.size, 0, none⟩ = some (.int .i64 n) := carry hb2 (by simp) (by simp)
      have c1 : w2.cell? ⟨w.heap.size, 1, none⟩ = some (.slice A l.length c) := carry hb2 (by simp) (by simp)
      simp only [World.size_alloc] at s2
      go_wp2_with fail
      refine (l1In_yes _ _ _ hk.1 hk.2 _).mono ?_
      rintro e w' ⟨rfl, rfl⟩
      go_wp2_with fail
      refine (paTable_any _ _ _ _ _ Hp.out ((hA.below k2 (Nat.le_refl _)).more k2.size)).mono ?_
      rw [Int.toNat_natCast]
      rintro e w4 ⟨A4, c4, G, rfl, tab, hb4⟩
      have k4 := k2.trans (hb4.mono k2.size)
      have g := grGroups_any n (by omega) (adj l) (adj_comm l) A4 c4 G _ w4 tab
      rw [HLL.out] at g
      have Gg := Lib.hid g
      clear g c0 c1 tab
      go_wp2_with fail
      refine Gg.out.mono ?_
      rintro e w5 ⟨A5, c5, hs, rfl, rows, hb5⟩
      have k5 := k4.trans (hb5.mono k4.size)
      clear Gg
      have Rows := Lib.hid rows
      clear rows
      go_wp2
      go_loop [20] (fun i => ∃ j : Nat, j ≤ LL.length ∧ i = .int .i64 j ∧ ∀ (m : Nat) (x : List Int), m < j → LL[m]? = some x → x.length ≠ k) (fun i => LL.length - (intOf i).toNat)
      case atStart => exact ⟨0, Nat.zero_le _, by go_num, fun m x hm => by omega⟩
      case round =>
        obtain ⟨j, hj, rfl, hg⟩ := hrel
        have Hg := Lib.hid hg
        clear hg
        by_cases hlt : j < LL.length
        · obtain ⟨q, hq⟩ := getSome LL j hlt
          obtain ⟨Aj, cj, hj', ownj⟩ := Rows.out.row j q hq
          obtain ⟨b, off, rfl, hbb, c0⟩ := (CRead.of_own Rows.out.own) j _ hj'
          have hji : (j : Int) < (LL.length : Int) := by omega
          have Hq := Lib.hid hq
          by_cases hqk : q.length = k
          · have hb : ((q.length : Int) == (k : Int)) = true := by rw [len_eq]; simp [hqk]
            have hres : bv = false := Hhas.out.2 ⟨q, List.mem_of_getElem? Hq.out, hqk⟩
            have Hres := Lib.hid hres
            clear hq hj' ownj hqk hres
            go_wp2
            go_ret2
            rw [Hres.out]
            exact ⟨rfl, k5⟩
          · have hb : ((q.length : Int) == (k : Int)) = false := by rw [len_eq]; simp [hqk]
            have Hqk := Lib.hid hqk
            clear hq hj' ownj hqk
            go_wp2
            go_round
            case rel =>
              refine ⟨j + 1, by omega, by go_num, fun m x hm hx => ?_⟩
              by_cases hmj : m = j
              · subst hmj
                rw [Hq.out] at hx
                simp only [Option.some.injEq] at hx
                subst hx
                exact Hqk.out
              · exact Hg.out m x (by omega) hx
            case measure => simp [intOf]; omega
        · have hje : j = LL.length := by omega
          subst hje
          have hge : ¬ ((LL.length : Int) < (LL.length : Int)) := by omega
          have hres : bv = true := by
            cases hb : bv with
            | true => rfl
            | false =>
              obtain ⟨x, hx, hxk⟩ := Hhas.out.1 hb
              obtain ⟨m, hm, e⟩ := List.getElem_of_mem hx
              exact absurd hxk (Hg.out m x hm (by rw [List.getElem?_eq_getElem hm, e]))
          have Hres := Lib.hid hres
          clear hres
          go_wp2
          go_ret2
          rw [Hres.out]
          exact ⟨rfl, k5⟩
    · have e : (rv, rok) = (false, false) := by rw [← hres]; simp [resLacksGroup, hk]
      simp only [Prod.mk.injEq] at e
      obtain ⟨rfl, rfl⟩ := e
      have hk' : i < 1 ∨ 12 < i := by omega
      have Hp := Lib.hid hp
      clear hp hres
      go_enter Tryd.func24, Tryd.ntmps24
      go_wp2_with fail
      refine (paGood_any _ _ _ _ _ hl hr).mono ?_
      rw [Hp.out]
      rintro e w2 ⟨rfl, hb2⟩
      simp only [World.size_alloc] at hb2
      go_wp2_with fail
      refine (l1In_no _ _ _ hk' _).mono ?_
      rintro e w' ⟨rfl, rfl⟩
      go_wp2
      go_ret2
      exact ⟨rfl, Below.trans (b := _) (by go_grown) (hb2.mono (by omega))⟩
set_option maxHeartbeats 2000000 in
set_option maxRecDepth 100000 in
theorem implLacksGroup_any (p : Int) (l : PL) (A : Option Addr) (c : Nat) (k : Int) (w : World) (hl : l.length ≤ 1048576) (hA : CRead w w.heap.size A (pcells l)) (htab : TabW w) :
    Calls Tryd.prog 25 #[.agg #[.int .i64 p, .slice A l.length c], .int .i64 k] w fun e w' => e = .returned (.tuple #[.bool (resLacksGroup p l k).1, .bool (resLacksGroup p l k).2]) ∧ Below w.heap.size w w' := by
  have hr : CRead (w.alloc (Obj.cells #[.int .i64 p, .slice A l.length c] 31)) (w.alloc (Obj.cells #[.int .i64 p, .slice A l.length c] 31)).heap.size A (pcells l) := (hA.below (B' := w.heap.size) (by go_grown) (Nat.le_refl _)).more (by go_size)
  obtain ⟨⟨rv, rok⟩, hres⟩ : ∃ r, resLacksGroup p l k = r := ⟨_, rfl⟩
  rw [hres]
  have HTab := Lib.hid htab
  clear htab
  cases hp : isP p l with
  | false =>
    have e : (rv, rok) = (false, false) := by rw [← hres]; simp [resLacksGroup, hp]
    simp only [Prod.mk.injEq] at e
    obtain ⟨rfl, rfl⟩ := e
    have Hp := Lib.hid hp
    clear hp hres
    go_enter Tryd.func25, Tryd.ntmps25
    go_wp2_with fail
    refine (isParty_any _ _ _ _ _ hl hr).mono ?_
    rw [Hp.out]
    rintro e w2 ⟨rfl, hb2⟩
    simp only [World.size_alloc] at hb2
    go_wp2
    go_ret2
    exact ⟨rfl, Below.trans (b := _) (by go_grown) (hb2.mono (by omega))⟩
  | true =>
    by_cases hk : 1 ≤ k ∧ k ≤ 12
    · obtain ⟨n, rfl⟩ : ∃ n : Nat, p = n := ⟨p.toNat, by have := isP_range hp; omega⟩
      obtain ⟨s, rfl⟩ : ∃ s : Nat, k = s := ⟨k.toNat, by omega⟩
      have hn := isP_range hp
      have e : (rv, rok) = (lacksB n l s, true) := by rw [← hres]; simp [resLacksGroup, hp, hk.2]; omega
      simp only [Prod.mk.injEq] at e
      obtain ⟨rfl, rfl⟩ := e
      have hT := Lib.hid (friendsT_of hp)
      have hset := Lib.hid (IsSet.people (n := n) (by omega))
      have hcs : ∀ b ∈ List.range n, b < 12 := fun b hb => by have := List.mem_range.1 hb; omega
      have Hcs := Lib.hid hcs
      have Hp := Lib.hid hp
      have n0 : ¬ (s : Int) < 1 := by omega
      have n1 : ¬ (12 : Int) < s := by omega
      clear hp hres hcs
      go_enter Tryd.func25, Tryd.ntmps25
      go_wp2_with fail
      refine (isParty_any _ _ _ _ _ hl hr).mono ?_
      rw [Hp.out]
      rintro e w2 ⟨rfl, hb2⟩
      have s2 := hb2.size
      simp only [World.size_alloc] at s2
      have k2 : Below w.heap.size w w2 := Below.trans (b := _) (by go_grown) (hb2.mono (by simp))
      have c0 : w2.cell? ⟨w.heap.size, 0, none⟩ = some (.int .i64 n) := carry hb2 (by simp) (by simp)
      have c1 : w2.cell? ⟨w.heap.size, 1, none⟩ = some (.slice A l.length c) := carry hb2 (by simp) (by simp)
      have q0 : ∀ z : Ext w2.heap.size w2, z.val.cell? ⟨w.heap.size, 0, none⟩ = some (.int .i64 n) := fun z => z.cell c0 (by omega)
      have q1 : ∀ z : Ext w2.heap.size w2, z.val.cell? ⟨w.heap.size, 1, none⟩ = some (.slice A l.length c) := fun z => z.cell c1 (by omega)
      have hpos := HTab.out.pos
      go_wp2
      refine wp_region_ext w2.heap.size (by kernel_rfl) (by kernel_rfl) ?_
      repeat (go_big_quiet_step ((first
        | (go_at_call 58; exact Calls.ext_of ((friendsIn_any _ l A c _ Hp.out ((hA.below (k2.trans ((Ext.below _).mono k2.size)) (Nat.le_refl _)).more (Nat.le_trans k2.size (Ext.size _)))).mono fun _ _ h => ⟨h.1, h.2.2.mono (Ext.size _)⟩))
        | (go_at_call 67; exact Calls.ext_of ((everybody_any n (by omega) _).mono fun _ _ h => ⟨h.1, h.2 ▸ Below.refl _ _⟩))
        | (go_at_call 66; exact Calls.ext_of ((hasTied_any hT.out hset.out Hcs.out (size := (s : Int)) (by omega) _ (HTab.out.below (k2.trans ((Ext.below _).mono k2.size)) hpos)).mono fun _ _ h => ⟨h.1, h.2.mono (Ext.size _)⟩)))))
      refine wpQuiet_nil ?_
      rintro w5 ⟨⟨_, hb5⟩, rfl⟩
      go_wp2
      go_ret2
      exact ⟨rfl, k2.trans (hb5.mono k2.size)⟩
    · have e : (rv, rok) = (false, false) := by rw [← hres]; simp [resLacksGroup, hk]
      simp only [Prod.mk.injEq] at e
      obtain ⟨rfl, rfl⟩ := e
      have Hp := Lib.hid hp
      clear hp hres
      have hor : k < 1 ∨ ¬ k < 1 ∧ 12 < k := by omega
      clear hk
      rcases hor with h | ⟨h, h'⟩
      all_goals
        go_enter Tryd.func25, Tryd.ntmps25
        go_wp2_with fail
        refine (isParty_any _ _ _ _ _ hl hr).mono ?_
        rw [Hp.out]
        rintro e w2 ⟨rfl, hb2⟩
        simp only [World.size_alloc] at hb2
        go_wp2
        go_ret2
        exact ⟨rfl, Below.trans (b := _) (by go_grown) (hb2.mono (by omega))⟩
end Go.Proofs.YtgccapdjhnejcaaDoor
