/-
  Texts put together for the claim of 'GrowGroup' (pack 5): GrowS, Choice, Box, Shelf, ChooseI, GroupI, Numbers, People, First, Nums, NumsW, NumsT.
-/
import Derived.Test.YtnpljmipicjacaaDoorGrowGroupP1
import Derived.Test.YtnpljmipicjacaaDoorGrowGroupP2
import Derived.Test.YtnpljmipicjacaaDoorGrowGroupP3
import Derived.Test.YtnpljmipicjacaaDoorGrowGroupP4
import Derived.Shelf.SlicesE.Clone
import Derived.Shelf.SlicesG.SearchI
import Derived.Shelf.SlicesG.Turned
import Derived.Shelf.SlGeneric
import Derived.Ground.SlgnProg
import Derived.Test.YtnpljmipicjacaaDoorProg
import Derived.Deep.LoopGhost
import Derived.BigQuiet
/-
  'GrowGroup' of the model, by its contract.
-/
namespace Go.Proofs.YtnpljmipicjacaaDoor
open Go.RowKit

theorem own_none {w : World} {B : Nat} {e : TypeId} {m c : Nat} {A : Option Addr} {xs : List Value} (h : w.ownsRow B e 1 (.slice A m c) m xs) : (A = none ∧ m = 0 ∧ c = 0) ∨ ∃ g, A = some ⟨g, 0, none⟩ := by
  rcases h.2 with ⟨h1, h2⟩ | ⟨g, cap, cur, hv, _⟩
  · simp only [Value.slice.injEq] at h1
    exact .inl ⟨h1.1, h2, h1.2.2⟩
  · simp only [Value.slice.injEq] at hv
    exact .inr ⟨g, hv.1⟩

theorem own_zero {w : World} {B : Nat} {e : TypeId} {m c : Nat} {A : Option Addr} {xs : List Value} (h : w.ownsRow B e 1 (.slice A m c) m xs) : A = none → c = 0 := by
  intro hA
  rcases own_none h with ⟨_, _, h3⟩ | ⟨g, h1⟩
  · exact h3
  · rw [hA] at h1; cases h1

set_option maxHeartbeats 2000000 in
set_option maxRecDepth 100000 in
theorem l1Rising_any (n : Nat) (q : List Int) (B : Option Addr) (d : Nat) (w : World) (hq : q.length ≤ 1048576) (hB : CRead w w.heap.size B (icells q)) :
    Calls Tryd.prog 65 #[.slice B q.length d, .int .i64 0, .int .i64 ((n : Int) - 1)] w fun e w' => e = .returned (.bool (isChoiceI n q)) ∧ w = w' := by
  obtain ⟨r, hr⟩ : ∃ r, isChoiceI n q = r := ⟨_, rfl⟩
  rw [hr]
  have Hr := Lib.hid hr
  clear hr
  go_enter Tryd.func65, Tryd.ntmps65
  go_wp2
  go_loop [11] (fun i => ∃ k : Nat, k ≤ q.length ∧ i = .int .i64 k ∧ ∀ j, j < k → choiceAt n q j = true) (fun i => q.length - (intOf i).toNat)
  case atStart => exact ⟨0, Nat.zero_le _, rfl, fun j hj => by omega⟩
  case round =>
    obtain ⟨k, hk, rfl, hg⟩ := hrel
    have Hg := Lib.hid hg
    clear hg
    by_cases hlt : k < q.length
    · obtain ⟨x, hx⟩ := getSome q k hlt
      obtain ⟨b, off, rfl, hbb, c0⟩ := hB.int hx
      have hki : (k : Int) < (q.length : Int) := by omega
      by_cases hman : 0 ≤ x ∧ x < n
      · have hin : l1InB x 0 ((n : Int) - 1) = true := decide_eq_true (by omega)
        by_cases hk0 : k = 0
        · have Hch := Lib.hid (choiceAt_zero (p := n) hk0 hx hman)
          have hkz : ¬ ((0 : Int) < (k : Int)) := by omega
          have Hk0 := Lib.hid hk0
          clear hx hman hk0
          go_wp2_with fail
          refine (l1In_any x 0 ((n : Int) - 1) _).mono ?_
          rw [hin]
          rintro e w5 ⟨rfl, rfl⟩
          go_wp2
          go_round
          case rel => exact ⟨k + 1, by omega, by go_num, fun j hj => by
                        have hk0 := Hk0.out
                        obtain rfl : j = k := by omega
                        exact Hch.out⟩
          case measure => simp [intOf]; omega
        · obtain ⟨y, hy⟩ := getSome q (k - 1) (by omega)
          obtain ⟨b', off', e', _, c1⟩ := hB.int hy
          simp only [Option.some.injEq, Addr.mk.injEq, and_true] at e'
          obtain ⟨rfl, rfl⟩ := e'
          have hkz : (0 : Int) < (k : Int) := by omega
          have hk1 : ((k : Int) - 1).toNat = k - 1 := by omega
          have hk2 : (0 : Int) ≤ (k : Int) - 1 := by omega
          have hk3 : (k : Int) - 1 < (q.length : Int) := by omega
          by_cases hl : y < x
          · have Hch := Lib.hid (choiceAt_later (p := n) (by omega) hy hx hman hl)
            have hnl : ¬ x ≤ y := by omega
            clear hx hy hman hk0
            go_wp2_with fail
            refine (l1In_any x 0 ((n : Int) - 1) _).mono ?_
            rw [hin]
            rintro e w5 ⟨rfl, rfl⟩
            go_wp2
            go_round
            case rel => exact ⟨k + 1, by omega, by go_num, fun j hj => by
                          by_cases e : j = k
                          · subst e; exact Hch.out
                          · exact Hg.out j (by omega)⟩
            case measure => simp [intOf]; omega
          · have Hch := Lib.hid (isChoiceI_no hlt (choiceAt_stale (p := n) (by omega) hy hx hl))
            have hnl : x ≤ y := by omega
            clear hx hy hman hk0 hl
            go_wp2_with fail
            refine (l1In_any x 0 ((n : Int) - 1) _).mono ?_
            rw [hin]
            rintro e w5 ⟨rfl, rfl⟩
            go_wp2
            go_ret
            exact ⟨by rw [← Hr.out, Hch.out]; rfl, rfl⟩
      · have hin : l1InB x 0 ((n : Int) - 1) = false := decide_eq_false (by omega)
        have Hch := Lib.hid (isChoiceI_no hlt (choiceAt_bad hx hman))
        clear hx hman
        go_wp2_with fail
        refine (l1In_any x 0 ((n : Int) - 1) _).mono ?_
        rw [hin]
        rintro e w5 ⟨rfl, rfl⟩
        go_wp2
        go_ret
        exact ⟨by rw [← Hr.out, Hch.out]; rfl, rfl⟩
    · have hkl : k = q.length := by omega
      have hge : ¬ ((k : Int) < (q.length : Int)) := by omega
      have He := Lib.hid (isChoiceI_of (p := n) (q := q) fun i hi => Hg.out i (by omega))
      go_wp2
      go_ret
      exact ⟨by rw [← Hr.out, He.out]; rfl, rfl⟩
set_option maxHeartbeats 4000000 in
set_option maxRecDepth 100000 in
theorem grIs_any (n : Nat) (l : PL) (A : Option Addr) (c : Nat) (G : Nat → Nat) (B0 : Nat) (q : List Int) (B : Option Addr) (d : Nat) (w : World) (hn : n ≤ 12) (tab : TabG w B0 (.slice A n c) n n G (adj l))
    (hc : isChoiceI n q = true) (hq : q.length ≤ 1048576) (hd : q.length ≤ d) (hB : CRead w w.heap.size B (icells q)) :
    Calls Tryd.prog 66 #[.slice A n c, .slice B q.length d] w fun e w' => e = .returned (.bool (isGroupI n l q)) ∧ w = w' := by
  have hmem := isChoiceI_mem hc
  obtain ⟨r, hr⟩ : ∃ r, isGroupI n l q = r := ⟨_, rfl⟩
  rw [hr]
  have Hr := Lib.hid hr
  have Hc := Lib.hid hc
  have Hmem := Lib.hid hmem
  clear hr hc hmem
  go_enter Tryd.func66, Tryd.ntmps66
  go_wp2
  go_loopw [11] (fun i wr => ∃ k : Nat, k ≤ q.length ∧ i = .int .i64 k ∧ w = wr ∧ ∀ j, j < k → groupAt n l q j = true) (fun i _ => q.length - (intOf i).toNat)
  case atStart => exact ⟨0, Nat.zero_le _, rfl, rfl, fun j hj => by omega⟩
  case round =>
    obtain ⟨k, hk, rfl, rfl, hg⟩ := hrel
    have Hg := Lib.hid hg
    clear hg
    by_cases hlt : k < q.length
    · obtain ⟨x, hx⟩ := getSome q k hlt
      have hx0 := Hmem.out x (List.mem_of_getElem? hx)
      obtain ⟨a, rfl⟩ : ∃ a : Nat, x = a := ⟨x.toNat, by omega⟩
      obtain ⟨b, off, rfl, hbb, u0⟩ := hB.int hx
      obtain ⟨g, rfl⟩ := own_form tab.own (by omega)
      have han : a < n := by omega
      have hai : (a : Int) < n := by omega
      have d0 := tab.outer han
      have hki : (k : Int) < (q.length : Int) := by omega
      have hkd : (k : Int) ≤ (d : Int) := by omega
      have hkd2 : k ≤ d := by omega
      have Hx := Lib.hid hx
      clear hx
      go_wp2
      go_loopw [20] (fun i wi => ∃ j : Nat, j ≤ k ∧ i = .int .i64 j ∧ w = wi ∧ ∀ (j' : Nat) (y : Int), j' < j → q[j']? = some y → adj l a y.toNat = true) (fun i _ => k - (intOf i).toNat)
      case atStart => exact ⟨0, Nat.zero_le _, rfl, rfl, fun j y hj => by omega⟩
      case round =>
        obtain ⟨j, hj, rfl, rfl, hall⟩ := hrel
        have Hall := Lib.hid hall
        clear hall
        by_cases hjt : j < k
        · obtain ⟨y, hy⟩ := getSome q j (by omega)
          have hy0 := Hmem.out y (List.mem_of_getElem? hy)
          obtain ⟨b2, rfl⟩ : ∃ b2 : Nat, y = b2 := ⟨y.toNat, by omega⟩
          obtain ⟨b', off', e', _, u1⟩ := hB.int hy
          simp only [Option.some.injEq, Addr.mk.injEq, and_true] at e'
          obtain ⟨rfl, rfl⟩ := e'
          have hji : (j : Int) < (k : Int) := by omega
          have hbi : (b2 : Int) < n := by omega
          have d1 := tab.cell han (show b2 < n by omega)
          have Hy := Lib.hid hy
          clear hy
          cases ht : adj l a b2 with
          | false =>
            rw [ht] at d1
            have hf : isGroupI n l q = false := isGroupI_no hlt (by
              unfold groupAt knowsI
              rw [Bool.and_eq_false_iff]
              right
              rw [List.all_eq_false]
              refine ⟨(b2 : Int), List.mem_of_getElem? (i := j) (by rw [List.getElem?_take, if_pos hjt]; exact Hy.out), ?_⟩
              rw [getD_is Hx.out]
              simp [ht])
            have Hf := Lib.hid hf
            clear ht hf
            go_wp2
            go_ret
            exact ⟨by rw [← Hr.out, Hf.out]; rfl, rfl⟩
          | true =>
            rw [ht] at d1
            have Ht := Lib.hid ht
            clear ht
            go_wp2
            go_roundw
            case rel =>
              refine ⟨j + 1, by omega, by go_num, trivial, fun j' z hj' hz => ?_⟩
              by_cases hjk : j' = j
              · subst hjk
                rw [Hy.out] at hz
                simp only [Option.some.injEq] at hz
                subst hz
                exact Ht.out
              · exact Hall.out j' z (by omega) hz
            case measure => simp [intOf]; omega
        · have hje : j = k := by omega
          subst hje
          have hge : ¬ ((j : Int) < (j : Int)) := by omega
          have hga : groupAt n l q j = true := by
            unfold groupAt knowsI
            rw [isChoiceI_good Hc.out hlt, Bool.true_and, List.all_eq_true]
            intro y hy
            obtain ⟨i, hi, e⟩ := List.getElem_of_mem hy
            rw [List.length_take] at hi
            rw [List.getElem_take] at e
            rw [getD_is Hx.out]
            exact Hall.out i y (by omega) (by rw [List.getElem?_eq_getElem (by omega), e])
          have Hga := Lib.hid hga
          clear hga
          go_wp2
          go_roundw
          case rel =>
            refine ⟨j + 1, by omega, by go_num, trivial, fun i hi => ?_⟩
            by_cases e : i = j
            · subst e; exact Hga.out
            · exact Hg.out i (by omega)
          case measure => simp [intOf]; omega
    · have hkl : k = q.length := by omega
      have hge : ¬ ((k : Int) < (q.length : Int)) := by omega
      have He := Lib.hid (isGroupI_of (p := n) (l := l) (q := q) fun i hi => Hg.out i (by omega))
      go_wp2
      go_ret
      exact ⟨by rw [← Hr.out, He.out]; rfl, rfl⟩
set_option maxHeartbeats 4000000 in
set_option maxRecDepth 100000 in
theorem grGroup_any (p : Int) (l : PL) (A : Option Addr) (c : Nat) (q : List Int) (B : Option Addr) (d : Nat) (w : World) (hl : l.length ≤ 1048576) (hA : CRead w w.heap.size A (pcells l)) (hq : q.length ≤ 1048576) (hB : CRead w w.heap.size B (icells q)) (hd : q.length ≤ d) :
    Calls Tryd.prog 36 #[.agg #[.int .i64 p, .slice A l.length c], .slice B q.length d] w fun e w' => e = .returned (.bool (isP p l && isGroupI p l q)) ∧ Below w.heap.size w w' := by
  have RA : CRead (w.alloc (Obj.cells #[.int .i64 p, .slice A l.length c] 31)) (w.alloc (Obj.cells #[.int .i64 p, .slice A l.length c] 31)).heap.size A (pcells l) := (hA.below (B' := w.heap.size) (by go_grown) (Nat.le_refl _)).more (by go_size)
  cases hp : isP p l with
  | false =>
    have Hp := Lib.hid hp
    clear hp
    go_enter Tryd.func36, Tryd.ntmps36
    go_wp2_with fail
    refine (paGood_any _ _ _ _ _ hl RA).mono ?_
    rw [Hp.out]
    rintro e w2 ⟨rfl, hb2⟩
    simp only [World.size_alloc] at hb2
    go_wp2
    go_ret
    exact ⟨rfl, Below.trans (b := _) (by go_grown) (hb2.mono (by omega))⟩
  | true =>
    have hn := isP_range hp
    obtain ⟨n, rfl⟩ : ∃ n : Nat, p = n := ⟨p.toNat, by omega⟩
    have hn12 : n ≤ 12 := by omega
    have Hp := Lib.hid hp
    clear hp
    cases hc : isChoiceI n q with
    | false =>
      have hg : isGroupI n l q = false := groups_not hc
      rw [hg]
      have Hc := Lib.hid hc
      clear hc hg
      go_enter Tryd.func36, Tryd.ntmps36
      go_wp2_with fail
      refine (paGood_any _ _ _ _ _ hl RA).mono ?_
      rw [Hp.out]
      rintro e w2 ⟨rfl, hb2⟩
      simp only [World.size_alloc] at hb2
      have a0 : w2.cell? ⟨w.heap.size, 0, none⟩ = some (.int .i64 n) := carry hb2 (by simp) (by omega)
      have k2 : Below w.heap.size w w2 := Below.trans (b := _) (by go_grown) (hb2.mono (by omega))
      go_wp2_with fail
      refine (l1Rising_any n q B d _ hq ((hB.below k2 (Nat.le_refl _)).more k2.size)).mono ?_
      rw [Hc.out]
      rintro e w3 ⟨rfl, rfl⟩
      go_wp2
      go_ret
      exact ⟨rfl, k2⟩
    | true =>
      have Hc := Lib.hid hc
      clear hc
      obtain ⟨r, hr⟩ : ∃ r, isGroupI n l q = r := ⟨_, rfl⟩
      rw [hr]
      have Hr := Lib.hid hr
      clear hr
      go_enter Tryd.func36, Tryd.ntmps36
      go_wp2_with fail
      refine (paGood_any _ _ _ _ _ hl RA).mono ?_
      rw [Hp.out]
      rintro e w2 ⟨rfl, hb2⟩
      simp only [World.size_alloc] at hb2
      have a0 : w2.cell? ⟨w.heap.size, 0, none⟩ = some (.int .i64 n) := carry hb2 (by simp) (by omega)
      have a1 : w2.cell? ⟨w.heap.size, 1, none⟩ = some (.slice A l.length c) := carry hb2 (by simp) (by omega)
      have k2 : Below w.heap.size w w2 := Below.trans (b := _) (by go_grown) (hb2.mono (by omega))
      go_wp2_with fail
      refine (l1Rising_any n q B d _ hq ((hB.below k2 (Nat.le_refl _)).more k2.size)).mono ?_
      rw [Hc.out]
      rintro e w3 ⟨rfl, rfl⟩
      go_wp2_with fail
      refine (paTable_any _ _ _ _ _ Hp.out ((hA.below k2 (Nat.le_refl _)).more k2.size)).mono ?_
      rintro e w4 ⟨A4, c4, G, rfl, tab, hb4⟩
      simp only [Int.toNat_natCast] at tab ⊢
      have k4 := k2.trans (hb4.mono k2.size)
      have g := grIs_any n l A4 c4 G _ q B d w4 hn12 tab Hc.out hq hd ((hB.below k4 (Nat.le_refl _)).more k4.size)
      rw [Hr.out] at g
      have Gg := Lib.hid g
      clear g
      go_wp2_with fail
      refine Gg.out.mono ?_
      rintro e w5 ⟨rfl, rfl⟩
      go_wp2
      go_ret
      exact ⟨rfl, k4⟩
set_option maxHeartbeats 4000000 in
set_option maxRecDepth 100000 in
theorem l1Own_row (q : List Int) (A : Option Addr) (c : Nat) (w : World) (hq : q.length ≤ 1048576) (hA : CRead w w.heap.size A (icells q)) (h0 : A = none → c = 0) :
    Calls Tryd.prog 38 #[.slice A q.length c] w fun e w' => ∃ A' c', e = .returned (.slice A' q.length c') ∧ w'.ownsRow w.heap.size 3 1 (.slice A' q.length c') q.length (icells q) ∧ Below w.heap.size w w' := by
  by_cases hz : q = []
  · cases A with
    | none => exact l1Own_all q none c w hq hA fun _ => ⟨rfl, h0 rfl⟩
    | some ad =>
      subst hz
      obtain ⟨i0, hi, hz0, hz1, hz2⟩ := info_parts Tryd.infoInt
      have h1 : (w.alloc (.cells #[] 3)).ownsRow w.heap.size 3 1 (.slice (some ⟨w.heap.size, 0, none⟩) 0 0) 0 [] := World.ownsRow_made w #[] 0 (Nat.le_refl _) (Nat.zero_le _) rfl
      go_enter Tryd.func38, Tryd.ntmps38
      go_wp2_with (at_builtin; refine wpList_append_own _ rfl _ _ 25 rfl w.heap.size 3 i0 _ 1 8 Tryd.underlying25 hi hz0 hz1 hz2 rfl (by decide) (.slice (some ⟨w.heap.size, 0, none⟩) 0 0) 0 [] rfl h1 ad 0 c [] rfl rfl (fun j u hj => by simp at hj) (by simp) (by unfold maxLen; omega) (by omega) (by simp) ?_; intro v1 w1 own1 gr1 _; have k1 : Below w.heap.size w w1 := ((Below.refl _ w).alloc (Nat.le_refl _) _).grown gr1 (by simp) (by intro m hm; simp [Value.ownBlock] at hm; omega); obtain ⟨A1, c1, rfl, _⟩ := own_shape own1)
      go_ret
      exact ⟨A1, c1, rfl, own1, k1⟩
  · exact l1Own_all q A c w hq hA fun e => absurd e hz
set_option maxHeartbeats 4000000 in
set_option maxRecDepth 100000 in
theorem specGrowGroup_any (p : Int) (l : PL) (A : Option Addr) (c : Nat) (q : List Int) (B : Option Addr) (d : Nat) (w : World) (hl : l.length ≤ 1048576) (hA : CRead w w.heap.size A (pcells l)) (hq : q.length ≤ 1048576) (hB : CRead w w.heap.size B (icells q)) (hd : q.length ≤ d) (hz : B = none → d = 0) :
    Calls Tryd.prog 11 #[.agg #[.int .i64 p, .slice A l.length c], .slice B q.length d] w (GotIntsOk w (resGrowGroup p l q).1 (resGrowGroup p l q).2) := by
  have RA : CRead (w.alloc (Obj.cells #[.int .i64 p, .slice A l.length c] 31)) (w.alloc (Obj.cells #[.int .i64 p, .slice A l.length c] 31)).heap.size A (pcells l) := (hA.below (B' := w.heap.size) (by go_grown) (Nat.le_refl _)).more (by go_size)
  have RB : CRead (w.alloc (Obj.cells #[.int .i64 p, .slice A l.length c] 31)) (w.alloc (Obj.cells #[.int .i64 p, .slice A l.length c] 31)).heap.size B (icells q) := (hB.below (B' := w.heap.size) (by go_grown) (Nat.le_refl _)).more (by go_size)
  cases hg : (isP p l && isGroupI p l q) with
  | false =>
    have e : resGrowGroup p l q = ([], false) := by simp [resGrowGroup, hg]
    rw [e]
    have Hg := Lib.hid hg
    clear hg e
    go_enter Tryd.func11, Tryd.ntmps11
    go_wp2_with fail
    refine (grGroup_any _ _ _ _ _ _ _ _ hl RA hq RB hd).mono ?_
    rw [Hg.out]
    rintro e w2 ⟨rfl, hb2⟩
    simp only [World.size_alloc] at hb2
    go_wp2
    go_ret2
    exact ⟨none, 0, rfl, World.ownsRow_nil _ _ _ _, Below.trans (b := _) (by go_grown) (hb2.mono (by omega))⟩
  | true =>
    have hg2 := hg
    rw [Bool.and_eq_true] at hg2
    obtain ⟨hp, hgr⟩ := hg2
    have hn := isP_range hp
    obtain ⟨n, rfl⟩ : ∃ n : Nat, p = n := ⟨p.toNat, by omega⟩
    have hn12 : n ≤ 12 := by omega
    have hup := group_up hgr
    rw [Int.toNat_natCast] at hup
    have hself := adj_self hp
    have hups := growI_up hself hup
    have e : resGrowGroup n l q = (growI (adj l) q n, true) := by simp [resGrowGroup, hg]
    rw [e]
    have hshort := hup.short
    have Hp := Lib.hid hp
    have Hg := Lib.hid hg
    have Hups := Lib.hid hups
    have Hself := Lib.hid hself
    clear hp hg e hgr hups hup hself
    go_enter Tryd.func11, Tryd.ntmps11
    go_wp2_with fail
    refine (grGroup_any _ _ _ _ _ _ _ _ hl RA hq RB hd).mono ?_
    rw [Hg.out]
    rintro e w2 ⟨rfl, hb2⟩
    simp only [World.size_alloc] at hb2
    have a0 : w2.cell? ⟨w.heap.size, 0, none⟩ = some (.int .i64 n) := carry hb2 (by simp) (by omega)
    have a1 : w2.cell? ⟨w.heap.size, 1, none⟩ = some (.slice A l.length c) := carry hb2 (by simp) (by omega)
    have k2 : Below w.heap.size w w2 := Below.trans (b := _) (by go_grown) (hb2.mono (by omega))
    go_wp2_with fail
    refine (paTable_any _ _ _ _ _ Hp.out ((hA.below k2 (Nat.le_refl _)).more k2.size)).mono ?_
    rintro e w3 ⟨A3, c3, G, rfl, tab, hb3⟩
    simp only [Int.toNat_natCast] at tab ⊢
    have k3 := k2.trans (hb3.mono k2.size)
    go_wp2_with fail
    refine (l1Own_row q B d _ hq ((hB.below k3 (Nat.le_refl _)).more k3.size) hz).mono ?_
    rintro e w4 ⟨A4, c4, rfl, own4, hb4⟩
    have k4 := k3.trans (hb4.mono k3.size)
    have tab4 := tab.below hb4 (Nat.le_refl _)
    have own4' := own_lower own4 k3.size
    have K4 := Lib.hid k4
    have Tab := Lib.hid tab4
    have Own4 := Lib.hid own4'
    clear a0 a1 hb2 hb3 hb4 tab own4 own4' tab4 k2 k3 k4
    go_wp2
    go_loopw [7, 19] (fun v i wr => ∃ (a : Nat) (A' : Option Addr) (c' m : Nat), a ≤ n ∧ i = .int .i64 a ∧ m = (growI (adj l) q a).length ∧ v = .slice A' m c' ∧ wr.ownsRow w.heap.size 3 1 (.slice A' m c') m (icells (growI (adj l) q a)) ∧ Below w4.heap.size w4 wr) (fun _ i _ => n - (intOf i).toNat)
    case atStart => exact ⟨0, A4, c4, q.length, Nat.zero_le _, by go_num, by rw [growI_zero], rfl, by rw [growI_zero]; exact Own4.out, Below.refl _ _⟩
    case round =>
      clear Own4
      obtain ⟨a, A', c', m, han, rfl, hm, rfl, own, hb⟩ := hrel
      have s0 := hb.size
      have hsh := (Hups.out a (by omega)).short
      by_cases hlt : a < n
      · have hai : (a : Int) < n := by omega
        have hnx := growI_succ (adj l) q a
        obtain ⟨o, ho⟩ : ∃ o, growI (adj l) q a = o := ⟨_, rfl⟩
        have hupo := Hups.out a (by omega)
        rw [ho] at hm own hsh hupo hnx
        subst hm
        have Hnx := Lib.hid hnx
        have Own := Lib.hid own
        have Hb := Lib.hid hb
        have Hupo := Lib.hid hupo
        clear hnx own hb hupo ho
        go_wp2_with fail
        refine (l1Has_any o (a : Int) A' c' _ (by omega) (CRead.of_own Own.out)).mono ?_
        rintro e w5 ⟨rfl, rfl⟩
        have hj := fun (hB : CRead wr wr.heap.size A' (icells o)) => grJoins_any n a (adj l) A3 c3 G _ o A' c' wr hn12 hlt (Tab.out.below Hb.out (Nat.le_refl _)) Hupo.out.lt (by omega) hB
        have Hj := Lib.hid hj
        clear hj
        cases hh : hasI o (a : Int) with
        | true =>
          have hkn : knowsL (adj l) o a = false := by
            cases e : knowsL (adj l) o a with
            | false => rfl
            | true => exact absurd (hasI_mem.1 hh) (knowsL_self Hself.out e)
          have Hst := Lib.hid (show growI (adj l) q (a + 1) = o by rw [Hnx.out]; unfold growS; rw [hkn]; rfl)
          clear hh hkn
          go_wp2
          go_roundw
          case rel => exact ⟨a + 1, A', c', o.length, by omega, by go_num, by rw [Hst.out], rfl, by rw [Hst.out]; exact Own.out, Hb.out⟩
          case measure => simp [intOf]; omega
        | false =>
          have hnm : (a : Int) ∉ o := fun hm => by rw [hasI_mem.2 hm] at hh; cases hh
          have Hnm := Lib.hid hnm
          clear hh hnm
          go_wp2_with fail
          refine (Hj.out (CRead.of_own Own.out)).mono ?_
          cases hkn : (o.all fun y => adj l a y.toNat) with
          | false =>
            have Hst := Lib.hid (show growI (adj l) q (a + 1) = o by rw [Hnx.out]; unfold growS knowsL; rw [hkn]; rfl)
            clear hkn
            rintro e w6 ⟨rfl, rfl⟩
            go_wp2
            go_roundw
            case rel => exact ⟨a + 1, A', c', o.length, by omega, by go_num, by rw [Hst.out], rfl, by rw [Hst.out]; exact Own.out, Hb.out⟩
            case measure => simp [intOf]; omega
          | true =>
            have Hst := Lib.hid (show growI (adj l) q (a + 1) = putI o (a : Int) by rw [Hnx.out]; unfold growS knowsL; rw [hkn]; rfl)
            have Hln := Lib.hid (putI_length o (a : Int))
            clear hkn
            rintro e w6 ⟨rfl, rfl⟩
            rcases own_none Own.out with ⟨rfl, hm0, rfl⟩ | ⟨g, rfl⟩
            · have ho0 : o = [] := List.length_eq_zero_iff.1 hm0
              have call := l1Put_nil (a : Int) wr
              rw [show ([(a : Int)] : List Int) = putI o (a : Int) by rw [ho0]; rfl] at call
              have Call := Lib.hid call
              have Hm0 := Lib.hid hm0
              clear call ho0
              rw [hm0]
              clear hm0
              go_wp2_with fail
              refine Call.out.mono ?_
              rintro e w7 ⟨A7, c7, rfl, own7, hb7⟩
              have own7' := own_lower own7 (show w.heap.size ≤ wr.heap.size by have := K4.out.size; omega)
              have b7 := Hb.out.trans (hb7.mono s0)
              clear own7
              go_wp2
              go_roundw
              case rel => exact ⟨a + 1, A7, c7, 1, by omega, by go_num, by rw [Hst.out, Hln.out, Hm0.out], rfl, by rw [Hst.out]; exact own7', b7⟩
              case measure => simp [intOf]; omega
            · have call := l1Put_any o (a : Int) g c' wr (by omega) (own_cap Own.out) Hnm.out (CRead.of_own Own.out) (own_lt Own.out).2
              have Call := Lib.hid call
              clear call
              go_wp2_with fail
              refine Call.out.mono ?_
              rintro e w7 ⟨A7, c7, rfl, own7, hb7⟩
              have own7' := own_lower own7 (show w.heap.size ≤ wr.heap.size by have := K4.out.size; omega)
              have b7 := Hb.out.trans (hb7.mono s0)
              clear own7
              go_wp2
              go_roundw
              case rel => exact ⟨a + 1, A7, c7, o.length + 1, by omega, by go_num, by rw [Hst.out, Hln.out], rfl, by rw [Hst.out]; exact own7', b7⟩
              case measure => simp [intOf]; omega
      · have hae : a = n := by omega
        subst hae
        have hge : ¬ ((a : Int) < a) := by omega
        have kk := K4.out.trans (hb.mono K4.out.size)
        have Own := Lib.hid own
        clear own hb
        subst hm
        go_wp2
        go_ret2
        exact ⟨A', c', rfl, Own.out, kk⟩
end Go.Proofs.YtnpljmipicjacaaDoor
/-
  'impl.isChoice' and the search in a list of people, by their contracts.
-/
namespace Go.Proofs.YtnpljmipicjacaaDoor
open Go.RowKit

set_option maxHeartbeats 1000000 in
set_option maxRecDepth 100000 in
theorem isChoice_any (p : Int) (q : List Int) (A B : Option Addr) (n c d : Nat) (w : World) (hq : q.length ≤ 1048576) (hB : CRead w w.heap.size B (icells q)) :
    Calls Tryd.prog 86 #[.agg #[.int .i64 p, .slice A n c], .slice B q.length d] w fun e w' => e = .returned (.bool (isChoiceI p q)) ∧ Below w.heap.size w w' := by
  go_enter Tryd.func86, Tryd.ntmps86
  go_wp2
  go_loopw [9] (fun i wr => ∃ k : Nat, k ≤ q.length ∧ i = .int .i64 k ∧ (∀ j, j < k → choiceAt p q j = true) ∧ Below (w.heap.size + 1) (w.alloc (Obj.cells #[.int .i64 p, .slice A n c] 31)) wr) (fun i _ => q.length - (intOf i).toNat)
  case atStart => exact ⟨0, Nat.zero_le _, rfl, fun j hj => by omega, Below.refl _ _⟩
  case round =>
    obtain ⟨k, hk, rfl, hg, hb⟩ := hrel
    have Hg := Lib.hid hg
    have hs := hb.size
    simp only [World.size_alloc] at hs
    have hbw : Below w.heap.size w wr := Below.trans (b := _) (by go_grown) (hb.mono (by omega))
    have u0 : wr.cell? ⟨w.heap.size, 0, none⟩ = some (.int .i64 p) := carry hb (by simp) (by omega)
    have u1 : wr.cell? ⟨w.heap.size, 1, none⟩ = some (.slice A n c) := carry hb (by simp) (by omega)
    clear hg
    by_cases hlt : k < q.length
    · obtain ⟨x, hx⟩ := getSome q k hlt
      obtain ⟨b, off, rfl, hbb, c0⟩ := (hB.below hbw (Nat.le_refl _)).int hx
      have hki : (k : Int) < (q.length : Int) := by omega
      have Hx := Lib.hid hx
      clear hx
      by_cases hman : 0 ≤ x ∧ x < p
      · have Hm := Lib.hid (isMan_yes hman)
        have Hman := Lib.hid hman
        clear hman
        by_cases hk0 : k = 0
        · have Hk0 := Lib.hid hk0
          have hk1 : ¬ ((0 : Int) < (k : Int)) := by omega
          have hk2 : ¬ (0 < k) := by omega
          clear hk0
          go_wp2_with fail
          refine (isPerson_any p x A n c _).mono ?_
          rw [Hm.out]
          rintro e w2 ⟨rfl, hb2⟩
          go_wp2
          go_roundw
          case rel =>
            refine ⟨k + 1, by omega, by go_num, fun j hj => ?_, hb.trans (hb2.mono (by omega))⟩
            rcases Nat.lt_succ_iff_lt_or_eq.1 hj with h | rfl
            · exact Hg.out j h
            · exact choiceAt_zero Hk0.out Hx.out Hman.out
          case measure => simp [intOf]; omega
        · obtain ⟨y, hy⟩ := getSome q (k - 1) (by omega)
          obtain ⟨b', off', e', _, c1⟩ := (hB.below hbw (Nat.le_refl _)).int hy
          simp only [Option.some.injEq, Addr.mk.injEq, and_true] at e'
          obtain ⟨rfl, rfl⟩ := e'
          have Hy := Lib.hid hy
          have hk1 : (0 : Int) < (k : Int) := by omega
          have hk2 : 0 < k := by omega
          have hk3 : (0 : Int) ≤ (k : Int) - 1 := by omega
          have hk4 : (k : Int) - 1 < (q.length : Int) := by omega
          clear hy hk0
          by_cases hyx : y < x
          · have hyx2 : ¬ (x ≤ y) := by omega
            go_wp2_with fail
            refine (isPerson_any p x _ n c _).mono ?_
            rw [Hm.out]
            rintro e w2 ⟨rfl, hb2⟩
            have c2 := carry hb2 c1 (by omega)
            go_wp2
            go_roundw
            case rel =>
              refine ⟨k + 1, by omega, by go_num, fun j hj => ?_, hb.trans (hb2.mono (by omega))⟩
              rcases Nat.lt_succ_iff_lt_or_eq.1 hj with h | rfl
              · exact Hg.out j h
              · exact choiceAt_later hk2 Hy.out Hx.out Hman.out hyx
            case measure => simp [intOf]; omega
          · have hyx2 : x ≤ y := by omega
            have He := Lib.hid (isChoiceI_no hlt (choiceAt_stale (p := p) hk2 Hy.out Hx.out hyx))
            go_wp2_with fail
            refine (isPerson_any p x _ n c _).mono ?_
            rw [Hm.out]
            rintro e w2 ⟨rfl, hb2⟩
            have c2 := carry hb2 c1 (by omega)
            go_wp2
            go_ret
            exact ⟨by rw [He.out]; rfl, hbw.trans (hb2.mono (by omega))⟩
      · have Hm := Lib.hid (isMan_no hman)
        have He := Lib.hid (isChoiceI_no hlt (choiceAt_bad Hx.out hman))
        clear hman
        go_wp2_with fail
        refine (isPerson_any p x A n c _).mono ?_
        rw [Hm.out]
        rintro e w2 ⟨rfl, hb2⟩
        go_wp2
        go_ret
        exact ⟨by rw [He.out]; rfl, hbw.trans (hb2.mono (by omega))⟩
    · have hkl : k = q.length := by omega
      have He := Lib.hid (isChoiceI_of fun j hj => Hg.out j (by omega))
      have hge : ¬ ((k : Int) < (q.length : Int)) := by omega
      go_wp2
      go_ret
      exact ⟨by rw [He.out]; rfl, hbw⟩
end Go.Proofs.YtnpljmipicjacaaDoor
/-
  A PARTY IN A BOX OF THE CALL's OWN, whose pairs are appended one by one.
-/
namespace Go.Proofs.YtnpljmipicjacaaDoor
open Go.RowKit

/-- The worlds above w0: a box at g holds a party of n people whose pairs so far, L, lie in a row of the call's own. -/
structure BoxRel (B : Nat) (w0 wr : World) (n : Int) (g : Nat) (v : Value) (L : PL) : Prop where
  below : Below B w0 wr
  gB : B ≤ g
  box : wr.heap[g]? = some (.cells #[.int .i64 n, v] 31 (0, 0))
  own : wr.ownsRow B 85 2 v L.length (pcells L)
section
variable {B g : Nat} {w0 wr W1 w1 : World} {n : Int} {v v' : Value} {L : PL}
theorem BoxRel.lt (h : BoxRel B w0 wr n g v L) : g < wr.heap.size := lt_of_heap h.box
theorem ne_of_box (h : wr.heap[g]? = some (.cells #[.int .i64 n, v] 31 (0, 0))) {k : Nat} {xs : List Value} (ho : wr.ownsRow B 85 2 v' k xs) : v'.ownBlock ≠ some g := by
  rcases ho.2 with ⟨rfl, _⟩ | ⟨g', cap, cur, rfl, _, hh, _⟩
  · simp [Value.ownBlock]
  · intro e
    have hgb : g' = g := by simpa [Value.ownBlock] using e
    subst hgb
    rw [hh] at h
    injection h with h
    injection h with _ ht
    exact absurd ht (by decide)
theorem BoxRel.ne (h : BoxRel B w0 wr n g v L) : v.ownBlock ≠ some g := ne_of_box h.box h.own
theorem BoxRel.cells (h : BoxRel B w0 wr n g v L) : wr.cell? ⟨g, 0, none⟩ = some (.int .i64 n) ∧ wr.cell? ⟨g, 1, none⟩ = some v ∧ ∀ j, wr.frozen? ⟨g, j, none⟩ = false :=
  ⟨by rw [cell_of_row _ _ _ _ _ _ h.box]; rfl, by rw [cell_of_row _ _ _ _ _ _ h.box]; rfl, fun j => frozen_of_row _ _ j _ _ h.box⟩
/-- a world that keeps all that was -/
theorem BoxRel.kept (h : BoxRel B w0 wr n g v L) (hW : Below wr.heap.size wr W1) (hB : B ≤ wr.heap.size) : BoxRel B w0 W1 n g v L :=
  ⟨h.below.trans (hW.mono hB), h.gB, (hW.block _ h.lt).trans h.box, own_below h.own hW (Nat.le_refl _)⟩
theorem BoxRel.le (h : BoxRel B w0 wr n g v L) : B ≤ wr.heap.size := Nat.le_trans h.gB (Nat.le_of_lt h.lt)
/-- what stands behind an append -/
theorem BoxRel.grown (h : BoxRel B w0 wr n g v L) (hW : Below wr.heap.size wr W1) (hg : W1.grownBy w1 v.ownBlock) :
    w1.heap[g]? = some (.cells #[.int .i64 n, v] 31 (0, 0)) ∧ w1.cell? ⟨g, 0, none⟩ = some (.int .i64 n) ∧ w1.cell? ⟨g, 1, none⟩ = some v ∧ (∀ j, w1.frozen? ⟨g, j, none⟩ = false) ∧ Below B w0 w1 ∧ wr.heap.size ≤ w1.heap.size := by
  have hlt := h.lt
  have e : w1.heap[g]? = some (.cells #[.int .i64 n, v] 31 (0, 0)) := by
    rw [hg.block g (Nat.lt_of_lt_of_le hlt hW.size) (fun e => h.ne e.symm), hW.block g hlt]
    exact h.box
  refine ⟨e, by rw [cell_of_row _ _ _ _ _ _ e]; rfl, by rw [cell_of_row _ _ _ _ _ _ e]; rfl, fun j => frozen_of_row _ _ j _ _ e, ?_, Nat.le_trans hW.size hg.size⟩
  exact (h.below.trans (hW.mono h.le)).grown hg (Nat.le_trans h.le hW.size) (fun k hk => (h.own.lt k hk).1)
/-- one pair more -/
theorem BoxRel.push {x y : Int} (h : BoxRel B w0 wr n g v L) (hW : Below wr.heap.size wr W1) (hg : W1.grownBy w1 v.ownBlock) (hown : w1.ownsRow B 85 2 v' (L.length + 1) (pcells L ++ [.int .i64 x, .int .i64 y])) :
    BoxRel B w0 (w1.setCell ⟨g, 1, none⟩ v') n g v' (L ++ [(x, y)]) := by
  obtain ⟨e, _, _, _, hb, _⟩ := h.grown hW hg
  have hne := ne_of_box e hown
  refine ⟨hb.setCell (p := ⟨g, 1, none⟩) h.gB _, h.gB, heap_setCell_same w1 g 1 _ _ v' e, ?_⟩
  have el : (L ++ [(x, y)]).length = L.length + 1 := by simp
  rw [el, pcells_append]
  exact hown.kept (row := some g) ⟨rfl, rfl, rfl, by simp, fun k _ hk => heap_setCell_other _ _ _ _ (fun e => hk (by rw [e]))⟩ (.inr hne)
end
end Go.Proofs.YtnpljmipicjacaaDoor
/-
  DERIVED: THE SHELF's CONTRACTS AT THIS DUMP, IN PLAIN WORDS (tools/lay-plain.mjs out of 'YtnpljmipicjacaaDoorShelfHome.lean', which tools/lay-shelf.mjs wrote): THE SAME DECLARATIONS UNDER THE SAME NAMES: 'import', 'namespace', 'open', 'def', 'theorem' AND NOTHING ELSE: no command of the shelf's: FOR A HAND-IN. Each laying: the table of numbers ('.._ren') and one theorem, a field a fact of the dump's own or the kernel's comparison; each contract: ONE APPLICATION.
-/
namespace Go.Proofs
open Go.Shelf
def Tryd.cloneI_ren : Go.Shelf.Ren := ⟨fun | 41 => 59 | n => n, fun | 22 => 25 | 23 => 3 | 4 => 4 | n => n, fun | n => n⟩
theorem Tryd.cloneI : Go.Proofs.SlLaysE0.n41 Tryd.prog Tryd.cloneI_ren := {
  mixed := by kernel_rfl
  f41 := ⟨Tryd.f59.name, by decide, Tryd.func59.trans (congrArg some (by kernel_rfl))⟩
  t4 := Tryd.underlying4
  a4 := Tryd.isAgg4
  z4 := Tryd.sizeOf4
  v4 := Tryd.zeroValue4
  t22 := Tryd.underlying25
  a22 := Tryd.isAgg25
  z22 := Tryd.sizeOf25
  v22 := Tryd.zeroValue25 }
def Tryd.bsearchI_ren : Go.Shelf.Ren := ⟨fun | 49 => 87 | 59 => 94 | 60 => 95 | 68 => 96 | n => n, fun | 22 => 25 | 23 => 3 | 3 => 3 | 4 => 4 | 51 => 108 | 0 => 0 | n => n, fun | n => n⟩
theorem Tryd.bsearchI : Go.Proofs.SlLaysN.n49 Tryd.prog Tryd.bsearchI_ren := {
  mixed := by kernel_rfl
  f49 := ⟨Tryd.f87.name, by decide, Tryd.func87.trans (congrArg some (by kernel_rfl))⟩
  f59 := ⟨Tryd.f94.name, by decide, Tryd.func94.trans (congrArg some (by kernel_rfl))⟩
  f60 := ⟨Tryd.f95.name, by decide, Tryd.func95.trans (congrArg some (by kernel_rfl))⟩
  f68 := ⟨Tryd.f96.name, by decide, Tryd.func96.trans (congrArg some (by kernel_rfl))⟩
  t0 := Tryd.underlying0
  a0 := Tryd.isAgg0
  z0 := Tryd.sizeOf0
  v0 := Tryd.zeroValue0
  t3 := Tryd.underlying3
  a3 := Tryd.isAgg3
  z3 := Tryd.sizeOf3
  v3 := Tryd.zeroValue3
  t4 := Tryd.underlying4
  a4 := Tryd.isAgg4
  z4 := Tryd.sizeOf4
  v4 := Tryd.zeroValue4
  t22 := Tryd.underlying25
  a22 := Tryd.isAgg25
  z22 := Tryd.sizeOf25
  v22 := Tryd.zeroValue25
  t23 := Tryd.underlying3
  a23 := Tryd.isAgg3
  z23 := Tryd.sizeOf3
  v23 := Tryd.zeroValue3
  t51 := Tryd.underlying108
  a51 := Tryd.isAgg108
  z51 := Tryd.sizeOf108
  v51 := Tryd.zeroValue108 }
end Go.Proofs
/-
  'impl.ChooseParty', by its contract.
-/
namespace Go.Proofs.YtnpljmipicjacaaDoor
open Go.RowKit

set_option maxHeartbeats 1000000 in
set_option maxRecDepth 100000 in
theorem bsearch_none (a : Option Addr) (c : Nat) (x : Int) (w : World) :
    Calls Tryd.prog 87 #[.slice a 0 c, .int .i64 x] w fun e w' => e = .returned (.tuple #[.int .i64 0, .bool false]) ∧ w' = w := by
  go_enter Tryd.func87, Tryd.ntmps87
  go_wp2
  go_loopg [7, 8] 0 (fun _ s7 s8 wr => s7 = .int .i64 0 ∧ s8 = .int .i64 0 ∧ wr = w)
  case atStart => exact ⟨rfl, rfl, rfl⟩
  case round =>
    obtain ⟨rfl, rfl, rfl⟩ := hrel
    go_wp2
    go_ret2
    exact ⟨rfl, rfl⟩
set_option maxRecDepth 100000 in
theorem bsearch_any (q : List Int) (x : Int) (A : Option Addr) (c : Nat) (w : World) (hl : q.length ≤ 1048576) (hs : q.Pairwise (· < ·)) (hA : CRead w w.heap.size A (icells q)) :
    Calls Tryd.prog 87 #[.slice A q.length c, .int .i64 x] w fun e w' => e = .returned (.tuple #[.int .i64 (ltI q x), .bool (hasI q x)]) ∧ Below w.heap.size w w' := by
  by_cases h0 : q.length = 0
  · have hq : q = [] := List.eq_nil_of_length_eq_zero h0
    subst hq
    exact (bsearch_none A c x w).mono fun _ _ ⟨he, hw⟩ => ⟨he, by subst hw; exact Below.refl _ _⟩
  · obtain ⟨b, off, rfl, hb, hc⟩ := hA.ints (by omega)
    have h := AnyG.slices_BinarySearch_int Tryd.bsearchI b off q.length c q x w (Nat.le_refl _) (by omega) hc (by rw [List.take_length]; exact hs.imp (fun h => Int.le_of_lt h))
    rw [List.take_length] at h
    change Calls Tryd.prog 87 _ _ _ at h
    exact h.mono fun _ _ ⟨he, n, hw⟩ => ⟨he, by subst hw; exact ⟨rfl, rfl, rfl, Nat.le_refl _, fun _ _ => rfl⟩⟩

def resChooseParty (p : Int) (l : PL) (q : List Int) : Int × PL × Bool := if isP p l && isChoiceI p q then ((q.length : Int), chooseP l q, true) else (0, [], false)
theorem chooseP_len {p : Int} {l : PL} (h : isP p l = true) (q : List Int) : (chooseP l q).length ≤ 66 := by
  have h1 := isP_range h
  have h2 := isP_length h
  have h3 := people_sq h1.1 h1.2
  have h4 := chooseP_le l q
  omega
theorem resChooseParty_len (p : Int) (l : PL) (q : List Int) : (resChooseParty p l q).2.1.length ≤ 1048576 := by
  unfold resChooseParty
  split
  · rename_i h
    simp only [Bool.and_eq_true] at h
    exact Nat.le_trans (chooseP_len h.1 q) (by omega)
  · simp

set_option maxHeartbeats 4000000 in
set_option maxRecDepth 100000 in
theorem implChooseParty_any (p : Int) (l : PL) (A : Option Addr) (c : Nat) (q : List Int) (B : Option Addr) (d : Nat) (w : World) (hl : l.length ≤ 1048576) (hA : CRead w w.heap.size A (pcells l)) (hq : q.length ≤ 1048576) (hB : CRead w w.heap.size B (icells q)) :
    Calls Tryd.prog 68 #[.agg #[.int .i64 p, .slice A l.length c], .slice B q.length d] w (GotPartyOk w (resChooseParty p l q).1 (resChooseParty p l q).2.1 (resChooseParty p l q).2.2) := by
  generalize hW : (w.alloc (Obj.cells #[.int .i64 p, .slice A l.length c] 31)).alloc (Obj.cells #[.int .i64 0, .slice none 0 0] 31) = W
  have a0 : W.cell? ⟨w.heap.size, 0, none⟩ = some (.int .i64 p) := by rw [← hW]; simp
  have a1 : W.cell? ⟨w.heap.size, 1, none⟩ = some (.slice A l.length c) := by rw [← hW]; simp
  have X0 : W.cell? ⟨w.heap.size + 1, 0, none⟩ = some (.int .i64 0) := by rw [← hW]; simp
  have X1 : W.cell? ⟨w.heap.size + 1, 1, none⟩ = some (.slice none 0 0) := by rw [← hW]; simp
  have Z0 : W.frozen? ⟨w.heap.size + 1, 0, none⟩ = false := by rw [← hW]; simp
  have Z1 : W.frozen? ⟨w.heap.size + 1, 1, none⟩ = false := by rw [← hW]; simp
  have kW : Below w.heap.size w W := by rw [← hW]; go_grown
  have sW1 : w.heap.size < W.heap.size := by rw [← hW]; simp only [World.size_alloc]; omega
  have sW2 : w.heap.size + 1 < W.heap.size := by rw [← hW]; simp
  have RA := (hA.below kW (Nat.le_refl _)).more kW.size
  have RB := (hB.below kW (Nat.le_refl _)).more kW.size
  cases hp : isP p l with
  | false =>
    have e : resChooseParty p l q = (0, [], false) := by simp [resChooseParty, hp]
    rw [e]
    have Hp := Lib.hid hp
    have HW := Lib.hid hW
    clear hp e hW
    go_enter Tryd.func68, Tryd.ntmps68
    go_wp2_with fail
    rw [HW.out]
    refine (isParty_any _ _ _ _ _ hl RA).mono ?_
    rw [Hp.out]
    rintro e w2 ⟨rfl, hb2⟩
    have y0 := carry hb2 X0 sW2
    have y1 := carry hb2 X1 sW2
    have y2 := (hb2.frozen (p := ⟨w.heap.size + 1, 0, none⟩) sW2).trans Z0
    have y3 := (hb2.frozen (p := ⟨w.heap.size + 1, 1, none⟩) sW2).trans Z1
    have k2 := kW.trans (hb2.mono kW.size)
    clear a0 a1 X0 X1 Z0 Z1
    go_wp2
    refine bodyPost_ret (v := .tuple #[.agg #[.int .i64 0, .slice none 0 0], .bool false]) (by simp [results, Tryd.results68, go_sem, y0, y1]) rfl ?_
    exact ⟨none, 0, rfl, World.ownsRow_nil _ _ _ _, (k2.setCell (p := ⟨w.heap.size + 1, 0, none⟩) (by simp) _).setCell (p := ⟨w.heap.size + 1, 1, none⟩) (by simp) _⟩
  | true =>
    have hn := isP_range hp
    have hl66 : l.length ≤ 66 := by have h1 := isP_length hp; have h2 := people_sq hn.1 hn.2; omega
    cases hc : isChoiceI p q with
    | false =>
      have e : resChooseParty p l q = (0, [], false) := by simp [resChooseParty, hc]
      rw [e]
      have Hp := Lib.hid hp
      have Hc := Lib.hid hc
      have HW := Lib.hid hW
      clear hp e hW hc
      go_enter Tryd.func68, Tryd.ntmps68
      go_wp2_with fail
      rw [HW.out]
      refine (isParty_any _ _ _ _ _ hl RA).mono ?_
      rw [Hp.out]
      rintro e w2 ⟨rfl, hb2⟩
      have c0 := carry hb2 a0 sW1
      have c1 := carry hb2 a1 sW1
      have s2 := hb2.size
      go_wp2_with fail
      refine (isChoice_any p q A B l.length c d _ hq ((RB.below hb2 (Nat.le_refl _)).more s2)).mono ?_
      rw [Hc.out]
      rintro e w3 ⟨rfl, hb3⟩
      have g3 := hb2.trans (hb3.mono s2)
      have y0 := carry g3 X0 sW2
      have y1 := carry g3 X1 sW2
      have y2 := (g3.frozen (p := ⟨w.heap.size + 1, 0, none⟩) sW2).trans Z0
      have y3 := (g3.frozen (p := ⟨w.heap.size + 1, 1, none⟩) sW2).trans Z1
      have k2 := kW.trans (g3.mono kW.size)
      clear a0 a1 X0 X1 Z0 Z1 c0 c1
      go_wp2
      refine bodyPost_ret (v := .tuple #[.agg #[.int .i64 0, .slice none 0 0], .bool false]) (by simp [results, Tryd.results68, go_sem, y0, y1]) rfl ?_
      exact ⟨none, 0, rfl, World.ownsRow_nil _ _ _ _, (k2.setCell (p := ⟨w.heap.size + 1, 0, none⟩) (by simp) _).setCell (p := ⟨w.heap.size + 1, 1, none⟩) (by simp) _⟩
    | true =>
      obtain ⟨i0, hi, hz0, hz1, hz2⟩ := info_parts Tryd.infoPair
      have e : resChooseParty p l q = ((q.length : Int), chooseP l q, true) := by simp [resChooseParty, hp, hc]
      rw [e]
      have Hp := Lib.hid hp
      have Hc := Lib.hid hc
      have HW := Lib.hid hW
      have Hsort := Lib.hid (isChoiceI_sorted hc)
      have hq12 : q.length ≤ 12 := by rcases isChoiceI_long hc with h | h; (· omega); (· simp [h])
      clear hp e hW hc
      go_enter Tryd.func68, Tryd.ntmps68
      go_wp2_with fail
      rw [HW.out]
      refine (isParty_any _ _ _ _ _ hl RA).mono ?_
      rw [Hp.out]
      rintro e w2 ⟨rfl, hb2⟩
      have c0 := carry hb2 a0 sW1
      have c1 := carry hb2 a1 sW1
      have s2 := hb2.size
      go_wp2_with fail
      refine (isChoice_any p q A B l.length c d _ hq ((RB.below hb2 (Nat.le_refl _)).more s2)).mono ?_
      rw [Hc.out]
      rintro e w3 ⟨rfl, hb3⟩
      have g3 := hb2.trans (hb3.mono s2)
      have s3 := g3.size
      have k3 := kW.trans (g3.mono kW.size)
      have c1 := carry g3 a1 sW1
      have y0 := carry g3 X0 sW2
      have y1 := carry g3 X1 sW2
      have y2 := (g3.frozen (p := ⟨w.heap.size + 1, 0, none⟩) sW2).trans Z0
      have y3 := (g3.frozen (p := ⟨w.heap.size + 1, 1, none⟩) sW2).trans Z1
      have rel0 : BoxRel w3.heap.size w3 (w3.alloc (Obj.cells #[.int .i64 (q.length : Int), .slice none 0 0] 31)) (q.length : Int) w3.heap.size (.slice none 0 0) (chooseP (l.take 0) q) :=
        ⟨(Below.refl _ _).alloc (Nat.le_refl _) _, Nat.le_refl _, heap_alloc_new w3 _, World.ownsRow_nil _ _ _ _⟩
      have c1' : (w3.alloc (Obj.cells #[.int .i64 (q.length : Int), .slice none 0 0] 31)).cell? ⟨w.heap.size, 1, none⟩ = some (.slice A l.length c) := (World.cell?_alloc_lt _ _ _ (show w.heap.size < w3.heap.size by omega)).trans c1
      have hq64 : (q.length : Int) ≤ 12 := by omega
      clear a0 X0 X1 Z0 Z1 c0 hb2 hb3 s2 HW
      go_wp2
      clear c1'
      go_loopw [29] (fun i wr => ∃ (k : Nat) (v : Value), k ≤ l.length ∧ i = .int .i64 k ∧ BoxRel w3.heap.size w3 wr (q.length : Int) w3.heap.size v (chooseP (l.take k) q)) (fun i _ => l.length - (intOf i).toNat)
      case atStart => exact ⟨0, _, Nat.zero_le _, rfl, rel0⟩
      case round =>
        clear rel0
        obtain ⟨k, v, hk, rfl, rel⟩ := hrel
        have kX : Below w.heap.size w wr := k3.trans (rel.below.mono (by omega))
        have gX : Below W.heap.size W wr := g3.trans (rel.below.mono s3)
        have hlen : (chooseP (l.take k) q).length ≤ 66 := Nat.le_trans (chooseP_le _ _) (by rw [List.length_take]; omega)
        have hlt2 := rel.lt
        by_cases hlt : k < l.length
        · obtain ⟨⟨x, y⟩, hx⟩ := getSome l k hlt
          obtain ⟨bb, off, rfl, hbb, u0, u1⟩ := (hA.below kX (Nat.le_refl _)).pair hx
          have hki : (k : Int) < (l.length : Int) := by omega
          have Hx := Lib.hid hx
          have Hsn := Lib.hid (chooseP_snoc (l.take k) q x y)
          clear hx
          have hb0 : bb < wr.heap.size := by have := kX.size; omega
          cases h1 : hasI q x with
          | false =>
            cases h2 : hasI q y with
            | false =>
              have H1 := Lib.hid h1
              have H2 := Lib.hid h2
              clear h1 h2
              go_wp2_with fail
              refine (bsearch_any q x B d _ hq Hsort.out ((RB.below (gX.alloc gX.size _) (Nat.le_refl _)).more (gX.alloc gX.size _).size)).mono ?_
              rw [H1.out]
              rintro e w4 ⟨rfl, hb4⟩
              simp only [World.size_alloc] at hb4
              have g4 : Below wr.heap.size wr w4 := Below.trans (b := _) (by go_grown) (hb4.mono (by omega))
              have d0 : w4.cell? ⟨wr.heap.size, 0, none⟩ = some (.int .i64 x) := carry hb4 (by simp) (by omega)
              have d1 : w4.cell? ⟨wr.heap.size, 1, none⟩ = some (.int .i64 y) := carry hb4 (by simp) (by omega)
              go_wp2_with fail
              refine (bsearch_any q y B d _ hq Hsort.out ((RB.below (gX.trans (g4.mono gX.size)) (Nat.le_refl _)).more (gX.trans (g4.mono gX.size)).size)).mono ?_
              rw [H2.out]
              rintro e w5 ⟨rfl, hb5⟩
              have g5 := g4.trans (hb5.mono g4.size)
              have rel5 := rel.kept g5 rel.le
              have s5 := g5.size
              clear d0 d1 u0 u1
              have hno : ¬ (q.contains x = true ∧ q.contains y = true) := fun h => by have := h.1; rw [show q.contains x = hasI q x from rfl, H1.out] at this; cases this
              have Hno := Lib.hid hno
              clear hno
              go_wp2
              go_roundw
              case rel => exact ⟨k + 1, v, by omega, by go_num, by rw [List.take_add_one, Hx.out, Option.toList_some, Hsn.out, if_neg Hno.out, List.append_nil]; exact rel5⟩
              case measure => simp [intOf]; omega
            | true =>
              have H1 := Lib.hid h1
              have H2 := Lib.hid h2
              clear h1 h2
              go_wp2_with fail
              refine (bsearch_any q x B d _ hq Hsort.out ((RB.below (gX.alloc gX.size _) (Nat.le_refl _)).more (gX.alloc gX.size _).size)).mono ?_
              rw [H1.out]
              rintro e w4 ⟨rfl, hb4⟩
              simp only [World.size_alloc] at hb4
              have g4 : Below wr.heap.size wr w4 := Below.trans (b := _) (by go_grown) (hb4.mono (by omega))
              have d0 : w4.cell? ⟨wr.heap.size, 0, none⟩ = some (.int .i64 x) := carry hb4 (by simp) (by omega)
              have d1 : w4.cell? ⟨wr.heap.size, 1, none⟩ = some (.int .i64 y) := carry hb4 (by simp) (by omega)
              go_wp2_with fail
              refine (bsearch_any q y B d _ hq Hsort.out ((RB.below (gX.trans (g4.mono gX.size)) (Nat.le_refl _)).more (gX.trans (g4.mono gX.size)).size)).mono ?_
              rw [H2.out]
              rintro e w5 ⟨rfl, hb5⟩
              have g5 := g4.trans (hb5.mono g4.size)
              have rel5 := rel.kept g5 rel.le
              have s5 := g5.size
              clear d0 d1 u0 u1
              have hno : ¬ (q.contains x = true ∧ q.contains y = true) := fun h => by have := h.1; rw [show q.contains x = hasI q x from rfl, H1.out] at this; cases this
              have Hno := Lib.hid hno
              clear hno
              go_wp2
              go_roundw
              case rel => exact ⟨k + 1, v, by omega, by go_num, by rw [List.take_add_one, Hx.out, Option.toList_some, Hsn.out, if_neg Hno.out, List.append_nil]; exact rel5⟩
              case measure => simp [intOf]; omega
          | true =>
            cases h2 : hasI q y with
            | false =>
              have H1 := Lib.hid h1
              have H2 := Lib.hid h2
              clear h1 h2
              go_wp2_with fail
              refine (bsearch_any q x B d _ hq Hsort.out ((RB.below (gX.alloc gX.size _) (Nat.le_refl _)).more (gX.alloc gX.size _).size)).mono ?_
              rw [H1.out]
              rintro e w4 ⟨rfl, hb4⟩
              simp only [World.size_alloc] at hb4
              have g4 : Below wr.heap.size wr w4 := Below.trans (b := _) (by go_grown) (hb4.mono (by omega))
              have d0 : w4.cell? ⟨wr.heap.size, 0, none⟩ = some (.int .i64 x) := carry hb4 (by simp) (by omega)
              have d1 : w4.cell? ⟨wr.heap.size, 1, none⟩ = some (.int .i64 y) := carry hb4 (by simp) (by omega)
              go_wp2_with fail
              refine (bsearch_any q y B d _ hq Hsort.out ((RB.below (gX.trans (g4.mono gX.size)) (Nat.le_refl _)).more (gX.trans (g4.mono gX.size)).size)).mono ?_
              rw [H2.out]
              rintro e w5 ⟨rfl, hb5⟩
              have g5 := g4.trans (hb5.mono g4.size)
              have rel5 := rel.kept g5 rel.le
              have s5 := g5.size
              clear d0 d1 u0 u1
              have hno : ¬ (q.contains x = true ∧ q.contains y = true) := fun h => by have := h.2; rw [show q.contains y = hasI q y from rfl, H2.out] at this; cases this
              have Hno := Lib.hid hno
              clear hno
              go_wp2
              go_roundw
              case rel => exact ⟨k + 1, v, by omega, by go_num, by rw [List.take_add_one, Hx.out, Option.toList_some, Hsn.out, if_neg Hno.out, List.append_nil]; exact rel5⟩
              case measure => simp [intOf]; omega
            | true =>
              have H1 := Lib.hid h1
              have H2 := Lib.hid h2
              clear h1 h2
              go_wp2_with fail
              refine (bsearch_any q x B d _ hq Hsort.out ((RB.below (gX.alloc gX.size _) (Nat.le_refl _)).more (gX.alloc gX.size _).size)).mono ?_
              rw [H1.out]
              rintro e w4 ⟨rfl, hb4⟩
              simp only [World.size_alloc] at hb4
              have g4 : Below wr.heap.size wr w4 := Below.trans (b := _) (by go_grown) (hb4.mono (by omega))
              have d0 : w4.cell? ⟨wr.heap.size, 0, none⟩ = some (.int .i64 x) := carry hb4 (by simp) (by omega)
              have d1 : w4.cell? ⟨wr.heap.size, 1, none⟩ = some (.int .i64 y) := carry hb4 (by simp) (by omega)
              go_wp2_with fail
              refine (bsearch_any q y B d _ hq Hsort.out ((RB.below (gX.trans (g4.mono gX.size)) (Nat.le_refl _)).more (gX.trans (g4.mono gX.size)).size)).mono ?_
              rw [H2.out]
              rintro e w5 ⟨rfl, hb5⟩
              have g5 := g4.trans (hb5.mono g4.size)
              have rel5 := rel.kept g5 rel.le
              have s5 := g5.size
              clear d0 d1 u0 u1
              obtain ⟨q0, q1, q2⟩ := rel5.cells
              have q21 := q2 1
              have hlt5 := rel5.lt
              clear q2
              have hW2 : ∀ o : Obj, Below w5.heap.size w5 (w5.alloc o) := fun o => (Below.refl _ w5).alloc (Nat.le_refl _) o
              go_wp2_with (at_builtin; refine wpList_append_own _ rfl _ _ 29 rfl w3.heap.size 85 i0 _ 2 16 Tryd.underlying29 hi hz0 hz1 hz2 rfl (by decide) _ _ _ rfl (rel5.own.alloc _) ⟨w5.heap.size, 0, none⟩ 1 1 [.int .i64 (ltI q x), .int .i64 (ltI q y)] rfl rfl (two_cells (by simp) (by simp)) (two_one rfl rfl) (by unfold maxLen; omega) (by omega) (by simp; omega) ?_; intro v1 w6 hown6 hg6 _; obtain ⟨A2, d2, rfl, _⟩ := own_shape hown6; have hr1 := rel5.push (hW2 _) hg6 hown6; obtain ⟨_, z0, z1, z2, z3, z4⟩ := rel5.grown (hW2 _) hg6; have z21 := z2 1; clear z2)
              go_roundw
              case rel => exact ⟨k + 1, _, by omega, by go_num, by rw [List.take_add_one, Hx.out, Option.toList_some, Hsn.out, if_pos ⟨H1.out, H2.out⟩]; exact hr1⟩
              case measure => simp [intOf]; omega
        · have hkl : k = l.length := by omega
          subst hkl
          have hge : ¬ ((l.length : Int) < l.length) := by omega
          rw [List.take_length] at rel
          obtain ⟨q0, q1, q2⟩ := rel.cells
          obtain ⟨A', c', rfl, _⟩ := own_shape rel.own
          have r0 := carry rel.below y0 (by omega)
          have r1 := carry rel.below y1 (by omega)
          have r2 := (rel.below.frozen (p := ⟨w.heap.size + 1, 0, none⟩) (by simp; omega)).trans y2
          have r3 := (rel.below.frozen (p := ⟨w.heap.size + 1, 1, none⟩) (by simp; omega)).trans y3
          have Rel := Lib.hid rel
          clear rel q2 y0 y1 y2 y3
          go_wp2
          refine bodyPost_ret (v := .tuple #[.agg #[.int .i64 (q.length : Int), .slice A' (chooseP l q).length c'], .bool true]) (by simp [results, Tryd.results68, go_sem, r0, r1]) rfl ?_
          exact ⟨A', c', rfl, own_lower (ownsRow_setCell_below (ownsRow_setCell_below Rel.out.own (a := ⟨w.heap.size + 1, 0, none⟩) (by simp; omega) _) (a := ⟨w.heap.size + 1, 1, none⟩) (by simp; omega) _) (by omega),
            (kX.setCell (p := ⟨w.heap.size + 1, 0, none⟩) (by simp) _).setCell (p := ⟨w.heap.size + 1, 1, none⟩) (by simp) _⟩
end Go.Proofs.YtnpljmipicjacaaDoor
/-
  'IsGroup' of the program, by its contract.
-/
namespace Go.Proofs.YtnpljmipicjacaaDoor
open Go.RowKit

set_option maxHeartbeats 4000000 in
set_option maxRecDepth 100000 in
theorem implIsGroup_any (p : Int) (l : PL) (A : Option Addr) (c : Nat) (q : List Int) (B : Option Addr) (d : Nat) (w : World) (hl : l.length ≤ 1048576) (hA : CRead w w.heap.size A (pcells l)) (hq : q.length ≤ 1048576) (hB : CRead w w.heap.size B (icells q)) :
    Calls Tryd.prog 43 #[.agg #[.int .i64 p, .slice A l.length c], .slice B q.length d] w fun e w' => e = .returned (.tuple #[.bool (resIsGroup p l q).1, .bool (resIsGroup p l q).2]) ∧ Below w.heap.size w w' := by
  have RA : CRead (w.alloc (Obj.cells #[.int .i64 p, .slice A l.length c] 31)) (w.alloc (Obj.cells #[.int .i64 p, .slice A l.length c] 31)).heap.size A (pcells l) := (hA.below (B' := w.heap.size) (by go_grown) (Nat.le_refl _)).more (by go_size)
  cases hp : isP p l with
  | false =>
    have e : resIsGroup p l q = (false, false) := by simp [resIsGroup, hp]
    rw [e]
    have Hp := Lib.hid hp
    clear hp e
    go_enter Tryd.func43, Tryd.ntmps43
    go_wp2_with fail
    refine (isParty_any _ _ _ _ _ hl RA).mono ?_
    rw [Hp.out]
    rintro e w2 ⟨rfl, hb2⟩
    simp only [World.size_alloc] at hb2
    go_wp2
    go_ret2
    exact ⟨rfl, Below.trans (b := _) (by go_grown) (hb2.mono (by omega))⟩
  | true =>
    have hn := isP_range hp
    cases hc : isChoiceI p q with
    | false =>
      have e : resIsGroup p l q = (false, true) := by simp [resIsGroup, hp, groups_not hc]
      have e2 : resChooseParty p l q = (0, [], false) := by simp [resChooseParty, hc]
      rw [e]
      have Hp := Lib.hid hp
      have E2 := Lib.hid e2
      clear hp e hc e2
      go_enter Tryd.func43, Tryd.ntmps43
      go_wp2_with fail
      refine (isParty_any _ _ _ _ _ hl RA).mono ?_
      rw [Hp.out]
      rintro e w2 ⟨rfl, hb2⟩
      simp only [World.size_alloc] at hb2
      have a0 : w2.cell? ⟨w.heap.size, 0, none⟩ = some (.int .i64 p) := carry hb2 (by simp) (by omega)
      have a1 : w2.cell? ⟨w.heap.size, 1, none⟩ = some (.slice A l.length c) := carry hb2 (by simp) (by omega)
      have k2 : Below w.heap.size w w2 := Below.trans (b := _) (by go_grown) (hb2.mono (by omega))
      go_wp2_with fail
      refine (implChooseParty_any p l A c q B d _ hl ((hA.below k2 (Nat.le_refl _)).more k2.size) hq ((hB.below k2 (Nat.le_refl _)).more k2.size)).mono ?_
      rw [E2.out]
      rintro e w3 ⟨A3, c3, rfl, own3, hb3⟩
      have k3 := k2.trans (hb3.mono k2.size)
      clear a0 a1 hb2
      go_wp2
      generalize hX : w3.alloc (Obj.cells #[.int .i64 0, .slice A3 0 c3] 31) = X
      have x1 : X.cell? ⟨w3.heap.size, 1, none⟩ = some (.slice A3 0 c3) := by rw [← hX]; simp
      have kX : Below w.heap.size w X := by rw [← hX]; exact k3.alloc k3.size _
      clear hX own3
      go_quiet (fail)
      go_wp2
      go_ret2
      exact ⟨rfl, kX.trans ⟨rfl, rfl, rfl, Nat.le_refl _, fun _ _ => rfl⟩⟩
    | true =>
      obtain ⟨r, hr⟩ : ∃ r, isGroupI p l q = r := ⟨_, rfl⟩
      have e : resIsGroup p l q = (r, true) := by simp [resIsGroup, hp, hr]
      have e2 : resChooseParty p l q = ((q.length : Int), chooseP l q, true) := by simp [resChooseParty, hp, hc]
      have hg := groups_all hp hc
      rw [hr] at hg
      have hq12 : q.length ≤ 12 := by rcases isChoiceI_long hc with h | h; (· omega); (· simp [h])
      rw [e]
      have Hp := Lib.hid hp
      have E2 := Lib.hid e2
      have Hg := Lib.hid hg
      clear hp e hc e2 hr hg
      go_enter Tryd.func43, Tryd.ntmps43
      go_wp2_with fail
      refine (isParty_any _ _ _ _ _ hl RA).mono ?_
      rw [Hp.out]
      rintro e w2 ⟨rfl, hb2⟩
      simp only [World.size_alloc] at hb2
      have a0 : w2.cell? ⟨w.heap.size, 0, none⟩ = some (.int .i64 p) := carry hb2 (by simp) (by omega)
      have a1 : w2.cell? ⟨w.heap.size, 1, none⟩ = some (.slice A l.length c) := carry hb2 (by simp) (by omega)
      have k2 : Below w.heap.size w w2 := Below.trans (b := _) (by go_grown) (hb2.mono (by omega))
      go_wp2_with fail
      refine (implChooseParty_any p l A c q B d _ hl ((hA.below k2 (Nat.le_refl _)).more k2.size) hq ((hB.below k2 (Nat.le_refl _)).more k2.size)).mono ?_
      rw [E2.out]
      rintro e w3 ⟨A3, c3, rfl, own3, hb3⟩
      have k3 := k2.trans (hb3.mono k2.size)
      clear a0 a1 hb2
      go_wp2
      generalize hX : w3.alloc (Obj.cells #[.int .i64 (q.length : Int), .slice A3 (chooseP l q).length c3] 31) = X
      have x1 : X.cell? ⟨w3.heap.size, 1, none⟩ = some (.slice A3 (chooseP l q).length c3) := by rw [← hX]; simp
      have kX : Below w.heap.size w X := by rw [← hX]; exact k3.alloc k3.size _
      clear hX own3
      have hiw : InWays (q.length : Int) 2 := .inl (by omega)
      by_cases hgr : ((chooseP l q).length : Int) = waysI q.length 2
      · have hgd : r = true := by rw [Hg.out]; exact decide_eq_true hgr
        subst hgd
        go_quiet (first | (go_at_call 56; refine Calls.quiet_of_same ((waysToChoose_any (q.length : Int) 2 _ hiw).mono fun _ _ ⟨he, hw⟩ => ⟨he, hw.symm⟩)))
        go_wp2
        go_ret2
        exact ⟨rfl, kX.trans ⟨rfl, rfl, rfl, Nat.le_refl _, fun _ _ => rfl⟩⟩
      · have hgd : r = false := by rw [Hg.out]; exact decide_eq_false hgr
        subst hgd
        have Hb := Lib.hid (show (((chooseP l q).length : Int) == waysI (q.length : Int) 2) = false from by simp [hgr])
        go_quiet (first | (go_at_call 56; refine Calls.quiet_of_same ((waysToChoose_any (q.length : Int) 2 _ hiw).mono fun _ _ ⟨he, hw⟩ => ⟨he, hw.symm⟩)))
        go_wp2
        go_ret2
        exact ⟨by rw [Hb.out]; rfl, kX.trans ⟨rfl, rfl, rfl, Nat.le_refl _, fun _ _ => rfl⟩⟩
end Go.Proofs.YtnpljmipicjacaaDoor
/-
  HOW MANY FRIENDS EACH PERSON HAS: the model's count and the program's, by their contracts.
-/
namespace Go.Proofs.YtnpljmipicjacaaDoor
open Go.RowKit

def bump (acc : List Int) (a : Int) : List Int := acc.set a.toNat (acc.getD a.toNat 0 + 1)
def numsOf (n : Nat) (l : PL) : List Int := l.foldl (fun acc q => bump (bump acc q.1) q.2) (List.replicate n 0)
theorem bump_length (acc : List Int) (a : Int) : (bump acc a).length = acc.length := by simp [bump]
theorem bump_at {acc : List Int} {a : Nat} {u : Int} (h : acc[a]? = some u) : bump acc (a : Int) = acc.set a (u + 1) := by simp [bump, List.getD, h]
theorem numsOf_snoc (n : Nat) (l : PL) (q : Int × Int) : numsOf n (l ++ [q]) = bump (bump (numsOf n l) q.1) q.2 := by simp [numsOf, List.foldl_append]
theorem numsOf_length (n : Nat) (l : PL) : (numsOf n l).length = n := by
  unfold numsOf
  suffices h : ∀ (l : PL) (acc : List Int), acc.length = n → (l.foldl (fun acc q => bump (bump acc q.1) q.2) acc).length = n from h l _ (by simp)
  intro l
  induction l with
  | nil => intro acc h; exact h
  | cons q l ih => intro acc h; exact ih _ (by rw [bump_length, bump_length, h])
def Small (acc : List Int) (m : Nat) : Prop := ∀ (i : Nat) (x : Int), acc[i]? = some x → 0 ≤ x ∧ x ≤ m
theorem small_zero (n m : Nat) : Small (List.replicate n 0) m := by
  intro i x h
  rw [List.getElem?_replicate] at h
  split at h
  · simp at h; omega
  · cases h
theorem small_set {acc : List Int} {m a : Nat} {u : Int} (h : Small acc m) (ha : acc[a]? = some u) : Small (acc.set a (u + 1)) (m + 1) := by
  intro i x hx
  have hu := h a u ha
  rw [List.getElem?_set] at hx
  split at hx
  · split at hx
    · simp at hx; omega
    · cases hx
  · have := h i x hx; omega
def resNumbersOfFriends (p : Int) (l : PL) : List Int × Bool := if isP p l then (numsOf p.toNat l, true) else ([], false)
theorem resNumbersOfFriends_len (p : Int) (l : PL) : (resNumbersOfFriends p l).1.length ≤ 1048576 := by
  unfold resNumbersOfFriends
  split
  · rename_i h
    have := isP_range h
    rw [numsOf_length]
    omega
  · simp

/-- what one pair does to the row of numbers (the walk writes a store into an old block ahead of a new block) -/
theorem numbers_round {w : World} {B e g n cap a b : Nat} {acc : List Int} {u v : Int} (hown : w.ownsRow B e 1 (.slice (some ⟨g, 0, none⟩) n cap) n (icells acc)) (hu : acc[a]? = some u) (hv : acc[b]? = some v) (hab : a ≠ b) (o : Obj) :
    (w.alloc o).cell? ⟨g, a, none⟩ = some (.int .i64 u) ∧ (w.alloc o).frozen? ⟨g, a, none⟩ = false ∧
      ((w.setCell ⟨g, a, none⟩ (.int .i64 (u + 1))).alloc o).cell? ⟨g, b, none⟩ = some (.int .i64 v) ∧ ((w.setCell ⟨g, a, none⟩ (.int .i64 (u + 1))).alloc o).frozen? ⟨g, b, none⟩ = false ∧
      (((w.setCell ⟨g, a, none⟩ (.int .i64 (u + 1))).setCell ⟨g, b, none⟩ (.int .i64 (v + 1))).alloc o).ownsRow B e 1 (.slice (some ⟨g, 0, none⟩) n cap) n (icells (bump (bump acc a) b)) := by
  have h1 := hown.alloc o
  have h2 := own_setInt hown a (u + 1)
  have h2' := h2.alloc o
  have hv2 : (acc.set a (u + 1))[b]? = some v := by rw [List.getElem?_set_ne hab]; exact hv
  have h3 := own_setInt h2 b (v + 1)
  refine ⟨own_intAt h1 hu, h1.frozenAt _, own_intAt h2' hv2, h2'.frozenAt _, ?_⟩
  rw [bump_at hu, bump_at hv2]
  exact h3.alloc o

end Go.Proofs.YtnpljmipicjacaaDoor
/-
  THE PARTS OF A PARTY: 'impl.allPeople' and 'impl.firstOnes', by their contracts.
-/
namespace Go.Proofs.YtnpljmipicjacaaDoor
open Go.RowKit

/-- 0, 1, .. below k, and 0 from there on -/
def pplTo (n k : Nat) : List Int := (List.range n).map fun j => if j < k then (j : Int) else 0
def people (n : Nat) : List Int := pplTo n n
theorem pplTo_length (n k : Nat) : (pplTo n k).length = n := by simp [pplTo]
theorem pplTo_at {n k j : Nat} (h : j < n) : (pplTo n k)[j]? = some (if j < k then (j : Int) else 0) := by simp [pplTo, h]
theorem pplTo_zero (n : Nat) : pplTo n 0 = List.replicate n 0 := by
  apply List.ext_getElem (by simp [pplTo])
  intro j h1 h2
  simp [pplTo]
theorem pplTo_set (n k : Nat) : (pplTo n k).set k (k : Int) = pplTo n (k + 1) := by
  apply List.ext_getElem (by simp [pplTo])
  intro j h1 h2
  rw [List.getElem_set]
  by_cases h : k = j
  · subst h; simp [pplTo]
  · rw [if_neg h]
    simp only [pplTo, List.getElem_map, List.getElem_range]
    by_cases h3 : j < k
    · rw [if_pos h3, if_pos (by omega)]
    · rw [if_neg h3, if_neg (by omega)]
theorem people_at {n j : Nat} (h : j < n) : (people n)[j]? = some (j : Int) := by unfold people; rw [pplTo_at h, if_pos h]
theorem people_length (n : Nat) : (people n).length = n := pplTo_length n n

/-- the first k of a list, hi turned into lo -/
def relTo (acc : List Int) (hi lo : Int) (k : Nat) : List Int := acc.mapIdx fun j f => if j < k ∧ f = hi then lo else f
theorem relTo_length (acc : List Int) (hi lo : Int) (k : Nat) : (relTo acc hi lo k).length = acc.length := by simp [relTo]
theorem relTo_zero (acc : List Int) (hi lo : Int) : relTo acc hi lo 0 = acc := by
  apply List.ext_getElem (by simp [relTo])
  intro j h1 h2
  simp [relTo]
theorem relTo_at {acc : List Int} {k : Nat} {f : Int} (hi lo : Int) (h : acc[k]? = some f) : (relTo acc hi lo k)[k]? = some f := by
  unfold relTo
  rw [List.getElem?_mapIdx, h]
  simp
theorem relTo_hit {acc : List Int} {k : Nat} {hi lo : Int} (h : acc[k]? = some hi) : (relTo acc hi lo k).set k lo = relTo acc hi lo (k + 1) := by
  have hk := (List.getElem?_eq_some_iff.1 h)
  apply List.ext_getElem (by simp [relTo])
  intro j h1 h2
  rw [List.getElem_set]
  simp only [relTo, List.getElem_mapIdx]
  by_cases e : k = j
  · subst e
    rw [if_pos rfl, if_pos ⟨by omega, hk.2⟩]
  · rw [if_neg e]
    by_cases h3 : j < k
    · simp only [h3, true_and, show j < k + 1 by omega]
    · rw [if_neg (by omega), if_neg (by omega)]
theorem relTo_miss {acc : List Int} {k : Nat} {f hi lo : Int} (h : acc[k]? = some f) (hne : f ≠ hi) : relTo acc hi lo k = relTo acc hi lo (k + 1) := by
  have hk := (List.getElem?_eq_some_iff.1 h)
  apply List.ext_getElem (by simp [relTo])
  intro j h1 h2
  simp only [relTo, List.getElem_mapIdx]
  by_cases e : k = j
  · subst e
    rw [if_neg (by omega), if_neg (fun x => hne (hk.2 ▸ x.2))]
  · by_cases h3 : j < k
    · simp only [h3, true_and, show j < k + 1 by omega]
    · rw [if_neg (by omega), if_neg (by omega)]
/-- a pair makes one part of two: the greater first one becomes the less -/
def joinI (acc : List Int) (q : Int × Int) : List Int := relTo acc (max (acc.getD q.1.toNat 0) (acc.getD q.2.toNat 0)) (min (acc.getD q.1.toNat 0) (acc.getD q.2.toNat 0)) acc.length
def firstI (n : Nat) (l : PL) : List Int := l.foldl joinI (people n)
theorem firstI_snoc (n : Nat) (l : PL) (q : Int × Int) : firstI n (l ++ [q]) = joinI (firstI n l) q := by simp [firstI, List.foldl_append]
theorem firstI_length (n : Nat) (l : PL) : (firstI n l).length = n := by
  unfold firstI
  suffices h : ∀ (l : PL) (acc : List Int), acc.length = n → (l.foldl joinI acc).length = n from h l _ (people_length n)
  intro l
  induction l with
  | nil => intro acc h; exact h
  | cons q l ih => intro acc h; exact ih _ (by rw [joinI, relTo_length, h])
theorem joinI_at {acc : List Int} {n a b : Nat} {x y : Int} (hn : acc.length = n) (hx : acc[a]? = some x) (hy : acc[b]? = some y) : joinI acc (a, b) = relTo acc (max x y) (min x y) n := by
  simp [joinI, List.getD_eq_getElem?_getD, hx, hy, hn]

end Go.Proofs.YtnpljmipicjacaaDoor
/-
  THE PARTS OF A PARTY, pure: the label that 'firstOnes' gives to each person tells its part.
-/
namespace Go.Proofs.YtnpljmipicjacaaDoor
open Go.RowKit

theorem snocRec {α : Type} {P : List α → Prop} (nil : P []) (append_singleton : ∀ l r, P l → P (l ++ [r])) (l : List α) : P l := by
  have h : ∀ m : List α, P m.reverse := by
    intro m
    induction m with
    | nil => exact nil
    | cons a m ih => rw [List.reverse_cons]; exact append_singleton _ _ ih
  have := h l.reverse
  rwa [List.reverse_reverse] at this
/-- the label of a person -/
def lab (n : Nat) (l : PL) (c : Nat) : Int := (firstI n l).getD c 0
theorem lab_nil {n c : Nat} (hc : c < n) : lab n [] c = c := by
  unfold lab
  rw [List.getD_eq_getElem?_getD, show firstI n [] = people n from rfl, people_at hc]
  rfl
theorem lab_snoc {n c : Nat} (l : PL) (q : Int × Int) (hc : c < n) :
    lab n (l ++ [q]) c = if lab n l c = max (lab n l q.1.toNat) (lab n l q.2.toNat) then min (lab n l q.1.toNat) (lab n l q.2.toNat) else lab n l c := by
  have hl : c < (firstI n l).length := by rw [firstI_length]; exact hc
  unfold lab
  rw [firstI_snoc, joinI]
  generalize max ((firstI n l).getD q.1.toNat 0) ((firstI n l).getD q.2.toNat 0) = hi
  generalize min ((firstI n l).getD q.1.toNat 0) ((firstI n l).getD q.2.toNat 0) = lo
  simp only [List.getD_eq_getElem?_getD, relTo, List.getElem?_mapIdx, List.getElem?_eq_getElem hl, Option.map_some, Option.getD_some, hl, true_and]
/-- a pair's two people have one label -/
theorem lab_pair {n : Nat} {l : PL} (h : ∀ q ∈ l, q.1.toNat < n ∧ q.2.toNat < n) : ∀ q ∈ l, lab n l q.1.toNat = lab n l q.2.toNat := by
  induction l using snocRec with
  | nil => intro q hq; cases hq
  | append_singleton l r ih =>
    intro q hq
    have hqn := h q hq
    rw [lab_snoc l r hqn.1, lab_snoc l r hqn.2]
    rcases List.mem_append.1 hq with hm | hm
    · rw [ih (fun s hs => h s (by simp [hs])) q hm]
    · have e : q = r := by simpa using hm
      subst e
      generalize lab n l q.1.toNat = x
      generalize lab n l q.2.toNat = y
      by_cases hxy : x ≤ y
      · by_cases h2 : x = y
        · rw [h2]
        · rw [if_neg (by omega), if_pos (by omega)]; omega
      · rw [if_pos (by omega), if_neg (by omega)]; omega
/-- the label of a person is one of its part, not later than it, and its own label -/
theorem lab_own {n : Nat} {l : PL} (h : ∀ q ∈ l, q.1.toNat < n ∧ q.2.toNat < n) : ∀ c, c < n → 0 ≤ lab n l c ∧ lab n l c ≤ c ∧ lab n l (lab n l c).toNat = lab n l c := by
  induction l using snocRec with
  | nil =>
    intro c hc
    rw [lab_nil hc]
    simp only [Int.toNat_natCast]
    exact ⟨by omega, by omega, lab_nil hc⟩
  | append_singleton l r ih =>
    have ih := ih (fun s hs => h s (by simp [hs]))
    have hr := h r (by simp)
    intro c hc
    have i1 := ih c hc
    have i2 := ih _ hr.1
    have i3 := ih _ hr.2
    rw [lab_snoc l r hc]
    have hm : ∀ m : Int, 0 ≤ m → m < n → lab n l m.toNat = m → lab n (l ++ [r]) m.toNat = if m = max (lab n l r.1.toNat) (lab n l r.2.toNat) then min (lab n l r.1.toNat) (lab n l r.2.toNat) else m := fun m h0 h1 he => by
      rw [lab_snoc l r (by omega), he]
    generalize lab n l c = f at *
    generalize lab n l r.1.toNat = x at *
    generalize lab n l r.2.toNat = y at *
    by_cases hf : f = max x y
    · rw [if_pos hf]
      have hlo : lab n l (min x y).toNat = min x y := by
        rcases Int.le_total x y with e | e
        · rw [Int.min_eq_left e]; exact i2.2.2
        · rw [Int.min_eq_right e]; exact i3.2.2
      refine ⟨by omega, by omega, ?_⟩
      rw [hm _ (by omega) (by omega) hlo]
      split <;> rfl
    · rw [if_neg hf]
      refine ⟨i1.1, i1.2.1, ?_⟩
      rw [hm _ i1.1 (by omega) i1.2.2, if_neg hf]
/-- a set that no pair leaves holds with a person all of its label -/
theorem lab_closed {n : Nat} {l : PL} {S : Nat → Prop} (h : ∀ q ∈ l, q.1.toNat < n ∧ q.2.toNat < n) (hS : ∀ q ∈ l, S q.1.toNat ↔ S q.2.toNat) : ∀ a c, a < n → c < n → lab n l a = lab n l c → (S a ↔ S c) := by
  induction l using snocRec with
  | nil =>
    intro a c ha hc e
    rw [lab_nil ha, lab_nil hc] at e
    rw [show a = c by omega]
  | append_singleton l r ih =>
    have ih := ih (fun s hs => h s (by simp [hs])) (fun s hs => hS s (by simp [hs]))
    have hr := h r (by simp)
    have hs := hS r (by simp)
    intro a c ha hc e
    rw [lab_snoc l r ha, lab_snoc l r hc] at e
    have k1 := ih a _ ha hr.1
    have k2 := ih a _ ha hr.2
    have k3 := ih c _ hc hr.1
    have k4 := ih c _ hc hr.2
    have k5 := ih a c ha hc
    generalize lab n l a = f at *
    generalize lab n l c = g at *
    generalize lab n l r.1.toNat = x at *
    generalize lab n l r.2.toNat = y at *
    by_cases hfg : f = g
    · exact k5 hfg
    · by_cases h1 : f = max x y
      · have h2 : g = min x y := by
          rw [if_pos h1] at e
          split at e <;> omega
        rcases Int.le_total x y with e2 | e2
        · rw [k2 (by omega), k3 (by omega), hs]
        · rw [k1 (by omega), k4 (by omega), hs]
      · rw [if_neg h1] at e
        have h2 : g = max x y := by
          split at e
          · assumption
          · exact absurd e hfg
        have h3 : f = min x y := by rw [if_pos h2] at e; exact e
        rcases Int.le_total x y with e2 | e2
        · rw [k1 (by omega), k4 (by omega), hs]
        · rw [k2 (by omega), k3 (by omega), hs]
end Go.Proofs.YtnpljmipicjacaaDoor
/-
  LISTS OF NUMBERS OF FRIENDS AS PLAIN LISTS: what numbers are; sorted so that they are falling; sums; where they fail. Nothing here speaks of the program.
-/
namespace Go.Proofs.YtnpljmipicjacaaDoor

def isNums (q : List Int) : Bool := decide (q.length ≤ 12) && q.all fun x => decide (0 ≤ x ∧ x < q.length)
theorem isNums_len {q : List Int} (h : isNums q = true) : q.length ≤ 12 := by
  simp only [isNums, Bool.and_eq_true, decide_eq_true_eq] at h
  exact h.1
theorem isNums_mem {q : List Int} (h : isNums q = true) : ∀ x ∈ q, 0 ≤ x ∧ x < q.length := by
  simp only [isNums, Bool.and_eq_true, List.all_eq_true, decide_eq_true_eq] at h
  exact h.2
theorem isNums_at {q : List Int} (h : isNums q = true) {k : Nat} {x : Int} (hx : q[k]? = some x) : 0 ≤ x ∧ x < q.length := isNums_mem h x (List.mem_of_getElem? hx)
theorem isNums_of {q : List Int} (h : q.length ≤ 12) (h2 : ∀ (k : Nat) (x : Int), k < q.length → q[k]? = some x → 0 ≤ x ∧ x < q.length) : isNums q = true := by
  simp only [isNums, Bool.and_eq_true, List.all_eq_true, decide_eq_true_eq]
  refine ⟨h, fun x hx => ?_⟩
  obtain ⟨i, hi, rfl⟩ := List.getElem_of_mem hx
  exact h2 i _ hi (List.getElem?_eq_getElem hi)
theorem isNums_bad {q : List Int} {k : Nat} {x : Int} (hx : q[k]? = some x) (h : ¬ (0 ≤ x ∧ x < q.length)) : isNums q = false := by
  cases he : isNums q with
  | false => rfl
  | true => exact absurd (isNums_at he hx) h
theorem isNums_many {q : List Int} (h : 12 < q.length) : isNums q = false := by
  cases he : isNums q with
  | false => rfl
  | true => have := isNums_len he; omega

/-! ## Falling -/
def fall (q : List Int) : List Int := q.mergeSort fun x y => decide (y ≤ x)
theorem fall_perm (q : List Int) : (fall q).Perm q := List.mergeSort_perm _ _
theorem fall_length (q : List Int) : (fall q).length = q.length := (fall_perm q).length_eq
theorem fall_mem {q : List Int} {x : Int} : x ∈ fall q ↔ x ∈ q := (fall_perm q).mem_iff
theorem fall_sorted (q : List Int) : (fall q).Pairwise fun x y => y ≤ x := by
  have h := List.pairwise_mergeSort (le := fun x y : Int => decide (y ≤ x)) (by intro a b c; simp; omega) (by intro a b; simp; omega) q
  exact h.imp (by simp)
theorem fall_unique {l q : List Int} (hs : l.Pairwise fun x y => y ≤ x) (hp : l.Perm q) : l = fall q :=
  List.Perm.eq_of_pairwise (le := fun x y : Int => y ≤ x) (fun a b _ _ h1 h2 => by omega) hs (fall_sorted q) (hp.trans (fall_perm q).symm)
theorem fall_nums {q : List Int} (h : isNums q = true) : isNums (fall q) = true := by
  refine isNums_of (by rw [fall_length]; exact isNums_len h) fun k x _ hx => ?_
  have := isNums_mem h x (fall_mem.1 (List.mem_of_getElem? hx))
  rw [fall_length]
  exact this

/-- the numbers from n down, j of them, each as often as it is in the list -/
def blockI (q : List Int) (x : Int) : List Int := q.filter fun y => decide (x = y)
def descI (q : List Int) (n j : Nat) : List Int := (List.range j).flatMap fun i : Nat => blockI q ((n : Int) - (i : Int))
theorem descI_zero (q : List Int) (n : Nat) : descI q n 0 = [] := rfl
theorem descI_next (q : List Int) (n j : Nat) : descI q n (j + 1) = descI q n j ++ blockI q ((n : Int) - j) := by
  unfold descI
  rw [List.range_succ, List.flatMap_append]
  simp
theorem blockI_snoc (q : List Int) (x y : Int) : blockI (q ++ [y]) x = blockI q x ++ if x = y then [y] else [] := by
  unfold blockI
  rw [List.filter_append]
  congr 1
  by_cases h : x = y
  · rw [if_pos h, List.filter_cons_of_pos (by simpa using h)]; rfl
  · rw [if_neg h, List.filter_cons_of_neg (by simpa using h)]; rfl
theorem mem_blockI {q : List Int} {x y : Int} : y ∈ blockI q x ↔ y ∈ q ∧ x = y := by simp [blockI]
theorem mem_descI {q : List Int} {n j : Nat} {y : Int} : y ∈ descI q n j ↔ y ∈ q ∧ (n : Int) - j < y ∧ y ≤ n := by
  simp only [descI, List.mem_flatMap, List.mem_range, mem_blockI]
  constructor
  · rintro ⟨i, hi, hy, rfl⟩; exact ⟨hy, by omega, by omega⟩
  · rintro ⟨hy, h1, h2⟩; exact ⟨((n : Int) - y).toNat, by omega, hy, by omega⟩
theorem descI_sorted (q : List Int) (n j : Nat) : (descI q n j).Pairwise fun x y => y ≤ x := by
  induction j with
  | zero => exact List.Pairwise.nil
  | succ j ih =>
    rw [descI_next, List.pairwise_append]
    refine ⟨ih, ?_, fun a ha b hb => ?_⟩
    · rw [List.pairwise_iff_getElem]
      intro a b ha hb _
      have h1 := (mem_blockI.1 (List.getElem_mem ha)).2
      have h2 := (mem_blockI.1 (List.getElem_mem hb)).2
      omega
    · have h1 := mem_descI.1 ha
      have h2 := (mem_blockI.1 hb).2
      omega
theorem count_blockI (q : List Int) (x y : Int) : (blockI q x).count y = if x = y then q.count y else 0 := by
  unfold blockI
  by_cases h : x = y
  · subst h
    rw [if_pos rfl, List.count_filter (by simp)]
  · rw [if_neg h, List.count_eq_zero]
    intro hm
    exact h (by simpa using (List.mem_filter.1 hm).2)
theorem count_descI (q : List Int) (n j : Nat) (y : Int) : (descI q n j).count y = if (n : Int) - j < y ∧ y ≤ n then q.count y else 0 := by
  induction j with
  | zero => rw [descI_zero, if_neg (by omega)]; rfl
  | succ j ih =>
    rw [descI_next, List.count_append, ih, count_blockI]
    by_cases h1 : (n : Int) - j = y
    · rw [if_pos h1, if_neg (by omega), if_pos (by omega), Nat.zero_add]
    · rw [if_neg h1, Nat.add_zero]
      by_cases h2 : (n : Int) - j < y ∧ y ≤ n
      · rw [if_pos h2, if_pos (by omega)]
      · rw [if_neg h2, if_neg (by omega)]
theorem descI_fall {q : List Int} (h : isNums q = true) : descI q q.length (q.length + 1) = fall q := by
  refine fall_unique (descI_sorted _ _ _) (List.perm_iff_count.2 fun y => ?_)
  rw [count_descI]
  split
  · rfl
  · rename_i hn
    symm
    rw [List.count_eq_zero]
    intro hy
    have := isNums_mem h y hy
    omega
theorem descI_le (q : List Int) (n j : Nat) : (descI q n j).length ≤ j * q.length := by
  induction j with
  | zero => simp [descI_zero]
  | succ j ih =>
    rw [descI_next, List.length_append, Nat.add_mul, Nat.one_mul]
    have : (blockI q ((n : Int) - j)).length ≤ q.length := List.length_filter_le _ _
    omega
theorem blockI_le (q : List Int) (x : Int) : (blockI q x).length ≤ q.length := List.length_filter_le _ _

/-! ## Sums -/
def sumI (q : List Int) : Int := q.foldl (· + ·) 0
theorem sumI_snoc (q : List Int) (x : Int) : sumI (q ++ [x]) = sumI q + x := by simp [sumI, List.foldl_append]
theorem sumI_nil : sumI [] = 0 := rfl
/-- a bound of the sum of a beginning -/
theorem sumI_take_bound {q : List Int} {m : Int} (hm : 0 ≤ m) (h : ∀ x ∈ q, 0 ≤ x ∧ x ≤ m) : ∀ k, 0 ≤ sumI (q.take k) ∧ sumI (q.take k) ≤ k * m := by
  intro k
  induction k with
  | zero => simp [sumI_nil]
  | succ k ih =>
    rw [List.take_add_one]
    have e : ((k + 1 : Nat) : Int) * m = k * m + m := by rw [Int.natCast_add, Int.add_mul]; simp
    rw [e]
    cases hx : q[k]? with
    | none => simp; omega
    | some x =>
      have := h x (List.mem_of_getElem? hx)
      rw [Option.toList_some, sumI_snoc]
      omega
theorem sumI_perm {q l : List Int} (h : q.Perm l) : sumI q = sumI l := by
  unfold sumI
  exact h.foldl_eq' (fun x _ y _ z => by omega) 0

/-! ## Where numbers fail -/
def minsI (k : Int) (q : List Int) : List Int := q.map fun x => if k < x then k else x
theorem minsI_snoc (k : Int) (q : List Int) (x : Int) : minsI k (q ++ [x]) = minsI k q ++ [if k < x then k else x] := by simp [minsI]
def mostI (s : List Int) (k : Nat) : Int := (k : Int) * (k - 1) + sumI (minsI k (s.drop k))
def failAt (s : List Int) (k : Nat) : Bool := decide (mostI s k < sumI (s.take k))
def failsI (s : List Int) : Int := match (List.range s.length).find? fun i => failAt s (i + 1) with | none => 0 | some i => (i : Int) + 1
theorem failsI_at {s : List Int} {k : Nat} (hk : k < s.length) (h : ∀ j, j < k → failAt s (j + 1) = false) (hf : failAt s (k + 1) = true) : failsI s = k + 1 := by
  have : (List.range s.length).find? (fun i => failAt s (i + 1)) = some k := by
    rw [List.find?_range_eq_some]
    exact ⟨hf, by simpa using hk, fun j hj => by simp [h j hj]⟩
  unfold failsI
  rw [this]
theorem failsI_none {s : List Int} (h : ∀ j, j < s.length → failAt s (j + 1) = false) : failsI s = 0 := by
  have : (List.range s.length).find? (fun i => failAt s (i + 1)) = none := by
    rw [List.find?_range_eq_none]
    intro j hj
    simp [h j hj]
  unfold failsI
  rw [this]
theorem failsI_range (s : List Int) : 0 ≤ failsI s ∧ failsI s ≤ s.length := by
  unfold failsI
  split
  · omega
  · rename_i i hi
    have := List.mem_of_find?_eq_some hi
    rw [List.mem_range] at this
    omega
theorem minsI_bound {s : List Int} {m k : Int} (hk : 0 ≤ k) (h : ∀ x ∈ s, 0 ≤ x ∧ x ≤ m) : ∀ x ∈ minsI k s, 0 ≤ x ∧ x ≤ m := by
  intro x hx
  obtain ⟨y, hy, rfl⟩ := List.mem_map.1 hx
  have := h y hy
  split <;> omega
/-- they can be -/
def canI (q : List Int) : Bool := decide (sumI q % 2 = 0) && decide (failsI (fall q) = 0)
end Go.Proofs.YtnpljmipicjacaaDoor
/-
  NUMBERS OF FRIENDS: what they are, by the model's and the program's contracts.
-/
namespace Go.Proofs.YtnpljmipicjacaaDoor
open Go.RowKit

def l1AllB (q : List Int) (lo hi : Int) : Bool := q.all fun x => decide (lo ≤ x ∧ x ≤ hi)
theorem l1AllB_yes {q : List Int} {lo hi : Int} (h : ∀ (j : Nat) (x : Int), j < q.length → q[j]? = some x → lo ≤ x ∧ x ≤ hi) : l1AllB q lo hi = true := by
  simp only [l1AllB, List.all_eq_true, decide_eq_true_eq]
  intro x hx
  obtain ⟨i, hi, rfl⟩ := List.getElem_of_mem hx
  exact h i _ hi (List.getElem?_eq_getElem hi)
theorem l1AllB_no {q : List Int} {lo hi : Int} {k : Nat} {x : Int} (hx : q[k]? = some x) (h : ¬ (lo ≤ x ∧ x ≤ hi)) : l1AllB q lo hi = false := by
  cases he : l1AllB q lo hi with
  | false => rfl
  | true =>
    simp only [l1AllB, List.all_eq_true, decide_eq_true_eq] at he
    exact absurd (he x (List.mem_of_getElem? hx)) h

theorem isNums_all {q : List Int} (h : q.length ≤ 12) : l1AllB q 0 ((q.length : Int) - 1) = isNums q := by
  unfold l1AllB isNums
  rw [decide_eq_true h, Bool.true_and]
  congr 1
  funext x
  congr 1
  apply propext
  omega

def resIsNumbers (q : List Int) : Bool := isNums q
/-! ## Sums -/
/-! ## Sorted so that they are falling: the model's -/
end Go.Proofs.YtnpljmipicjacaaDoor
/-
  'numbersOfTied' by its contract; 'sumOf' of greater numbers. Written by wip/tools/gen_numst.py.
-/
namespace Go.Proofs.YtnpljmipicjacaaDoor
open Go.RowKit

theorem listsC_over (t : Nat → Nat → Bool) (cs : List Nat) {k : Nat} (h : cs.length < k) : listsC t k [] cs = [] := by
  rw [← subsC_size t k [] cs, List.filter_eq_nil_iff]
  intro l hl
  rcases List.mem_cons.1 hl with rfl | hl
  · simp; omega
  · have := subsC_short t [] cs l hl
    simp at this ⊢
    omega
theorem listsC_less (t : Nat → Nat → Bool) : ∀ (k : Nat) (told : List Int) (cs : List Nat), listsC t k told cs = [] → listsC t (k + 1) told cs = [] := by
  intro k told cs
  induction h : k + cs.length using Nat.strongRecOn generalizing k told cs with
  | _ n ih =>
    intro he
    match k, cs with
    | 0, cs => rw [listsC_zero] at he; simp at he
    | k + 1, [] => rw [listsC_nil]
    | k + 1, a :: cs =>
      simp only [List.length_cons] at h
      have h0 : (cs.filter (t a)).length ≤ cs.length := List.length_filter_le _ _
      rw [listsC_cons, List.append_eq_nil_iff] at he
      rw [listsC_cons, ih (k + (cs.filter (t a)).length) (by omega) k _ _ rfl he.1, ih (k + 1 + cs.length) (by omega) (k + 1) _ _ rfl he.2]
      rfl
/-- how many lists there are of 0, 1, .. people -/
def numsK (t : Nat → Nat → Bool) (cs : List Nat) (K : Nat) : List Int := (List.range K).map fun k => ((listsC t k [] cs).length : Int)
theorem numsK_length (t : Nat → Nat → Bool) (cs : List Nat) (K : Nat) : (numsK t cs K).length = K := by simp [numsK]
theorem numsK_succ (t : Nat → Nat → Bool) (cs : List Nat) (K : Nat) : numsK t cs (K + 1) = numsK t cs K ++ [((listsC t K [] cs).length : Int)] := by simp [numsK, List.range_succ]
/-- the least size of which there are none -/
def topK (t : Nat → Nat → Bool) (cs : List Nat) : Nat := (List.range (cs.length + 2)).findIdx fun k => (listsC t k [] cs).isEmpty
theorem topK_lt (t : Nat → Nat → Bool) (cs : List Nat) : topK t cs < (List.range (cs.length + 2)).length :=
  List.findIdx_lt_length_of_exists ⟨cs.length + 1, by simp, by rw [listsC_over t cs (by omega)]; rfl⟩
theorem topK_le (t : Nat → Nat → Bool) (cs : List Nat) : topK t cs ≤ cs.length + 1 := by have := topK_lt t cs; simp at this; omega
theorem topK_none (t : Nat → Nat → Bool) (cs : List Nat) : listsC t (topK t cs) [] cs = [] := by
  have h : (listsC t ((List.range (cs.length + 2))[topK t cs]'(topK_lt t cs)) [] cs).isEmpty = true := List.findIdx_getElem (w := topK_lt t cs)
  rw [List.getElem_range] at h
  simpa using h
theorem topK_some {t : Nat → Nat → Bool} {cs : List Nat} {k : Nat} (h : k < topK t cs) : (listsC t k [] cs).isEmpty = false := by
  have h2 := List.not_of_lt_findIdx h
  simpa using h2
theorem topK_over {t : Nat → Nat → Bool} {cs : List Nat} : ∀ {k : Nat}, topK t cs ≤ k → listsC t k [] cs = [] := by
  intro k
  induction k with
  | zero => intro h; have := topK_none t cs; rwa [show topK t cs = 0 from by omega] at this
  | succ k ih =>
    intro h
    by_cases hk : topK t cs ≤ k
    · exact listsC_less t k [] cs (ih hk)
    · have := topK_none t cs
      rwa [show topK t cs = k + 1 from by omega] at this
def sliceLen : Value → Nat | .slice _ n _ => n | _ => 0

def smallI (q : List Int) : Prop := q.length ≤ 100 ∧ ∀ x ∈ q, 0 ≤ x ∧ x ≤ 100000
end Go.Proofs.YtnpljmipicjacaaDoor
