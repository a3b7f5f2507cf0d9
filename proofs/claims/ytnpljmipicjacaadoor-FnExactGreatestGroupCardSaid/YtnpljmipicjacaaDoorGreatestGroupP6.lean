/-
  Texts put together for the claim of 'GreatestGroup' (pack 6): GrowS, IterG, Great, LawGreatestGroup, Said, Head.
-/
import Derived.Test.YtnpljmipicjacaaDoorGreatestGroupP1
import Derived.Test.YtnpljmipicjacaaDoorGreatestGroupP2
import Derived.Test.YtnpljmipicjacaaDoorGreatestGroupP3
import Derived.Test.YtnpljmipicjacaaDoorGreatestGroupP4
import Derived.Test.YtnpljmipicjacaaDoorGreatestGroupP5
import Derived.Deep.RegionHeld3
import Derived.Test.YtnpljmipicjacaaDoorRows
import Derived.ProofKit
import Derived.OpenShut
import Derived.Deep.SlicePairs
import Derived.Lib.SmallJoins
/-
  'GrowGroup' of the model, by its contract.
-/
namespace Go.Proofs.YtnpljmipicjacaaDoor
open Go.RowKit

theorem own_none {w : World} {B : Nat} {e : TypeId} {m c : Nat} {A : Option Addr} {xs : List Value} (h : w.ownsRow B e 1 (.slice A m c) m xs) : (A = none ∧ m = 0 ∧ c = 0) ∨ ∃ g, A = some ⟨g, 0, none⟩ := by
  rcases h.2 with ⟨h1, h2⟩ | ⟨g, cap, cur, hv, _⟩
  · simp only [Value.slice.injEq] at h1
    exact .inl ⟨h1.1, h2, h1.2.2⟩
  · simp only [Value.slice.injEq] at hv
    exact .inr ⟨g, hv.1⟩

theorem own_zero {w : World} {B : Nat} {e : TypeId} {m c : Nat} {A : Option Addr} {xs : List Value} (h : w.ownsRow B e 1 (.slice A m c) m xs) : A = none → c = 0 := by
  intro hA
  rcases own_none h with ⟨_, _, h3⟩ | ⟨g, h1⟩
  · exact h3
  · rw [hA] at h1; cases h1

set_option maxHeartbeats 2000000 in
set_option maxRecDepth 100000 in
theorem l1Rising_any (n : Nat) (q : List Int) (B : Option Addr) (d : Nat) (w : World) (hq : q.length ≤ 1048576) (hB : CRead w w.heap.size B (icells q)) :
    Calls Tryd.prog 65 #[.slice B q.length d, .int .i64 0, .int .i64 ((n : Int) - 1)] w fun e w' => e = .returned (.bool (isChoiceI n q)) ∧ w = w' := by
  obtain ⟨r, hr⟩ : ∃ r, isChoiceI n q = r := ⟨_, rfl⟩
  rw [hr]
  have Hr := Lib.hid hr
  clear hr
  go_enter Tryd.func65, Tryd.ntmps65
  go_wp2
  go_loop [11] (fun i => ∃ k : Nat, k ≤ q.length ∧ i = .int .i64 k ∧ ∀ j, j < k → choiceAt n q j = true) (fun i => q.length - (intOf i).toNat)
  case atStart => exact ⟨0, Nat.zero_le _, rfl, fun j hj => by omega⟩
  case round =>
    obtain ⟨k, hk, rfl, hg⟩ := hrel
    have Hg := Lib.hid hg
    clear hg
    by_cases hlt : k < q.length
    · obtain ⟨x, hx⟩ := getSome q k hlt
      obtain ⟨b, off, rfl, hbb, c0⟩ := hB.int hx
      have hki : (k : Int) < (q.length : Int) := by omega
      by_cases hman : 0 ≤ x ∧ x < n
      · have hin : l1InB x 0 ((n : Int) - 1) = true := decide_eq_true (by omega)
        by_cases hk0 : k = 0
        · have Hch := Lib.hid (choiceAt_zero (p := n) hk0 hx hman)
          have hkz : ¬ ((0 : Int) < (k : Int)) := by omega
          have Hk0 := Lib.hid hk0
          clear hx hman hk0
          go_wp2_with fail
          refine (l1In_any x 0 ((n : Int) - 1) _).mono ?_
          rw [hin]
          rintro e w5 ⟨rfl, rfl⟩
          go_wp2
          go_round
          case rel => exact ⟨k + 1, by omega, by go_num, fun j hj => by
                        have hk0 := Hk0.out
                        obtain rfl : j = k := by omega
                        exact Hch.out⟩
          case measure => simp [intOf]; omega
        · obtain ⟨y, hy⟩ := getSome q (k - 1) (by omega)
          obtain ⟨b', off', e', _, c1⟩ := hB.int hy
          simp only [Option.some.injEq, Addr.mk.injEq, and_true] at e'
          obtain ⟨rfl, rfl⟩ := e'
          have hkz : (0 : Int) < (k : Int) := by omega
          have hk1 : ((k : Int) - 1).toNat = k - 1 := by omega
          have hk2 : (0 : Int) ≤ (k : Int) - 1 := by omega
          have hk3 : (k : Int) - 1 < (q.length : Int) := by omega
          by_cases hl : y < x
          · have Hch := Lib.hid (choiceAt_later (p := n) (by omega) hy hx hman hl)
            have hnl : ¬ x ≤ y := by omega
            clear hx hy hman hk0
            go_wp2_with fail
            refine (l1In_any x 0 ((n : Int) - 1) _).mono ?_
            rw [hin]
            rintro e w5 ⟨rfl, rfl⟩
            go_wp2
            go_round
            case rel => exact ⟨k + 1, by omega, by go_num, fun j hj => by
                          by_cases e : j = k
                          · subst e; exact Hch.out
                          · exact Hg.out j (by omega)⟩
            case measure => simp [intOf]; omega
          · have Hch := Lib.hid (isChoiceI_no hlt (choiceAt_stale (p := n) (by omega) hy hx hl))
            have hnl : x ≤ y := by omega
            clear hx hy hman hk0 hl
            go_wp2_with fail
            refine (l1In_any x 0 ((n : Int) - 1) _).mono ?_
            rw [hin]
            rintro e w5 ⟨rfl, rfl⟩
            go_wp2
            go_ret
            exact ⟨by rw [← Hr.out, Hch.out]; rfl, rfl⟩
      · have hin : l1InB x 0 ((n : Int) - 1) = false := decide_eq_false (by omega)
        have Hch := Lib.hid (isChoiceI_no hlt (choiceAt_bad hx hman))
        clear hx hman
        go_wp2_with fail
        refine (l1In_any x 0 ((n : Int) - 1) _).mono ?_
        rw [hin]
        rintro e w5 ⟨rfl, rfl⟩
        go_wp2
        go_ret
        exact ⟨by rw [← Hr.out, Hch.out]; rfl, rfl⟩
    · have hkl : k = q.length := by omega
      have hge : ¬ ((k : Int) < (q.length : Int)) := by omega
      have He := Lib.hid (isChoiceI_of (p := n) (q := q) fun i hi => Hg.out i (by omega))
      go_wp2
      go_ret
      exact ⟨by rw [← Hr.out, He.out]; rfl, rfl⟩
set_option maxHeartbeats 4000000 in
set_option maxRecDepth 100000 in
theorem grIs_any (n : Nat) (l : PL) (A : Option Addr) (c : Nat) (G : Nat → Nat) (B0 : Nat) (q : List Int) (B : Option Addr) (d : Nat) (w : World) (hn : n ≤ 12) (tab : TabG w B0 (.slice A n c) n n G (adj l))
    (hc : isChoiceI n q = true) (hq : q.length ≤ 1048576) (hd : q.length ≤ d) (hB : CRead w w.heap.size B (icells q)) :
    Calls Tryd.prog 66 #[.slice A n c, .slice B q.length d] w fun e w' => e = .returned (.bool (isGroupI n l q)) ∧ w = w' := by
  have hmem := isChoiceI_mem hc
  obtain ⟨r, hr⟩ : ∃ r, isGroupI n l q = r := ⟨_, rfl⟩
  rw [hr]
  have Hr := Lib.hid hr
  have Hc := Lib.hid hc
  have Hmem := Lib.hid hmem
  clear hr hc hmem
  go_enter Tryd.func66, Tryd.ntmps66
  go_wp2
  go_loopw [11] (fun i wr => ∃ k : Nat, k ≤ q.length ∧ i = .int .i64 k ∧ w = wr ∧ ∀ j, j < k → groupAt n l q j = true) (fun i _ => q.length - (intOf i).toNat)
  case atStart => exact ⟨0, Nat.zero_le _, rfl, rfl, fun j hj => by omega⟩
  case round =>
    obtain ⟨k, hk, rfl, rfl, hg⟩ := hrel
    have Hg := Lib.hid hg
    clear hg
    by_cases hlt : k < q.length
    · obtain ⟨x, hx⟩ := getSome q k hlt
      have hx0 := Hmem.out x (List.mem_of_getElem? hx)
      obtain ⟨a, rfl⟩ : ∃ a : Nat, x = a := ⟨x.toNat, by omega⟩
      obtain ⟨b, off, rfl, hbb, u0⟩ := hB.int hx
      obtain ⟨g, rfl⟩ := own_form tab.own (by omega)
      have han : a < n := by omega
      have hai : (a : Int) < n := by omega
      have d0 := tab.outer han
      have hki : (k : Int) < (q.length : Int) := by omega
      have hkd : (k : Int) ≤ (d : Int) := by omega
      have hkd2 : k ≤ d := by omega
      have Hx := Lib.hid hx
      clear hx
      go_wp2
      go_loopw [20] (fun i wi => ∃ j : Nat, j ≤ k ∧ i = .int .i64 j ∧ w = wi ∧ ∀ (j' : Nat) (y : Int), j' < j → q[j']? = some y → adj l a y.toNat = true) (fun i _ => k - (intOf i).toNat)
      case atStart => exact ⟨0, Nat.zero_le _, rfl, rfl, fun j y hj => by omega⟩
      case round =>
        obtain ⟨j, hj, rfl, rfl, hall⟩ := hrel
        have Hall := Lib.hid hall
        clear hall
        by_cases hjt : j < k
        · obtain ⟨y, hy⟩ := getSome q j (by omega)
          have hy0 := Hmem.out y (List.mem_of_getElem? hy)
          obtain ⟨b2, rfl⟩ : ∃ b2 : Nat, y = b2 := ⟨y.toNat, by omega⟩
          obtain ⟨b', off', e', _, u1⟩ := hB.int hy
          simp only [Option.some.injEq, Addr.mk.injEq, and_true] at e'
          obtain ⟨rfl, rfl⟩ := e'
          have hji : (j : Int) < (k : Int) := by omega
          have hbi : (b2 : Int) < n := by omega
          have d1 := tab.cell han (show b2 < n by omega)
          have Hy := Lib.hid hy
          clear hy
          cases ht : adj l a b2 with
          | false =>
            rw [ht] at d1
            have hf : isGroupI n l q = false := isGroupI_no hlt (by
              unfold groupAt knowsI
              rw [Bool.and_eq_false_iff]
              right
              rw [List.all_eq_false]
              refine ⟨(b2 : Int), List.mem_of_getElem? (i := j) (by rw [List.getElem?_take, if_pos hjt]; exact Hy.out), ?_⟩
              rw [getD_is Hx.out]
              simp [ht])
            have Hf := Lib.hid hf
            clear ht hf
            go_wp2
            go_ret
            exact ⟨by rw [← Hr.out, Hf.out]; rfl, rfl⟩
          | true =>
            rw [ht] at d1
            have Ht := Lib.hid ht
            clear ht
            go_wp2
            go_roundw
            case rel =>
              refine ⟨j + 1, by omega, by go_num, trivial, fun j' z hj' hz => ?_⟩
              by_cases hjk : j' = j
              · subst hjk
                rw [Hy.out] at hz
                simp only [Option.some.injEq] at hz
                subst hz
                exact Ht.out
              · exact Hall.out j' z (by omega) hz
            case measure => simp [intOf]; omega
        · have hje : j = k := by omega
          subst hje
          have hge : ¬ ((j : Int) < (j : Int)) := by omega
          have hga : groupAt n l q j = true := by
            unfold groupAt knowsI
            rw [isChoiceI_good Hc.out hlt, Bool.true_and, List.all_eq_true]
            intro y hy
            obtain ⟨i, hi, e⟩ := List.getElem_of_mem hy
            rw [List.length_take] at hi
            rw [List.getElem_take] at e
            rw [getD_is Hx.out]
            exact Hall.out i y (by omega) (by rw [List.getElem?_eq_getElem (by omega), e])
          have Hga := Lib.hid hga
          clear hga
          go_wp2
          go_roundw
          case rel =>
            refine ⟨j + 1, by omega, by go_num, trivial, fun i hi => ?_⟩
            by_cases e : i = j
            · subst e; exact Hga.out
            · exact Hg.out i (by omega)
          case measure => simp [intOf]; omega
    · have hkl : k = q.length := by omega
      have hge : ¬ ((k : Int) < (q.length : Int)) := by omega
      have He := Lib.hid (isGroupI_of (p := n) (l := l) (q := q) fun i hi => Hg.out i (by omega))
      go_wp2
      go_ret
      exact ⟨by rw [← Hr.out, He.out]; rfl, rfl⟩
set_option maxHeartbeats 4000000 in
set_option maxRecDepth 100000 in
theorem grGroup_any (p : Int) (l : PL) (A : Option Addr) (c : Nat) (q : List Int) (B : Option Addr) (d : Nat) (w : World) (hl : l.length ≤ 1048576) (hA : CRead w w.heap.size A (pcells l)) (hq : q.length ≤ 1048576) (hB : CRead w w.heap.size B (icells q)) (hd : q.length ≤ d) :
    Calls Tryd.prog 36 #[.agg #[.int .i64 p, .slice A l.length c], .slice B q.length d] w fun e w' => e = .returned (.bool (isP p l && isGroupI p l q)) ∧ Below w.heap.size w w' := by
  have RA : CRead (w.alloc (Obj.cells #[.int .i64 p, .slice A l.length c] 31)) (w.alloc (Obj.cells #[.int .i64 p, .slice A l.length c] 31)).heap.size A (pcells l) := (hA.below (B' := w.heap.size) (by go_grown) (Nat.le_refl _)).more (by go_size)
  cases hp : isP p l with
  | false =>
    have Hp := Lib.hid hp
    clear hp
    go_enter Tryd.func36, Tryd.ntmps36
    go_wp2_with fail
    refine (paGood_any _ _ _ _ _ hl RA).mono ?_
    rw [Hp.out]
    rintro e w2 ⟨rfl, hb2⟩
    simp only [World.size_alloc] at hb2
    go_wp2
    go_ret
    exact ⟨rfl, Below.trans (b := _) (by go_grown) (hb2.mono (by omega))⟩
  | true =>
    have hn := isP_range hp
    obtain ⟨n, rfl⟩ : ∃ n : Nat, p = n := ⟨p.toNat, by omega⟩
    have hn12 : n ≤ 12 := by omega
    have Hp := Lib.hid hp
    clear hp
    cases hc : isChoiceI n q with
    | false =>
      have hg : isGroupI n l q = false := groups_not hc
      rw [hg]
      have Hc := Lib.hid hc
      clear hc hg
      go_enter Tryd.func36, Tryd.ntmps36
      go_wp2_with fail
      refine (paGood_any _ _ _ _ _ hl RA).mono ?_
      rw [Hp.out]
      rintro e w2 ⟨rfl, hb2⟩
      simp only [World.size_alloc] at hb2
      have a0 : w2.cell? ⟨w.heap.size, 0, none⟩ = some (.int .i64 n) := carry hb2 (by simp) (by omega)
      have k2 : Below w.heap.size w w2 := Below.trans (b := _) (by go_grown) (hb2.mono (by omega))
      go_wp2_with fail
      refine (l1Rising_any n q B d _ hq ((hB.below k2 (Nat.le_refl _)).more k2.size)).mono ?_
      rw [Hc.out]
      rintro e w3 ⟨rfl, rfl⟩
      go_wp2
      go_ret
      exact ⟨rfl, k2⟩
    | true =>
      have Hc := Lib.hid hc
      clear hc
      obtain ⟨r, hr⟩ : ∃ r, isGroupI n l q = r := ⟨_, rfl⟩
      rw [hr]
      have Hr := Lib.hid hr
      clear hr
      go_enter Tryd.func36, Tryd.ntmps36
      go_wp2_with fail
      refine (paGood_any _ _ _ _ _ hl RA).mono ?_
      rw [Hp.out]
      rintro e w2 ⟨rfl, hb2⟩
      simp only [World.size_alloc] at hb2
      have a0 : w2.cell? ⟨w.heap.size, 0, none⟩ = some (.int .i64 n) := carry hb2 (by simp) (by omega)
      have a1 : w2.cell? ⟨w.heap.size, 1, none⟩ = some (.slice A l.length c) := carry hb2 (by simp) (by omega)
      have k2 : Below w.heap.size w w2 := Below.trans (b := _) (by go_grown) (hb2.mono (by omega))
      go_wp2_with fail
      refine (l1Rising_any n q B d _ hq ((hB.below k2 (Nat.le_refl _)).more k2.size)).mono ?_
      rw [Hc.out]
      rintro e w3 ⟨rfl, rfl⟩
      go_wp2_with fail
      refine (paTable_any _ _ _ _ _ Hp.out ((hA.below k2 (Nat.le_refl _)).more k2.size)).mono ?_
      rintro e w4 ⟨A4, c4, G, rfl, tab, hb4⟩
      simp only [Int.toNat_natCast] at tab ⊢
      have k4 := k2.trans (hb4.mono k2.size)
      have g := grIs_any n l A4 c4 G _ q B d w4 hn12 tab Hc.out hq hd ((hB.below k4 (Nat.le_refl _)).more k4.size)
      rw [Hr.out] at g
      have Gg := Lib.hid g
      clear g
      go_wp2_with fail
      refine Gg.out.mono ?_
      rintro e w5 ⟨rfl, rfl⟩
      go_wp2
      go_ret
      exact ⟨rfl, k4⟩
set_option maxHeartbeats 4000000 in
set_option maxRecDepth 100000 in
theorem l1Own_row (q : List Int) (A : Option Addr) (c : Nat) (w : World) (hq : q.length ≤ 1048576) (hA : CRead w w.heap.size A (icells q)) (h0 : A = none → c = 0) :
    Calls Tryd.prog 38 #[.slice A q.length c] w fun e w' => ∃ A' c', e = .returned (.slice A' q.length c') ∧ w'.ownsRow w.heap.size 3 1 (.slice A' q.length c') q.length (icells q) ∧ Below w.heap.size w w' := by
  by_cases hz : q = []
  · cases A with
    | none => exact l1Own_all q none c w hq hA fun _ => ⟨rfl, h0 rfl⟩
    | some ad =>
      subst hz
      obtain ⟨i0, hi, hz0, hz1, hz2⟩ := info_parts Tryd.infoInt
      have h1 : (w.alloc (.cells #[] 3)).ownsRow w.heap.size 3 1 (.slice (some ⟨w.heap.size, 0, none⟩) 0 0) 0 [] := World.ownsRow_made w #[] 0 (Nat.le_refl _) (Nat.zero_le _) rfl
      go_enter Tryd.func38, Tryd.ntmps38
      go_wp2_with (at_builtin; refine wpList_append_own _ rfl _ _ 25 rfl w.heap.size 3 i0 _ 1 8 Tryd.underlying25 hi hz0 hz1 hz2 rfl (by decide) (.slice (some ⟨w.heap.size, 0, none⟩) 0 0) 0 [] rfl h1 ad 0 c [] rfl rfl (fun j u hj => by simp at hj) (by simp) (by unfold maxLen; omega) (by omega) (by simp) ?_; intro v1 w1 own1 gr1 _; have k1 : Below w.heap.size w w1 := ((Below.refl _ w).alloc (Nat.le_refl _) _).grown gr1 (by simp) (by intro m hm; simp [Value.ownBlock] at hm; omega); obtain ⟨A1, c1, rfl, _⟩ := own_shape own1)
      go_ret
      exact ⟨A1, c1, rfl, own1, k1⟩
  · exact l1Own_all q A c w hq hA fun e => absurd e hz
set_option maxHeartbeats 4000000 in
set_option maxRecDepth 100000 in
theorem specGrowGroup_any (p : Int) (l : PL) (A : Option Addr) (c : Nat) (q : List Int) (B : Option Addr) (d : Nat) (w : World) (hl : l.length ≤ 1048576) (hA : CRead w w.heap.size A (pcells l)) (hq : q.length ≤ 1048576) (hB : CRead w w.heap.size B (icells q)) (hd : q.length ≤ d) (hz : B = none → d = 0) :
    Calls Tryd.prog 11 #[.agg #[.int .i64 p, .slice A l.length c], .slice B q.length d] w (GotIntsOk w (resGrowGroup p l q).1 (resGrowGroup p l q).2) := by
  have RA : CRead (w.alloc (Obj.cells #[.int .i64 p, .slice A l.length c] 31)) (w.alloc (Obj.cells #[.int .i64 p, .slice A l.length c] 31)).heap.size A (pcells l) := (hA.below (B' := w.heap.size) (by go_grown) (Nat.le_refl _)).more (by go_size)
  have RB : CRead (w.alloc (Obj.cells #[.int .i64 p, .slice A l.length c] 31)) (w.alloc (Obj.cells #[.int .i64 p, .slice A l.length c] 31)).heap.size B (icells q) := (hB.below (B' := w.heap.size) (by go_grown) (Nat.le_refl _)).more (by go_size)
  cases hg : (isP p l && isGroupI p l q) with
  | false =>
    have e : resGrowGroup p l q = ([], false) := by simp [resGrowGroup, hg]
    rw [e]
    have Hg := Lib.hid hg
    clear hg e
    go_enter Tryd.func11, Tryd.ntmps11
    go_wp2_with fail
    refine (grGroup_any _ _ _ _ _ _ _ _ hl RA hq RB hd).mono ?_
    rw [Hg.out]
    rintro e w2 ⟨rfl, hb2⟩
    simp only [World.size_alloc] at hb2
    go_wp2
    go_ret2
    exact ⟨none, 0, rfl, World.ownsRow_nil _ _ _ _, Below.trans (b := _) (by go_grown) (hb2.mono (by omega))⟩
  | true =>
    have hg2 := hg
    rw [Bool.and_eq_true] at hg2
    obtain ⟨hp, hgr⟩ := hg2
    have hn := isP_range hp
    obtain ⟨n, rfl⟩ : ∃ n : Nat, p = n := ⟨p.toNat, by omega⟩
    have hn12 : n ≤ 12 := by omega
    have hup := group_up hgr
    rw [Int.toNat_natCast] at hup
    have hself := adj_self hp
    have hups := growI_up hself hup
    have e : resGrowGroup n l q = (growI (adj l) q n, true) := by simp [resGrowGroup, hg]
    rw [e]
    have hshort := hup.short
    have Hp := Lib.hid hp
    have Hg := Lib.hid hg
    have Hups := Lib.hid hups
    have Hself := Lib.hid hself
    clear hp hg e hgr hups hup hself
    go_enter Tryd.func11, Tryd.ntmps11
    go_wp2_with fail
    refine (grGroup_any _ _ _ _ _ _ _ _ hl RA hq RB hd).mono ?_
    rw [Hg.out]
    rintro e w2 ⟨rfl, hb2⟩
    simp only [World.size_alloc] at hb2
    have a0 : w2.cell? ⟨w.heap.size, 0, none⟩ = some (.int .i64 n) := carry hb2 (by simp) (by omega)
    have a1 : w2.cell? ⟨w.heap.size, 1, none⟩ = some (.slice A l.length c) := carry hb2 (by simp) (by omega)
    have k2 : Below w.heap.size w w2 := Below.trans (b := _) (by go_grown) (hb2.mono (by omega))
    go_wp2_with fail
    refine (paTable_any _ _ _ _ _ Hp.out ((hA.below k2 (Nat.le_refl _)).more k2.size)).mono ?_
    rintro e w3 ⟨A3, c3, G, rfl, tab, hb3⟩
    simp only [Int.toNat_natCast] at tab ⊢
    have k3 := k2.trans (hb3.mono k2.size)
    go_wp2_with fail
    refine (l1Own_row q B d _ hq ((hB.below k3 (Nat.le_refl _)).more k3.size) hz).mono ?_
    rintro e w4 ⟨A4, c4, rfl, own4, hb4⟩
    have k4 := k3.trans (hb4.mono k3.size)
    have tab4 := tab.below hb4 (Nat.le_refl _)
    have own4' := own_lower own4 k3.size
    have K4 := Lib.hid k4
    have Tab := Lib.hid tab4
    have Own4 := Lib.hid own4'
    clear a0 a1 hb2 hb3 hb4 tab own4 own4' tab4 k2 k3 k4
    go_wp2
    go_loopw [7, 19] (fun v i wr => ∃ (a : Nat) (A' : Option Addr) (c' m : Nat), a ≤ n ∧ i = .int .i64 a ∧ m = (growI (adj l) q a).length ∧ v = .slice A' m c' ∧ wr.ownsRow w.heap.size 3 1 (.slice A' m c') m (icells (growI (adj l) q a)) ∧ Below w4.heap.size w4 wr) (fun _ i _ => n - (intOf i).toNat)
    case atStart => exact ⟨0, A4, c4, q.length, Nat.zero_le _, by go_num, by rw [growI_zero], rfl, by rw [growI_zero]; exact Own4.out, Below.refl _ _⟩
    case round =>
      clear Own4
      obtain ⟨a, A', c', m, han, rfl, hm, rfl, own, hb⟩ := hrel
      have s0 := hb.size
      have hsh := (Hups.out a (by omega)).short
      by_cases hlt : a < n
      · have hai : (a : Int) < n := by omega
        have hnx := growI_succ (adj l) q a
        obtain ⟨o, ho⟩ : ∃ o, growI (adj l) q a = o := ⟨_, rfl⟩
        have hupo := Hups.out a (by omega)
        rw [ho] at hm own hsh hupo hnx
        subst hm
        have Hnx := Lib.hid hnx
        have Own := Lib.hid own
        have Hb := Lib.hid hb
        have Hupo := Lib.hid hupo
        clear hnx own hb hupo ho
        go_wp2_with fail
        refine (l1Has_any o (a : Int) A' c' _ (by omega) (CRead.of_own Own.out)).mono ?_
        rintro e w5 ⟨rfl, rfl⟩
        have hj := fun (hB : CRead wr wr.heap.size A' (icells o)) => grJoins_any n a (adj l) A3 c3 G _ o A' c' wr hn12 hlt (Tab.out.below Hb.out (Nat.le_refl _)) Hupo.out.lt (by omega) hB
        have Hj := Lib.hid hj
        clear hj
        cases hh : hasI o (a : Int) with
        | true =>
          have hkn : knowsL (adj l) o a = false := by
            cases e : knowsL (adj l) o a with
            | false => rfl
            | true => exact absurd (hasI_mem.1 hh) (knowsL_self Hself.out e)
          have Hst := Lib.hid (show growI (adj l) q (a + 1) = o by rw [Hnx.out]; unfold growS; rw [hkn]; rfl)
          clear hh hkn
          go_wp2
          go_roundw
          case rel => exact ⟨a + 1, A', c', o.length, by omega, by go_num, by rw [Hst.out], rfl, by rw [Hst.out]; exact Own.out, Hb.out⟩
          case measure => simp [intOf]; omega
        | false =>
          have hnm : (a : Int) ∉ o := fun hm => by rw [hasI_mem.2 hm] at hh; cases hh
          have Hnm := Lib.hid hnm
          clear hh hnm
          go_wp2_with fail
          refine (Hj.out (CRead.of_own Own.out)).mono ?_
          cases hkn : (o.all fun y => adj l a y.toNat) with
          | false =>
            have Hst := Lib.hid (show growI (adj l) q (a + 1) = o by rw [Hnx.out]; unfold growS knowsL; rw [hkn]; rfl)
            clear hkn
            rintro e w6 ⟨rfl, rfl⟩
            go_wp2
            go_roundw
            case rel => exact ⟨a + 1, A', c', o.length, by omega, by go_num, by rw [Hst.out], rfl, by rw [Hst.out]; exact Own.out, Hb.out⟩
            case measure => simp [intOf]; omega
          | true =>
            have Hst := Lib.hid (show growI (adj l) q (a + 1) = putI o (a : Int) by rw [Hnx.out]; unfold growS knowsL; rw [hkn]; rfl)
            have Hln := Lib.hid (putI_length o (a : Int))
            clear hkn
            rintro e w6 ⟨rfl, rfl⟩
            rcases own_none Own.out with ⟨rfl, hm0, rfl⟩ | ⟨g, rfl⟩
            · have ho0 : o = [] := List.length_eq_zero_iff.1 hm0
              have call := l1Put_nil (a : Int) wr
              rw [show ([(a : Int)] : List Int) = putI o (a : Int) by rw [ho0]; rfl] at call
              have Call := Lib.hid call
              have Hm0 := Lib.hid hm0
              clear call ho0
              rw [hm0]
              clear hm0
              go_wp2_with fail
              refine Call.out.mono ?_
              rintro e w7 ⟨A7, c7, rfl, own7, hb7⟩
              have own7' := own_lower own7 (show w.heap.size ≤ wr.heap.size by have := K4.out.size; omega)
              have b7 := Hb.out.trans (hb7.mono s0)
              clear own7
              go_wp2
              go_roundw
              case rel => exact ⟨a + 1, A7, c7, 1, by omega, by go_num, by rw [Hst.out, Hln.out, Hm0.out], rfl, by rw [Hst.out]; exact own7', b7⟩
              case measure => simp [intOf]; omega
            · have call := l1Put_any o (a : Int) g c' wr (by omega) (own_cap Own.out) Hnm.out (CRead.of_own Own.out) (own_lt Own.out).2
              have Call := Lib.hid call
              clear call
              go_wp2_with fail
              refine Call.out.mono ?_
              rintro e w7 ⟨A7, c7, rfl, own7, hb7⟩
              have own7' := own_lower own7 (show w.heap.size ≤ wr.heap.size by have := K4.out.size; omega)
              have b7 := Hb.out.trans (hb7.mono s0)
              clear own7
              go_wp2
              go_roundw
              case rel => exact ⟨a + 1, A7, c7, o.length + 1, by omega, by go_num, by rw [Hst.out, Hln.out], rfl, by rw [Hst.out]; exact own7', b7⟩
              case measure => simp [intOf]; omega
      · have hae : a = n := by omega
        subst hae
        have hge : ¬ ((a : Int) < a) := by omega
        have kk := K4.out.trans (hb.mono K4.out.size)
        have Own := Lib.hid own
        clear own hb
        subst hm
        go_wp2
        go_ret2
        exact ⟨A', c', rfl, Own.out, kk⟩
end Go.Proofs.YtnpljmipicjacaaDoor
/-
  A RANGE OVER AN ITERATOR, its body told besides that the loop's own two blocks lie below what it makes; the loop's variable assigned. Nothing here speaks of the program.
-/
namespace Go.Proofs.YtnpljmipicjacaaDoor
open Go.RowKit

variable {P : Program}
theorem wpIn_rangeFunc_iterG {α : Type} {n : Nat} {g : Operand} {ps : Array Tmp} {assign body : Code} {Q : Exit → Act → World → Prop} {a : Act} {w : World}
    {gf : Nat} {lb : Array Value} (hg : a.eval g = .func (.func gf) #[] lb) (eg : ∀ args w, (callFunc gf args).run P w = .ok (.enter gf args) w)
    {R : Nat → Prop} {Rd : (Nat → Prop) → α → Array Value → World → Prop} {xs : List α} {w0 : World} (hseq : Seq P gf lb R Rd xs w0) (hb0 : Below w0.heap.size w0 w) (hR : ∀ j, R j → j < w.heap.size)
    (hRd : ∀ T x args A C, Rd T x args A → Stays T A C → Rd T x args C) (hps : ∀ T x args W, Rd T x args W → args.size = ps.size)
    (I : (Nat → Prop) → List α → World → Prop) (Ix : Code → List α → World → Prop) (hI : Held I) (hIx : ∀ c pre A C, Ix c pre A → Apart (fun j => j = w.heap.size + 1) A C → Ix c pre C)
    (h0 : I (fun _ => False) [] w) (a₁ : Array Value → Act)
    (hassign : ∀ (l : Nat) (T : Nat → Prop) (x : α) (args : Array Value) (W : World) (K : Act → World → Prop), Rd T x args W → K (a₁ args) W →
      assign.wpIn (Fence.wide.inRound l) n P (Exit.then K (fun _ _ _ => False)) { tmps := (ps.zip args).foldl (fun t (p, v) => t.setIfInBounds p v) a.tmps, defers := [] } W)
    (hbody : ∀ (l : Nat) (T S : Nat → Prop) (pre : List α) (x : α) (args : Array Value) (W : World), I S pre W → Rd T x args W → (∀ j, T j → S j) → w.heap.size + 2 ≤ W.heap.size → (∀ j, T j → j < w.heap.size ∨ w.heap.size + 2 ≤ j) →
      body.wpIn (Fence.wide.inRound l) n P (iterPost w.heap.size S R I Ix (pre ++ [x]) W) (a₁ args) W)
    (hdone : ∀ (S : Nat → Prop) (W : World), I S xs W → W.heap[w.heap.size]? = some (.deferred (some [])) → Q .normal { a with defers := { target := .collected w.heap.size, args := #[] } :: a.defers } W)
    (hstop : ∀ (c : Code) (pre : List α) (x : α) (W : World), pre ++ [x] <+: xs → Ix c (pre ++ [x]) W → W.heap[w.heap.size]? = some (.deferred (some [])) → c.wpIn Fence.wide n P Q { a with defers := { target := .collected w.heap.size, args := #[] } :: a.defers } W) :
    (Code.rangeFunc g ps assign body).wpIn Fence.wide n P Q a w := by
  refine wpIn_rangeFunc ?_
  intro fn hfn
  rw [show Fence.wide.round = none from rfl]
  obtain ⟨rec, hrec⟩ : ∃ rec : LoopState → Option Code → Loop, rec = fun st pe => { state := st, pending := pe, fn, tmps := a.tmps, params := ps, assign, body, defers := w.heap.size } := ⟨_, rfl⟩
  obtain ⟨W1, hW1⟩ : ∃ W1, (w.alloc (.deferred (some []))).alloc (.loop (rec .ready none)) = W1 := ⟨_, rfl⟩
  have hL1 : W1.heap[w.heap.size + 1]? = some (.loop (rec .ready none)) := by
    rw [← hW1]; have := World.alloc_heap_new (w.alloc (.deferred (some []))) (.loop (rec .ready none)); rwa [World.size_alloc] at this
  have hK1 : W1.heap[w.heap.size]? = some (.deferred (some [])) := by
    rw [← hW1]; exact (Below.heap_alloc _ _ _ (by simp)).trans (World.alloc_heap_new w _)
  have hw1 : Below w.heap.size w W1 := by rw [← hW1]; exact (((Below.refl _ w).alloc (Nat.le_refl _) _).alloc (by simp) _)
  have hb1 : Below w0.heap.size w0 W1 := hb0.trans (hw1.mono hb0.size)
  have hI1 : I (fun j => j = w.heap.size ∨ j = w.heap.size + 1) [] W1 := hI _ _ _ _ _ h0 (Apart.of_below hw1) (fun j hj => .inr (by omega))
  refine ⟨w.heap.size + 1, [{ target := .collected w.heap.size, args := #[] }], W1, { target := .fn (.func gf) lb, args := #[.func (.yield (w.heap.size + 1)) #[] #[]] }, W1, gf,
    #[.func (.yield (w.heap.size + 1)) #[] #[]] ++ lb, W1, ?_, ?_, ?_, ?_, fun h => (by cases h), ?_⟩
  · rw [← hW1, hrec]; exact run_enterLoop_outer _ _ _ _ _
  · simp only [resolve, hg]
    simp [go_sem]
  · intro f' hf'; trivial
  · simp [invoke, go_sem, eg]
  · refine callsIn_wide.2 ?_
    refine (hseq (w.heap.size + 1)
      (fun T pre W => I (fun j => T j ∨ j = w.heap.size ∨ j = w.heap.size + 1) pre W ∧ (∀ j, T j → w.heap.size + 2 ≤ j) ∧ W.heap[w.heap.size + 1]? = some (.loop (rec .ready none)) ∧ W.heap[w.heap.size]? = some (.deferred (some [])))
      (fun T pre W => ∃ c, Ix c pre W ∧ W.heap[w.heap.size + 1]? = some (.loop (rec .done (some c))) ∧ W.heap[w.heap.size]? = some (.deferred (some [])))
      W1 hb1 ?held ?round ⟨hI _ _ _ _ _ hI1 (Apart.refl _ _) (fun j hj => by rcases hj with h | h; exact h.elim; exact .inl h), fun j h => h.elim, hL1, hK1⟩).mono ?_
    case held =>
      rintro T T' pre A C ⟨hi, hT, hl, hk⟩ hA hT'
      have hlt : w.heap.size + 1 < A.heap.size := (Array.getElem?_eq_some_iff.1 hl).1
      refine ⟨hI _ _ _ _ _ hi (hA.mono fun j hj => .inl hj) (fun j hj => ?_), fun j hj => ?_, (hA.same _ hlt (fun h => by have := hT _ h; omega)).trans hl, (hA.same _ (by omega) (fun h => by have := hT _ h; omega)).trans hk⟩
      · rcases hj with hj | hj
        · rcases hT' j hj with h | h
          · exact .inl (.inl h)
          · exact .inr h
        · exact .inl (.inr hj)
      · rcases hT' j hj with h | h
        · exact hT j h
        · omega
    case round =>
      rintro T pre x args W ⟨hi, hT, hl, hk⟩ hrd
      have hlt : w.heap.size + 1 < W.heap.size := (Array.getElem?_eq_some_iff.1 hl).1
      have hnT : ¬ T (w.heap.size + 1) := fun h => by have := hT _ h; omega
      have hnR : ¬ (T (w.heap.size + 1) ∨ R (w.heap.size + 1)) := fun h => by rcases h with h | h; exact hnT h; have := hR _ h; omega
      have hy := run_yield (P := P) (args := args) hl (by rw [hrec]; exact hps T x args W hrd)
      rw [hrec] at hy
      refine yield_any (m := n + 1) ⟨fn, _, assign, body, hy, roundIn_any (m := n) (roundIn_of_wpIn hfn (hassign _ T x args W _ hrd ⟨_, run_beginRound hl (by rw [hrec]), ?_⟩))⟩
      have hl2 : (W.putObj (w.heap.size + 1) (.loop { rec .ready none with state := .busy })).heap[w.heap.size + 1]? = some (.loop { rec .ready none with state := .busy }) := World.putObj_heap_same hlt
      have hk2 : (W.putObj (w.heap.size + 1) (.loop { rec .ready none with state := .busy })).heap[w.heap.size]? = some (.deferred (some [])) := (World.putObj_heap_other (by omega)).trans hk
      have hi2 := hI _ _ _ _ _ hi ((Apart.putObj W (w.heap.size + 1) (.loop { rec .ready none with state := .busy })).mono fun j hj => .inr (.inr hj)) (fun j hj => .inl hj)
      have hst := Stays.putObj (S := fun j => T j ∨ R j) hnR W (.loop { rec .ready none with state := .busy })
      have hlz := (Array.getElem?_eq_some_iff.1 hl2).1
      have hkz := (Array.getElem?_eq_some_iff.1 hk2).1
      refine wpIn_mono (hbody _ T _ pre x args _ hi2 (hRd _ _ _ _ _ hrd (hst.mono fun j hj => .inl hj)) (fun j hj => .inl hj) hlz fun j hj => .inr (hT j hj)) ?_
      have fin : ∀ (jump : Option Code) (W3 : World), W3.heap[w.heap.size + 1]? = some (.loop { rec .ready none with state := .busy }) → W3.heap[w.heap.size]? = some (.deferred (some [])) →
          (Instr.endRound (w.heap.size + 1) jump).run P W3 = .ok (.bool jump.isNone) (W3.putObj (w.heap.size + 1) (.loop (rec (if jump.isNone then .ready else .done) jump))) ∧
          (W3.putObj (w.heap.size + 1) (.loop (rec (if jump.isNone then .ready else .done) jump))).heap[w.heap.size + 1]? = some (.loop (rec (if jump.isNone then .ready else .done) jump)) ∧
          (W3.putObj (w.heap.size + 1) (.loop (rec (if jump.isNone then .ready else .done) jump))).heap[w.heap.size]? = some (.deferred (some [])) := fun jump W3 hl3 hk3 => by
        have := run_endRound (P := P) jump hl3
        rw [hrec] at this ⊢
        exact ⟨this, World.putObj_heap_same (Array.getElem?_eq_some_iff.1 hl3).1, (World.putObj_heap_other (by omega)).trans hk3⟩
      rintro e a3 W3 hp
      cases e with
      | normal =>
        obtain ⟨hs3, hi3⟩ := hp
        have hl3 := (hs3.same (w.heap.size + 1) hlz (.inl (.inr (.inr rfl)))).trans hl2
        have hk3 := (hs3.same w.heap.size hkz (.inl (.inr (.inl rfl)))).trans hk2
        obtain ⟨hr, hl4, hk4⟩ := fin none W3 hl3 hk3
        refine ⟨_, _, hr, .inl ⟨rfl, ⟨hI _ _ _ _ _ hi3 ((Apart.putObj W3 _ _).mono fun j hj => .inr (.inr hj)) (fun j hj => .inl hj), hT, hl4, hk4⟩, ?_⟩⟩
        exact (hst.trans (hs3.mono fun j hj => hj.elim (fun h => .inl (.inl h)) .inr)).trans (Stays.putObj (S := fun j => T j ∨ R j) hnR W3 _)
      | ret =>
        obtain ⟨hs3, hi3⟩ := hp
        obtain ⟨hr, hl4, hk4⟩ := fin (some .ret) W3 ((hs3.same (w.heap.size + 1) hlz (by omega)).trans hl2) ((hs3.same w.heap.size hkz (by omega)).trans hk2)
        exact ⟨_, _, hr, .inr ⟨rfl, .ret, hIx _ _ _ _ hi3 (Apart.putObj W3 _ _), hl4, hk4⟩⟩
      | exit id =>
        obtain ⟨hs3, hi3⟩ := hp
        obtain ⟨hr, hl4, hk4⟩ := fin (some (.exit id)) W3 ((hs3.same (w.heap.size + 1) hlz (by omega)).trans hl2) ((hs3.same w.heap.size hkz (by omega)).trans hk2)
        exact ⟨_, _, hr, .inr ⟨rfl, .exit id, hIx _ _ _ _ hi3 (Apart.putObj W3 _ _), hl4, hk4⟩⟩
      | goto t =>
        obtain ⟨hs3, hi3⟩ := hp
        obtain ⟨hr, hl4, hk4⟩ := fin (some (.goto t)) W3 ((hs3.same (w.heap.size + 1) hlz (by omega)).trans hl2) ((hs3.same w.heap.size hkz (by omega)).trans hk2)
        exact ⟨_, _, hr, .inr ⟨rfl, .goto t, hIx _ _ _ _ hi3 (Apart.putObj W3 _ _), hl4, hk4⟩⟩
      | panic ch => exact hp.elim
      | outgrown => exact hp.elim
    · rintro e W2 ⟨⟨v, rfl⟩, (⟨T, hi, hT, hl, hk⟩ | ⟨T, pre, x, hpre, c, hi, hl, hk⟩)⟩
      · exact ⟨none, _, by have := run_endLoop (P := P) hl (by rw [hrec]; simp); rw [hrec] at this; exact this, hdone _ _ (hI _ _ _ _ _ hi ((Apart.putObj W2 _ _).mono fun j hj => .inr (.inr hj)) (fun j hj => .inl hj)) ((World.putObj_heap_other (by omega)).trans hk)⟩
      · exact ⟨some c, _, by have := run_endLoop (P := P) hl (by rw [hrec]; simp); rw [hrec] at this; exact this, hstop c pre x _ hpre (hIx _ _ _ _ hi (Apart.putObj W2 _ _)) ((World.putObj_heap_other (by omega)).trans hk)⟩

/-- A range over an iterator of one value; its variable is assigned ahead of the body. -/
theorem wp_rangeFunc_asg {P : Program} {α : Type} {g : Operand} {p : Tmp} {assign body : Code} {Q : Exit → Act → World → Prop} {a : Act} {w : World} {gf : Nat} {lb : Array Value} (hg : a.eval g = .func (.func gf) #[] lb)
    (eg : ∀ args w, (callFunc gf args).run P w = .ok (.enter gf args) w) {R : Nat → Prop} {Rd : (Nat → Prop) → α → Array Value → World → Prop} {xs : List α} (hseq : Seq P gf lb R Rd xs w) (hR : ∀ j, R j → j < w.heap.size)
    (hRd : ∀ T x args A C, Rd T x args A → Stays T A C → Rd T x args C) (hps : ∀ T x args W, Rd T x args W → args.size = 1)
    (I : (Nat → Prop) → List α → World → Prop) (Ix : Code → List α → World → Prop) (hI : Held I) (hIx : ∀ c pre A C, Ix c pre A → Apart (fun j => j = w.heap.size + 1) A C → Ix c pre C) (h0 : I (fun _ => False) [] w)
    (a₁ : Value → Act)
    (hassign : ∀ (l : Nat) (v : Value) (W : World) (K : Act → World → Prop), K (a₁ v) W → assign.wpIn (Fence.wide.inRound l) 3 P (Exit.then K (fun _ _ _ => False)) { tmps := a.tmps.setIfInBounds p v, defers := [] } W)
    (hbody : ∀ (l : Nat) (T S : Nat → Prop) (pre : List α) (x : α) (v : Value) (W : World), I S pre W → Rd T x #[v] W → (∀ j, T j → S j) → w.heap.size + 2 ≤ W.heap.size → (∀ j, T j → j < w.heap.size ∨ w.heap.size + 2 ≤ j) →
      body.wpIn (Fence.wide.inRound l) 3 P (iterPost w.heap.size S R I Ix (pre ++ [x]) W) (a₁ v) W)
    (hdone : ∀ (S : Nat → Prop) (W : World), I S xs W → W.heap[w.heap.size]? = some (.deferred (some [])) → Q .normal { a with defers := { target := .collected w.heap.size, args := #[] } :: a.defers } W)
    (hstop : ∀ (c : Code) (pre : List α) (x : α) (W : World), pre ++ [x] <+: xs → Ix c (pre ++ [x]) W → W.heap[w.heap.size]? = some (.deferred (some [])) → c.wp P Q { a with defers := { target := .collected w.heap.size, args := #[] } :: a.defers } W) :
    (Code.rangeFunc g #[p] assign body).wp P Q a w := by
  refine (wpIn_wide (n := 3)).1 ?_
  have hone : ∀ args : Array Value, args.size = 1 → ∃ v, args = #[v] := fun args h => by
    obtain ⟨l⟩ := args
    match l, h with
    | [v], _ => exact ⟨v, rfl⟩
  refine wpIn_rangeFunc_iterG hg eg hseq (Below.refl _ _) hR hRd (fun T x args W h => hps T x args W h) I Ix hI hIx h0 (fun args => a₁ (args[0]?.getD undef)) ?_ ?_ hdone (fun c pre x W h1 h2 h3 => (wpIn_wide (n := 3)).2 (hstop c pre x W h1 h2 h3))
  · intro l T x args W K hrd hK
    obtain ⟨v, rfl⟩ := hone args (hps T x args W hrd)
    have e : (#[p].zip #[v]).foldl (fun (t : Array Value) (x : Tmp × Value) => t.setIfInBounds x.1 x.2) a.tmps = a.tmps.setIfInBounds p v := by simp
    have h := hassign l v W K hK
    rw [← e] at h
    exact h
  · intro l T S pre x args W hi hrd hTS hz hT
    obtain ⟨v, rfl⟩ := hone args (hps T x args W hrd)
    exact hbody l T S pre x v W hi hrd hTS hz hT
end Go.Proofs.YtnpljmipicjacaaDoor
/-
  'GreatestGroup', 'GreatestStrange': the model's and the program's, by their contracts. The program leaves a range over a function in a loop: every pass leaves a mark among the deferred calls.
-/
namespace Go.Proofs.YtnpljmipicjacaaDoor
open Go.RowKit Go.Shelf
attribute [local go_sem] Oper.semAt_some

/-- the first one of the lists of so many people, or of fewer -/
def firstG (t : Nat → Nat → Bool) (n : Nat) : Nat → List Int
  | 0 => []
  | s + 1 => match listsC t (s + 1) [] (List.range n) with | [] => firstG t n s | q :: _ => q
theorem firstG_none {t : Nat → Nat → Bool} {n s : Nat} (h : listsC t (s + 1) [] (List.range n) = []) : firstG t n (s + 1) = firstG t n s := by unfold firstG; rw [h]; cases s <;> rfl
theorem firstG_some {t : Nat → Nat → Bool} {n s : Nat} {q : List Int} {L : List (List Int)} (h : listsC t (s + 1) [] (List.range n) = q :: L) : firstG t n (s + 1) = q := by unfold firstG; rw [h]
theorem firstG_congr {t t' : Nat → Nat → Bool} {n : Nat} (h : ∀ k, listsC t k [] (List.range n) = listsC t' k [] (List.range n)) : ∀ s, firstG t n s = firstG t' n s := by
  intro s
  induction s with
  | zero => rfl
  | succ s ih =>
    unfold firstG
    rw [h, ih]
theorem firstG_len (t : Nat → Nat → Bool) (n : Nat) : ∀ s, (firstG t n s).length ≤ s := by
  intro s
  induction s with
  | zero => exact Nat.le_refl _
  | succ s ih =>
    cases e : listsC t (s + 1) [] (List.range n) with
    | nil => rw [firstG_none e]; omega
    | cons q L =>
      rw [firstG_some e]
      have := listsC_size t (s + 1) [] (List.range n) q (by rw [e]; simp)
      simp at this
      omega
def resGreatestGroup (p : Int) (l : PL) : List Int × Bool := if isP p l then (firstG (adj l) p.toNat p.toNat, true) else ([], false)
theorem resGreatestGroup_len (p : Int) (l : PL) : (resGreatestGroup p l).1.length ≤ 1048576 := by
  unfold resGreatestGroup
  split
  · rename_i h
    have h1 := isP_range h
    have h2 := firstG_len (adj l) p.toNat p.toNat
    simp only
    omega
  · simp
def resGreatestStrange (p : Int) (l : PL) : List Int × Bool := if isP p l then (firstG (strangeF p.toNat (adj l)) p.toNat p.toNat, true) else ([], false)
theorem resGreatestStrange_len (p : Int) (l : PL) : (resGreatestStrange p l).1.length ≤ 1048576 := by
  unfold resGreatestStrange
  split
  · rename_i h
    have h1 := isP_range h
    have h2 := firstG_len (strangeF p.toNat (adj l)) p.toNat p.toNat
    simp only
    omega
  · simp

/-! ## Marks among the deferred calls -/
def isMark (D : List Deferred) (j : Nat) : Prop := ∃ d ∈ D, d.target = .collected j
structure Marks (D : List Deferred) (W : World) : Prop where
  at_ : ∀ d ∈ D, ∃ b, d = { target := .collected b, args := #[] } ∧ W.heap[b]? = some (.deferred (some []))
  ne : D.Pairwise fun d e => d.target ≠ e.target
theorem Marks.nil (W : World) : Marks [] W := ⟨fun _ h => (by cases h), List.Pairwise.nil⟩
theorem Marks.block {D : List Deferred} {W : World} (h : Marks D W) {j : Nat} (hj : isMark D j) : W.heap[j]? = some (.deferred (some [])) := by
  obtain ⟨d, hd, ht⟩ := hj
  obtain ⟨b, rfl, hb⟩ := h.at_ d hd
  simp only [Target.collected.injEq] at ht
  subst ht
  exact hb
theorem Marks.below {D : List Deferred} {W W' : World} (h : Marks D W) (hb : Below W.heap.size W W') : Marks D W' := by
  refine ⟨fun d hd => ?_, h.ne⟩
  obtain ⟨b, e, hh⟩ := h.at_ d hd
  exact ⟨b, e, (hb.block b (Array.getElem?_eq_some_iff.1 hh).1).trans hh⟩
theorem Marks.same {D : List Deferred} {W W' : World} (h : Marks D W) (hs : ∀ j, isMark D j → W'.heap[j]? = W.heap[j]?) : Marks D W' := by
  refine ⟨fun d hd => ?_, h.ne⟩
  obtain ⟨b, e, hh⟩ := h.at_ d hd
  exact ⟨b, e, (hs b ⟨d, hd, by rw [e]⟩).trans hh⟩
theorem Marks.cons {D : List Deferred} {W : World} {b : Nat} (h : Marks D W) (hb : W.heap[b]? = some (.deferred (some []))) (hn : ∀ j, isMark D j → j ≠ b) : Marks ({ target := .collected b, args := #[] } :: D) W := by
  refine ⟨fun d hd => ?_, List.pairwise_cons.2 ⟨fun d hd e => ?_, h.ne⟩⟩
  · rcases List.mem_cons.1 hd with rfl | hd
    · exact ⟨b, rfl, hb⟩
    · exact h.at_ d hd
  · obtain ⟨b', rfl, _⟩ := h.at_ d hd
    simp only [Target.collected.injEq] at e
    exact hn b' ⟨_, hd, rfl⟩ e.symm
theorem leaves_marks {P : Program} {n : Nat} {fn : Func} {tmps : Array Value} {R : Ending → World → Prop} : ∀ (D : List Deferred) (W : World), Marks D W →
    (∀ W', Apart (isMark D) W W' → ∃ v, (results fn tmps).run P W' = .ok v W' ∧ R (.returned v) W') → LeavesInM Fence.wide n P fn tmps R D .returning W := by
  intro D
  induction D with
  | nil => exact fun W _ h => h W (Apart.refl _ _)
  | cons d ds ih =>
    intro W hm h
    obtain ⟨b, rfl, hb⟩ := hm.at_ d List.mem_cons_self
    have hne := (List.pairwise_cons.1 hm.ne).1
    refine ⟨by simp, .inl ⟨b, _, rfl, run_takeDeferred hb, ih _ ⟨fun e he => ?_, (List.pairwise_cons.1 hm.ne).2⟩ fun W' ha => h W' ?_⟩⟩
    · obtain ⟨b', rfl, hb'⟩ := hm.at_ e (List.mem_cons_of_mem _ he)
      have := hne _ he
      simp only [ne_eq, Target.collected.injEq] at this
      exact ⟨b', rfl, (World.putObj_heap_other fun e => this e.symm).trans hb'⟩
    · refine ((Apart.putObj W b _).mono fun j hj => ?_).trans ha fun j hj => .inl ?_
      · exact ⟨_, List.mem_cons_self, by rw [hj]⟩
      · obtain ⟨d, hd, ht⟩ := hj
        exact ⟨d, List.mem_cons_of_mem _ hd, ht⟩
theorem own_at {w w' : World} {B : Nat} {e : TypeId} {s n : Nat} {v : Value} {xs : List Value} (h : w.ownsRow B e s v n xs) (hs : ∀ (k : Nat) (c : Array Value) (t : TypeId) (f : Nat × Nat), w.heap[k]? = some (.cells c t f) → w'.heap[k]? = w.heap[k]?) : w'.ownsRow B e s v n xs := by
  obtain ⟨h1, h2⟩ := h
  rcases h2 with ⟨hv, h0⟩ | ⟨g, cap, cur, hv, hb, hg, hrest⟩
  · exact ⟨h1, .inl ⟨hv, h0⟩⟩
  · exact ⟨h1, .inr ⟨g, cap, cur, hv, hb, (hs g _ _ _ hg).trans hg, hrest⟩⟩
theorem Marks.rows {D : List Deferred} {W W' : World} (h : Marks D W) (ha : Apart (isMark D) W W') (k : Nat) (c : Array Value) (t : TypeId) (f : Nat × Nat) (hk : W.heap[k]? = some (.cells c t f)) : W'.heap[k]? = W.heap[k]? := by
  refine ha.same k (Array.getElem?_eq_some_iff.1 hk).1 fun hm => ?_
  rw [h.block hm] at hk
  cases hk

set_option maxHeartbeats 4000000 in
set_option maxRecDepth 100000 in
theorem trGreatest_any (n : Nat) (l : PL) (A : Option Addr) (c : Nat) (w : World) (hp : isP n l = true) (hA : CRead w w.heap.size A (pcells l)) :
    Calls Tryd.prog 60 #[.agg #[.int .i64 n, .slice A l.length c]] w fun e w' => ∃ A' c', e = .returned (.slice A' (firstG (adj l) n n).length c') ∧ w'.ownsRow w.heap.size 3 1 (.slice A' (firstG (adj l) n n).length c') (firstG (adj l) n n).length (icells (firstG (adj l) n n)) ∧ Below w.heap.size w w' := by
  have hn := isP_range hp
  have Hp := Lib.hid hp
  clear hp
  have hstep := fun s L q (h : listsC (adj l) (s + 1) [] (List.range n) = q :: L) => firstG_some h
  have hno := fun s (h : listsC (adj l) (s + 1) [] (List.range n) = []) => firstG_none h
  have hsz := fun k l3 h3 => listsC_size (adj l) k [] (List.range n) l3 h3
  obtain ⟨F, hF⟩ : ∃ F, firstG (adj l) n = F := ⟨_, rfl⟩
  have hF0 : F 0 = [] := by rw [← hF]; rfl
  simp only [hF] at hstep hno ⊢
  obtain ⟨R, hR⟩ : ∃ R, F n = R := ⟨_, rfl⟩
  rw [hR]
  have Hstep := Lib.hid hstep
  have Hno := Lib.hid hno
  have Hsz := Lib.hid hsz
  have HF0 := Lib.hid hF0
  have HR := Lib.hid hR
  clear hstep hno hsz hF hF0 hR
  go_enter Tryd.func60, Tryd.ntmps60
  go_wp2_with fail
  refine (paTable_any _ _ _ _ _ Hp.out ((hA.below (B' := w.heap.size) (by go_grown) (Nat.le_refl _)).more (by go_size))).mono ?_
  simp only [Int.toNat_natCast]
  rintro e w1 ⟨A1, k1, G, rfl, tab1, hb1⟩
  simp only [World.size_alloc] at hb1 tab1
  have s1 := hb1.size
  simp only [World.size_alloc] at s1
  have kw : Below w.heap.size w w1 := Below.trans (b := _) (by go_grown) (hb1.mono (by omega))
  have c0 : w1.cell? ⟨w.heap.size, 0, none⟩ = some (.int .i64 n) := carry hb1 (by simp) (by omega)
  have Tab := Lib.hid tab1
  have Kw := Lib.hid kw
  clear tab1 kw hb1 hA
  go_wp2
  clear c0
  go_loopw [4] (fun i wr => ∃ s : Nat, s ≤ n ∧ i = .int .i64 s ∧ F s = R ∧ Below w1.heap.size w1 wr) (fun i _ => (intOf i).toNat)
  case atStart => exact ⟨n, Nat.le_refl _, rfl, HR.out, Below.refl _ _⟩
  case round =>
    obtain ⟨s, hs, rfl, hFs, hb⟩ := hrel
    have s0 := hb.size
    cases s with
    | zero =>
      rw [HF0.out] at hFs
      have kk := Kw.out.trans (hb.mono Kw.out.size)
      subst hFs
      have hge : ¬ ((0 : Int) < 0) := by omega
      go_wp2
      go_ret
      exact ⟨none, 0, rfl, World.ownsRow_nil _ _ _ _, kk⟩
    | succ s =>
      have g := trGroups_any n (by omega) (adj l) (adj_comm l) A1 k1 G _ (s + 1) [] none 0 wr (Tab.out.below hb (Nat.le_refl _)) (by simp) (by simp; omega) CRead.nil (fun _ => ⟨rfl, rfl⟩)
      rw [show fromQ [] = 0 from rfl, candR_all] at g
      simp only [List.length_nil, Nat.zero_add] at g
      obtain ⟨LL, hLL⟩ : ∃ LL, listsC (adj l) (s + 1) [] (List.range n) = LL := ⟨_, rfl⟩
      have hsz := Hsz.out (s + 1)
      rw [hLL] at g
      simp only [hLL] at hsz
      obtain ⟨z, hz⟩ : ∃ z : Int, ((s + 1 : Nat) : Int) = z := ⟨_, rfl⟩
      have hz0 : (0 : Int) < z := by omega
      have hz1 : z ≤ 13 := by omega
      rw [hz] at g ⊢
      have Hz := Lib.hid hz
      have Gg := Lib.hid g
      have HFs := Lib.hid hFs
      clear g hz hFs
      cases LL with
      | nil =>
        have Hn := Lib.hid (Hno.out s hLL)
        clear hLL hsz
        go_wp2_with fail
        refine Gg.out.mono ?_
        rintro e w4 ⟨A4, c4, hs4, rfl, rows, hb4⟩
        have b4 := hb.trans (hb4.mono s0)
        clear Gg rows
        go_wp2
        go_roundw
        case rel => exact ⟨s, by omega, by have := Hz.out; congr 1; omega, by rw [← Hn.out]; exact HFs.out, b4⟩
        case measure => simp [intOf]; have := Hz.out; omega
      | cons q L =>
        have Hq := Lib.hid (Hstep.out s L q hLL)
        have hq13 := hsz q (by simp)
        clear hLL hsz
        go_wp2_with fail
        refine Gg.out.mono ?_
        rintro e w4 ⟨A4, c4, hs4, rfl, rows, hb4⟩
        have b4 := hb.trans (hb4.mono s0)
        obtain ⟨Aj, cj, hj', ownj⟩ := rows.row 0 q rfl
        obtain ⟨b, off, rfl, hbb, cc⟩ := (CRead.of_own rows.own) 0 _ hj'
        have hpos : (0 : Int) < ((L.length + 1 : Nat) : Int) := by omega
        have kk := Kw.out.trans (b4.mono Kw.out.size)
        have own' := own_lower ownj (show w.heap.size ≤ wr.heap.size by have := Kw.out.size; omega)
        have HE : q = R := by rw [← Hq.out]; exact HFs.out
        rw [Nat.add_zero] at cc
        have Own := Lib.hid own'
        clear Gg rows hj' ownj own' hbb
        go_wp2
        go_ret
        subst HE
        exact ⟨Aj, cj, rfl, Own.out, kk⟩
set_option maxHeartbeats 4000000 in
set_option maxRecDepth 100000 in
theorem greatestTied_any {T : Nat → Nat} {t : Nat → Nat → Bool} (hT : TiesOf T t) (n : Nat) (hn : n ≤ 12) (w : World) (htab : TabW w) :
    Calls Tryd.prog 61 #[.agg (tcells T), .int .i64 n] w fun e w' => ∃ A c, e = .returned (.slice A (firstG t n n).length c) ∧ w'.ownsRow w.heap.size 3 1 (.slice A (firstG t n n).length c) (firstG t n n).length (icells (firstG t n n)) ∧ Below w.heap.size w w' := by
  have hset := IsSet.people (n := n) (by omega)
  have hcs : ∀ b ∈ List.range n, b < 12 := fun b hb => by have := List.mem_range.1 hb; omega
  have hgot := fun (s : Nat) (hs : s ≤ 12) (X : World) (hX : TabW X) => allTied_got hT hset hcs (size := (s : Int)) (by omega) X hX
  simp only [Int.toNat_natCast] at hgot
  have hstep := fun s L q (h : listsC t (s + 1) [] (List.range n) = q :: L) => firstG_some h
  have hno := fun s (h : listsC t (s + 1) [] (List.range n) = []) => firstG_none h
  have hsz := fun k l3 h3 => listsC_size t k [] (List.range n) l3 h3
  obtain ⟨F, hF⟩ : ∃ F, firstG t n = F := ⟨_, rfl⟩
  have hF0 : F 0 = [] := by rw [← hF]; rfl
  simp only [hF] at hstep hno ⊢
  obtain ⟨R, hR⟩ : ∃ R, F n = R := ⟨_, rfl⟩
  rw [hR]
  obtain ⟨E, hE⟩ : ∃ E, 2 ^ n - 1 = E := ⟨_, rfl⟩
  have hev := fun (X : World) => everybody_any n hn X
  simp only [hE] at hgot hev
  refine (callsIn_wide (n := 5)).1 ?_
  refine callsIn_of_wp_marks Tryd.func61 rfl trivial ?_
  simp only [Tryd.ntmps61, List.size_toArray, List.length_cons, List.length_nil, Nat.reduceAdd, Nat.reduceSub, Array.replicate_succ, Array.replicate_zero, List.push_toArray, List.append_toArray, List.nil_append, List.cons_append]
  refine wpIn_wide.2 ?_
  have HTab := Lib.hid htab
  have Hstep := Lib.hid hstep
  have Hno := Lib.hid hno
  have Hsz := Lib.hid hsz
  have HF0 := Lib.hid hF0
  have HR := Lib.hid hR
  have Hev := Lib.hid hev
  have row0 := Lib.hid (rowIs_u16 w T 63)
  unfold tcells at hgot row0 ⊢
  have Got := Lib.hid hgot
  clear htab hT hset hcs hgot hstep hno hsz hF hF0 hR hE hev
  go_wp2_with fail
  obtain ⟨W, hW⟩ : ∃ W, (w.alloc (Obj.cells #[.int .u16 (T 0 : Nat), .int .u16 (T 1 : Nat), .int .u16 (T 2 : Nat), .int .u16 (T 3 : Nat), .int .u16 (T 4 : Nat), .int .u16 (T 5 : Nat), .int .u16 (T 6 : Nat), .int .u16 (T 7 : Nat), .int .u16 (T 8 : Nat), .int .u16 (T 9 : Nat), .int .u16 (T 10 : Nat), .int .u16 (T 11 : Nat)] 63)).alloc (Obj.cells #[.slice none 0 0] 25) = W := ⟨_, rfl⟩
  have kW : Below w.heap.size w W := by rw [← hW]; go_grown
  have zW : W.heap.size = w.heap.size + 2 := by rw [← hW]; simp
  have rg : W.rangeAt w.heap.size 0 [.int .u16 (T 0 : Nat), .int .u16 (T 1 : Nat), .int .u16 (T 2 : Nat), .int .u16 (T 3 : Nat), .int .u16 (T 4 : Nat), .int .u16 (T 5 : Nat), .int .u16 (T 6 : Nat), .int .u16 (T 7 : Nat), .int .u16 (T 8 : Nat), .int .u16 (T 9 : Nat), .int .u16 (T 10 : Nat), .int .u16 (T 11 : Nat)] := by
    rw [← hW]
    exact World.rangeAt_alloc (World.rangeAt_of_block (heap_alloc_new w (Obj.cells #[.int .u16 (T 0 : Nat), .int .u16 (T 1 : Nat), .int .u16 (T 2 : Nat), .int .u16 (T 3 : Nat), .int .u16 (T 4 : Nat), .int .u16 (T 5 : Nat), .int .u16 (T 6 : Nat), .int .u16 (T 7 : Nat), .int .u16 (T 8 : Nat), .int .u16 (T 9 : Nat), .int .u16 (T 10 : Nat), .int .u16 (T 11 : Nat)] 63)) 0 12) _
  have cW : W.cell? ⟨w.heap.size + 1, 0, none⟩ = some (.slice none 0 0) := by rw [← hW]; simp
  have fW : W.frozen? ⟨w.heap.size + 1, 0, none⟩ = false := by rw [← hW]; simp
  rw [hW]
  clear hW row0
  have hu : Tryd.prog.underlying 63 = some (.array 12 60) := by kernel_rfl
  have hsz12 : (Tryd.prog.info? 63).map (·.size) = some ([.int .u16 (T 0 : Nat), .int .u16 (T 1 : Nat), .int .u16 (T 2 : Nat), .int .u16 (T 3 : Nat), .int .u16 (T 4 : Nat), .int .u16 (T 5 : Nat), .int .u16 (T 6 : Nat), .int .u16 (T 7 : Nat), .int .u16 (T 8 : Nat), .int .u16 (T 9 : Nat), .int .u16 (T 10 : Nat), .int .u16 (T 11 : Nat)] : List Value).length := by kernel_rfl
  have KW := Lib.hid kW
  have ZW := Lib.hid zW
  have CW := Lib.hid cW
  have FW := Lib.hid fW
  have RG := Lib.hid rg
  clear kW zW cW fW rg
  refine wp_loop (fun a X => ∃ (s : Nat) (D : List Deferred) (u6 u7 u8 u9 u10 u11 u12 u13 u14 u15 u16 u17 u18 u19 : Value), a = { tmps := #[.agg #[.int .u16 (T 0 : Nat), .int .u16 (T 1 : Nat), .int .u16 (T 2 : Nat), .int .u16 (T 3 : Nat), .int .u16 (T 4 : Nat), .int .u16 (T 5 : Nat), .int .u16 (T 6 : Nat), .int .u16 (T 7 : Nat), .int .u16 (T 8 : Nat), .int .u16 (T 9 : Nat), .int .u16 (T 10 : Nat), .int .u16 (T 11 : Nat)], .int .i64 n, .pointer (some ⟨w.heap.size, 0, none⟩), undef, .pointer (some ⟨w.heap.size + 1, 0, none⟩), .int .i64 (s : Nat), u6, u7, u8, u9, u10, u11, u12, u13, u14, u15, u16, u17, u18, u19], defers := D } ∧ s ≤ n ∧ F s = R ∧ Marks D X ∧ (∀ j, isMark D j → W.heap.size ≤ j) ∧ Below W.heap.size W X) (fun a _ => (intOf (a.tmps.getD 5 undef)).toNat) ?start ?round
  case start => exact ⟨n, [], _, _, _, _, _, _, _, _, _, _, _, _, _, _, rfl, Nat.le_refl _, HR.out, Marks.nil _, (fun j hj => by obtain ⟨d, hd, _⟩ := hj; cases hd), Below.refl _ _⟩
  case round =>
    rintro a X ⟨s, D, u6, u7, u8, u9, u10, u11, u12, u13, u14, u15, u16, u17, u18, u19, rfl, hs, hFs, hM, hMW, hb⟩
    have sX := hb.size
    have zW := ZW.out
    have HM := Lib.hid hM
    have HMW := Lib.hid hMW
    have HB := Lib.hid hb
    have HFs := Lib.hid hFs
    clear hM hMW hFs
    cases s with
    | zero =>
      have cX := carry hb CW.out (by omega)
      have fX := (hb.frozen (p := ⟨w.heap.size + 1, 0, none⟩) (by simp; omega)).trans FW.out
      have hRe : R = [] := by rw [← HFs.out, HF0.out]
      have hge : ¬ ((0 : Int) < 0) := by omega
      have kX := KW.out.trans (hb.mono (by omega))
      have HRe := Lib.hid hRe
      clear hRe hb
      go_wp2
      have hM2 : Marks D (X.setCell ⟨w.heap.size + 1, 0, none⟩ (.slice none 0 0)) := HM.out.same fun j hj => Below.heap_setCell X _ _ _ (by have := HMW.out j hj; simp; omega)
      have kX2 := kX.setCell (p := ⟨w.heap.size + 1, 0, none⟩) (by simp) (.slice none 0 0)
      have c9 : (X.setCell ⟨w.heap.size + 1, 0, none⟩ (.slice none 0 0)).cell? ⟨w.heap.size + 1, 0, none⟩ = some (.slice none 0 0) := World.cell?_setCell_same' _ _ _ (by rw [cX]; rfl)
      refine leaves_marks D _ hM2 fun W' ha => ⟨.slice none 0 0, ?_, ?_⟩
      · have c10 := ha.cell c9 (fun h => by have := HMW.out _ h; simp at this; omega)
        simp [results, Tryd.results61, go_sem, c10]
      · rw [HRe.out]
        exact ⟨none, 0, rfl, World.ownsRow_nil _ _ _ _, kX2.trans (ha.below_of (by simp; omega) fun j hj => by have := HMW.out _ hj; omega)⟩
    | succ s =>
      obtain ⟨z, hz⟩ : ∃ z : Int, ((s + 1 : Nat) : Int) = z := ⟨_, rfl⟩
      have hz0 : (0 : Int) < z := by omega
      have hz1 : z ≤ 13 := by omega
      have got := Got.out (s + 1) (by omega)
      obtain ⟨LL, hLL⟩ : ∃ LL, listsC t (s + 1) [] (List.range n) = LL := ⟨_, rfl⟩
      have hq1 := Hstep.out s
      have hq2 := Hno.out s
      have hq3 := Hsz.out (s + 1)
      simp only [hLL, hz] at got hq1 hq2 hq3
      rw [hz]
      have rgX : X.rangeAt w.heap.size 0 [.int .u16 (T 0 : Nat), .int .u16 (T 1 : Nat), .int .u16 (T 2 : Nat), .int .u16 (T 3 : Nat), .int .u16 (T 4 : Nat), .int .u16 (T 5 : Nat), .int .u16 (T 6 : Nat), .int .u16 (T 7 : Nat), .int .u16 (T 8 : Nat), .int .u16 (T 9 : Nat), .int .u16 (T 10 : Nat), .int .u16 (T 11 : Nat)] := fun j v hv => (hb.cell (show w.heap.size < W.heap.size by omega)).trans (RG.out j v hv)
      have kX := KW.out.trans (hb.mono (by omega))
      have hpos := HTab.out.pos
      have Hz := Lib.hid hz
      have Got1 := Lib.hid got
      have Hq1 := Lib.hid hq1
      have Hq2 := Lib.hid hq2
      have Hq3 := Lib.hid hq3
      have KX := Lib.hid kX
      clear hz got hLL hq1 hq2 hq3 hb kX
      go_wp2_with fail
      go_region_held3 (fun w' => w'.rangeAt w.heap.size 0 [.int .u16 (T 0 : Nat), .int .u16 (T 1 : Nat), .int .u16 (T 2 : Nat), .int .u16 (T 3 : Nat), .int .u16 (T 4 : Nat), .int .u16 (T 5 : Nat), .int .u16 (T 6 : Nat), .int .u16 (T 7 : Nat), .int .u16 (T 8 : Nat), .int .u16 (T 9 : Nat), .int .u16 (T 10 : Nat), .int .u16 (T 11 : Nat)]) (first | exact rgX | exact yr) ((first
        | (go_at_call 54; refine (Hev.out _).mono ?_; rintro e w' ⟨rfl, rfl⟩)
        | (go_at_call 58; refine (Got1.out _ (HTab.out.below KX.out.drew hpos)).mono ?_; rintro e w1 ⟨lb, rfl, hb1, hseq⟩; have g1 : Below X.heap.size X w1 := (Below.refl _ _).drew.trans hb1; have yr : w1.rangeAt w.heap.size 0 [.int .u16 (T 0 : Nat), .int .u16 (T 1 : Nat), .int .u16 (T 2 : Nat), .int .u16 (T 3 : Nat), .int .u16 (T 4 : Nat), .int .u16 (T 5 : Nat), .int .u16 (T 6 : Nat), .int .u16 (T 7 : Nat), .int .u16 (T 8 : Nat), .int .u16 (T 9 : Nat), .int .u16 (T 10 : Nat), .int .u16 (T 11 : Nat)] := (fun j v hv => (g1.cell (show w.heap.size < X.heap.size by omega)).trans (rgX j v hv)); have k1 := KX.out.trans (g1.mono KX.out.size))))
      have Seq1 := Lib.hid hseq
      clear hseq
      go_wp2_with fail
      have s1 := g1.size
      have bW : Below W.heap.size W w1 := HB.out.trans (g1.mono HB.out.size)
      have cell1 := carry bW CW.out (by omega)
      have frz1 := (bW.frozen (p := ⟨w.heap.size + 1, 0, none⟩) (by simp; omega)).trans FW.out
      have mk1 := HM.out.below g1
      have mlt : ∀ j, isMark D j → j < w1.heap.size := fun j hj => by have := (Array.getElem?_eq_some_iff.1 (mk1.block hj)).1; exact this
      have Mk1 := Lib.hid mk1
      have Mlt := Lib.hid mlt
      have Cell1 := Lib.hid cell1
      have Frz1 := Lib.hid frz1
      have K1 := Lib.hid k1
      clear mk1 mlt cell1 frz1 k1 yr rgX hb1
      refine wp_rangeFunc_asg rfl (enters_of Tryd.func79 (by kernel_rfl) rfl) Seq1.out (fun j hj => by omega) (fun T x args A C h hs => h.stays hs) (fun T x args W h => h.one)
        (fun S pre Y => (∀ j, S j → w1.heap.size ≤ j) ∧ Below w1.heap.size w1 Y ∧ pre = [])
        (fun c pre Y => c = .ret ∧ ∃ (q : List Int) (A : Option Addr) (c' : Nat), pre = [q] ∧ Y.cell? ⟨w.heap.size + 1, 0, none⟩ = some (.slice A q.length c') ∧ Y.ownsRow w.heap.size 3 1 (.slice A q.length c') q.length (icells q) ∧ (∀ k, (Value.slice A q.length c').ownBlock = some k → w1.heap.size + 2 ≤ k) ∧ Below w.heap.size w Y ∧ w1.heap.size ≤ Y.heap.size ∧ Marks D Y)
        ?held ?heldx ⟨fun _ h => h.elim, Below.refl _ _, rfl⟩ (fun v => { tmps := #[.agg #[.int .u16 (T 0 : Nat), .int .u16 (T 1 : Nat), .int .u16 (T 2 : Nat), .int .u16 (T 3 : Nat), .int .u16 (T 4 : Nat), .int .u16 (T 5 : Nat), .int .u16 (T 6 : Nat), .int .u16 (T 7 : Nat), .int .u16 (T 8 : Nat), .int .u16 (T 9 : Nat), .int .u16 (T 10 : Nat), .int .u16 (T 11 : Nat)], .int .i64 n, .pointer (some ⟨w.heap.size, 0, none⟩), undef, .pointer (some ⟨w.heap.size + 1, 0, none⟩), .int .i64 z, v, u7, .int .i64 z, .bool true, u10, u11, .agg #[.int .u16 (T 0 : Nat), .int .u16 (T 1 : Nat), .int .u16 (T 2 : Nat), .int .u16 (T 3 : Nat), .int .u16 (T 4 : Nat), .int .u16 (T 5 : Nat), .int .u16 (T 6 : Nat), .int .u16 (T 7 : Nat), .int .u16 (T 8 : Nat), .int .u16 (T 9 : Nat), .int .u16 (T 10 : Nat), .int .u16 (T 11 : Nat)], .int .i64 n, .int .u16 (E : Nat), .int .i64 z, .func (.func 79) #[] lb, v, u18, u19], defers := [] }) ?assign ?body ?done ?stop
      case held =>
        rintro S S' pre A C ⟨a1, a2, a3⟩ hap hS'
        exact ⟨fun j hj => (hS' j hj).elim (a1 j) (by have := a2.size; omega), a2.trans (hap.below_of a2.size fun j hj => a1 j hj), a3⟩
      case heldx =>
        rintro c pre A C ⟨hc, q, Aq, cq, a1, a2, a3, a4, a5, a6, a7⟩ hap
        refine ⟨hc, q, Aq, cq, a1, hap.cell a2 (by simp; omega), ?_, a4, a5.trans (hap.below_of (by omega) fun j hj => by omega), Nat.le_trans a6 hap.below.size, a7.same fun j hj => hap.same j ?_ ?_⟩
        · obtain ⟨h1, h2⟩ := a3
          rcases h2 with ⟨hv, h0⟩ | ⟨g, cap, cur, hv, hb, hg, hrest⟩
          · exact ⟨h1, .inl ⟨hv, h0⟩⟩
          · have hk := a4 g (by rw [hv]; rfl)
            exact ⟨h1, .inr ⟨g, cap, cur, hv, hb, (hap.same g (Array.getElem?_eq_some_iff.1 hg).1 (by omega)).trans hg, hrest⟩⟩
        · exact (Array.getElem?_eq_some_iff.1 (a7.block hj)).1
        · have := Mlt.out j hj; omega
      case assign =>
        intro l v Y K hK
        gi_wp2
        exact hK
      case body =>
        rintro l S' S pre x v Y ⟨a1, a2, rfl⟩ hrd hTS hz hS'
        obtain ⟨A, c, hv, told, hTb, h100⟩ := hrd
        obtain rfl : v = .slice A x.length c := by simpa using hv
        have Told := Lib.hid told
        have cY := carry a2 Cell1.out (by omega)
        have fY := (a2.frozen (p := ⟨w.heap.size + 1, 0, none⟩) (by simp; omega)).trans Frz1.out
        have sY := a2.size
        have mY := Mk1.out.below a2
        have MY := Lib.hid mY
        have A2 := Lib.hid a2
        clear told mY a2 hTb hv
        gi_wp2_with fail
        refine ⟨trivial, (((callsIn_wide (n := 2)).2 (cloneI_any x A c Y (by omega) (CRead.of_own Told.out))).inRound l).mono ?_⟩
        rintro e w2 ⟨Ac, cc, rfl, own2, hb2⟩
        have c2 := carry hb2 cY (by omega)
        have f2 := (hb2.frozen (p := ⟨w.heap.size + 1, 0, none⟩) (by simp; omega)).trans fY
        have s2 := hb2.size
        have Own2 := Lib.hid own2
        have Hb2 := Lib.hid hb2
        clear own2 hb2 cY fY
        gi_wp2
        have kY := K1.out.trans (A2.out.mono (by omega))
        have k2 := kY.trans (Hb2.out.mono (by omega))
        refine ⟨(Stays.of_below Hb2.out).trans (Stays.setCell (p := ⟨w.heap.size + 1, 0, none⟩) (by simp; omega) w2 _), rfl, x, Ac, cc, rfl, World.cell?_setCell_same' _ _ _ (by rw [c2]; rfl), own_lower (ownsRow_setCell_below Own2.out (a := ⟨w.heap.size + 1, 0, none⟩) (by simp; omega) _) (by omega), fun k hk => ?_, k2.setCell (p := ⟨w.heap.size + 1, 0, none⟩) (by simp) _, by simp; omega, (MY.out.below Hb2.out).same fun j hj => Below.heap_setCell w2 _ _ _ ?_⟩
        · have := (own_lies Own2.out k hk).1; omega
        · have := HMW.out j hj; simp; omega
      case done =>
        rintro S Y ⟨a1, a2, hpre⟩ hD
        have hFe := Lib.hid (Hq2.out hpre)
        have hzs : z - 1 = (s : Int) := by have := Hz.out; omega
        have Hzs := Lib.hid hzs
        have A2 := Lib.hid a2
        clear hpre hzs a2
        go_wp2
        rw [Hzs.out]
        refine ⟨⟨s, _, _, _, _, _, _, _, _, _, _, _, _, _, _, _, rfl, by omega, by rw [← hFe.out]; exact HFs.out, (Mk1.out.below A2.out).cons hD fun j hj => by have := Mlt.out j hj; omega, fun j hj => ?_, bW.trans (A2.out.mono (by omega))⟩, ?_⟩
        · obtain ⟨d, hd, ht⟩ := hj
          rcases List.mem_cons.1 hd with rfl | hd
          · simp only [Target.collected.injEq] at ht; omega
          · exact HMW.out j ⟨d, hd, ht⟩
        · have := Hz.out; simp [intOf]; omega
      case stop =>
        rintro c pre x Y hpre ⟨rfl, q, A, c', hq, cell, own, hblk, kY, sY, mY⟩ hD
        have hRq : q = R := by
          obtain ⟨L, hL⟩ := hpre
          rw [hq] at hL
          rw [← HFs.out]
          exact (Hq1.out L q hL.symm).symm
        subst hRq
        have Own := Lib.hid own
        clear own
        go_wp2
        have mk2 := mY.cons hD fun j hj => by have := Mlt.out j hj; omega
        have hge : ∀ j, isMark ({ target := .collected w1.heap.size, args := #[] } :: D) j → W.heap.size ≤ j := fun j ⟨d, hd, ht⟩ => by
          rcases List.mem_cons.1 hd with rfl | hd
          · simp only [Target.collected.injEq] at ht; omega
          · exact HMW.out j ⟨d, hd, ht⟩
        refine leaves_marks _ _ mk2 fun W' ha => ⟨.slice A q.length c', ?_, ?_⟩
        · have c10 := ha.cell cell (fun h => by have := hge _ h; simp at this; omega)
          simp [results, Tryd.results61, go_sem, c10]
        · exact ⟨A, c', rfl, own_at Own.out (mk2.rows ha), kY.trans (ha.below_of (by omega) fun j hj => by have := hge _ hj; omega)⟩
set_option maxHeartbeats 2000000 in
set_option maxRecDepth 100000 in
theorem specGreatestGroup_any (p : Int) (l : PL) (A : Option Addr) (c : Nat) (w : World) (hl : l.length ≤ 1048576) (hA : CRead w w.heap.size A (pcells l)) :
    Calls Tryd.prog 27 #[.agg #[.int .i64 p, .slice A l.length c]] w (GotIntsOk w (resGreatestGroup p l).1 (resGreatestGroup p l).2) := by
  have hr : CRead (w.alloc (Obj.cells #[.int .i64 p, .slice A l.length c] 31)) (w.alloc (Obj.cells #[.int .i64 p, .slice A l.length c] 31)).heap.size A (pcells l) := (hA.below (B' := w.heap.size) (by go_grown) (Nat.le_refl _)).more (by go_size)
  cases hp : isP p l with
  | false =>
    have e : resGreatestGroup p l = ([], false) := by simp [resGreatestGroup, hp]
    rw [e]
    have Hp := Lib.hid hp
    clear hp e
    go_enter Tryd.func27, Tryd.ntmps27
    go_wp2_with fail
    refine (paGood_any _ _ _ _ _ hl hr).mono ?_
    rw [Hp.out]
    rintro e w2 ⟨rfl, hb2⟩
    simp only [World.size_alloc] at hb2
    go_wp2
    go_ret2
    exact ⟨none, 0, rfl, World.ownsRow_nil _ _ _ _, Below.trans (b := _) (by go_grown) (hb2.mono (by omega))⟩
  | true =>
    obtain ⟨n, rfl⟩ : ∃ n : Nat, p = n := ⟨p.toNat, by have := isP_range hp; omega⟩
    have e : resGreatestGroup n l = (firstG (adj l) n n, true) := by simp [resGreatestGroup, hp]
    rw [e]
    obtain ⟨R, hR⟩ : ∃ R, firstG (adj l) n n = R := ⟨_, rfl⟩
    have call := fun (X : World) (hX : CRead X X.heap.size A (pcells l)) => trGreatest_any n l A c X hp hX
    simp only [hR] at call ⊢
    have Call := Lib.hid call
    have Hp := Lib.hid hp
    clear hp e hR call
    go_enter Tryd.func27, Tryd.ntmps27
    go_wp2_with fail
    refine (paGood_any _ _ _ _ _ hl hr).mono ?_
    rw [Hp.out]
    rintro e w2 ⟨rfl, hb2⟩
    have k2 : Below w.heap.size w w2 := Below.trans (b := _) (by go_grown) (hb2.mono (by simp))
    have c0 : w2.cell? ⟨w.heap.size, 0, none⟩ = some (.int .i64 n) := carry hb2 (by simp) (by simp)
    have c1 : w2.cell? ⟨w.heap.size, 1, none⟩ = some (.slice A l.length c) := carry hb2 (by simp) (by simp)
    go_wp2_with fail
    refine (Call.out _ ((hA.below k2 (Nat.le_refl _)).more k2.size)).mono ?_
    rintro e w3 ⟨A3, c3, rfl, own, hb3⟩
    have k3 := k2.trans (hb3.mono k2.size)
    have Own := Lib.hid (own_lower own k2.size)
    clear own
    go_wp2
    go_ret2
    exact ⟨A3, c3, rfl, Own.out, k3⟩
set_option maxHeartbeats 4000000 in
set_option maxRecDepth 100000 in
theorem implGreatestGroup_any (p : Int) (l : PL) (A : Option Addr) (c : Nat) (w : World) (hl : l.length ≤ 1048576) (hA : CRead w w.heap.size A (pcells l)) (htab : TabW w) :
    Calls Tryd.prog 28 #[.agg #[.int .i64 p, .slice A l.length c]] w (GotIntsOk w (resGreatestGroup p l).1 (resGreatestGroup p l).2) := by
  have hr : CRead (w.alloc (Obj.cells #[.int .i64 p, .slice A l.length c] 31)) (w.alloc (Obj.cells #[.int .i64 p, .slice A l.length c] 31)).heap.size A (pcells l) := (hA.below (B' := w.heap.size) (by go_grown) (Nat.le_refl _)).more (by go_size)
  have HTab := Lib.hid htab
  clear htab
  cases hp : isP p l with
  | false =>
    have e : resGreatestGroup p l = ([], false) := by simp [resGreatestGroup, hp]
    rw [e]
    have Hp := Lib.hid hp
    clear hp e
    go_enter Tryd.func28, Tryd.ntmps28
    go_wp2_with fail
    refine (isParty_any _ _ _ _ _ hl hr).mono ?_
    rw [Hp.out]
    rintro e w2 ⟨rfl, hb2⟩
    simp only [World.size_alloc] at hb2
    go_wp2
    go_ret2
    exact ⟨none, 0, rfl, World.ownsRow_nil _ _ _ _, Below.trans (b := _) (by go_grown) (hb2.mono (by omega))⟩
  | true =>
    obtain ⟨n, rfl⟩ : ∃ n : Nat, p = n := ⟨p.toNat, by have := isP_range hp; omega⟩
    have hn := isP_range hp
    have e : resGreatestGroup n l = (firstG (adj l) n n, true) := by simp [resGreatestGroup, hp]
    rw [e]
    obtain ⟨R, hR⟩ : ∃ R, firstG (adj l) n n = R := ⟨_, rfl⟩
    have hT := friendsT_of hp
    have h5 := fun (X : World) (hX : TabW X) => greatestTied_any hT n (by omega) X hX
    simp only [hR] at h5 ⊢
    have H5 := Lib.hid h5
    have Hp := Lib.hid hp
    clear hp e hT h5 hR
    go_enter Tryd.func28, Tryd.ntmps28
    go_wp2_with fail
    refine (isParty_any _ _ _ _ _ hl hr).mono ?_
    rw [Hp.out]
    rintro e w2 ⟨rfl, hb2⟩
    have s2 := hb2.size
    simp only [World.size_alloc] at s2
    have k2 : Below w.heap.size w w2 := Below.trans (b := _) (by go_grown) (hb2.mono (by simp))
    have c0 : w2.cell? ⟨w.heap.size, 0, none⟩ = some (.int .i64 n) := carry hb2 (by simp) (by simp)
    have c1 : w2.cell? ⟨w.heap.size, 1, none⟩ = some (.slice A l.length c) := carry hb2 (by simp) (by simp)
    have hpos := HTab.out.pos
    clear hb2
    go_wp2
    go_region_held3 (fun w' => w'.cell? ⟨w.heap.size, 0, none⟩ = some (.int .i64 n) ∧ w'.cell? ⟨w.heap.size, 1, none⟩ = some (.slice A l.length c)) (first | exact ⟨c0, c1⟩ | exact ⟨y0, y1⟩ | exact ⟨x0, x1⟩) ((first
      | (go_at_call 46; refine (friendsIn_any _ l A c _ Hp.out ((hA.below k2.drew (Nat.le_refl _)).more k2.size)).mono ?_; rintro e w3 ⟨rfl, _, hb3⟩; have g3 : Below w2.heap.size w2 w3 := (Below.refl _ _).drew.trans hb3; have y0 := carry g3 c0 (by omega); have y1 := carry g3 c1 (by omega); have s3 := g3.size; have k3 := k2.trans (g3.mono k2.size))
      | (go_at_call 61; refine (H5.out w3 (HTab.out.below k3 hpos)).mono ?_; rintro e w5 ⟨A5, c5, rfl, own5, hb5⟩; have x0 := carry hb5 y0 (by omega); have x1 := carry hb5 y1 (by omega); have k5 := k3.trans (hb5.mono k3.size))))
    all_goals
      have own' := own_lower own5 k3.size
      clear own5
      go_wp2
      go_ret2
      exact ⟨A5, c5, rfl, own', k5⟩
end Go.Proofs.YtnpljmipicjacaaDoor
/-
  'laws.FnExactGreatestGroup' returns true, whatever its arguments: out of the contracts of the model's function and of the program's.
-/
namespace Go.Proofs.YtnpljmipicjacaaDoor
open Go.RowKit

set_option maxHeartbeats 4000000 in
set_option maxRecDepth 100000 in
theorem lawGreatestGroup_any (p0 : Int) (l0 : PL) (A0 : Option Addr) (c0 : Nat) (W : World) (hl0 : l0.length ≤ maxLen) (hA0 : CRead W W.heap.size A0 (pcells l0)) (htab : TabW W) :
    Calls Tryd.prog 6 #[.agg #[.int .i64 p0, .slice A0 l0.length c0]] W fun e w' => e = .returned (.bool true) ∧ Below W.heap.size W w' := by
  have hone : (0 : Int) ≤ 1 ∧ (1 : Int) ≤ 16777216 := by omega
  have HTab := Lib.hid htab
  clear htab
  by_cases hz0 : szI (1048576) l0.length < 0
  · go_enter Tryd.func6, Tryd.ntmps6
    go_wp2_with fail
    refine (szParty_any _ _ _ _ _ hl0 (by omega) (by omega) _).mono ?_
    rintro e w1 ⟨rfl, hb1⟩
    simp only [World.size_alloc] at hb1
    have g1 : Below W.heap.size W w1 := Below.trans (b := _) (by go_grown) (hb1.mono (by omega))
    have s1 := hb1.size
    simp only [World.size_alloc] at s1
    have f1_0 : w1.cell? ⟨W.heap.size, 0, none⟩ = some (.int .i64 p0) := carry hb1 (by simp) (by omega)
    have f1_1 : w1.cell? ⟨W.heap.size, 1, none⟩ = some (.slice A0 l0.length c0) := carry hb1 (by simp) (by omega)
    have k1 : Below W.heap.size W w1 := g1
    go_wp2
    go_ret
    exact ⟨rfl, k1⟩
  have hn0 : l0.length ≤ 1048576 := by have h1 := szI_len _ _ hz0; have h2 := szI_hi (1048576) l0.length (by omega); omega
  have hz0' : 0 ≤ szI (1048576) l0.length := by omega
  have hz0'' : szI (1048576) l0.length ≤ 1048576 := by have h2 := szI_hi (1048576) l0.length (by omega); omega
  obtain ⟨⟨rm, rok⟩, hres⟩ : ∃ r, resGreatestGroup p0 l0 = r := ⟨_, rfl⟩
  have hrn : rm.length ≤ 1048576 := by have h := resGreatestGroup_len p0 l0; rw [hres] at h; exact h
  have hrl : rm.length ≤ maxLen := by unfold maxLen; omega
  have Hres := Lib.hid hres
  clear hres
  go_enter Tryd.func6, Tryd.ntmps6
  go_wp2_with fail
  refine (szParty_any _ _ _ _ _ hl0 (by omega) (by omega) _).mono ?_
  rintro e w1 ⟨rfl, hb1⟩
  simp only [World.size_alloc] at hb1
  have g1 : Below W.heap.size W w1 := Below.trans (b := _) (by go_grown) (hb1.mono (by omega))
  have s1 := hb1.size
  simp only [World.size_alloc] at s1
  have f1_0 : w1.cell? ⟨W.heap.size, 0, none⟩ = some (.int .i64 p0) := carry hb1 (by simp) (by omega)
  have f1_1 : w1.cell? ⟨W.heap.size, 1, none⟩ = some (.slice A0 l0.length c0) := carry hb1 (by simp) (by omega)
  have k1 : Below W.heap.size W w1 := g1
  go_wp2_with fail
  refine (toParty_any p0 l0 A0 c0 _ hn0 ((hA0.below k1 (Nat.le_refl _)).more k1.size)).mono ?_
  rintro e w2 ⟨T2, d2, rfl, n2, hb2⟩
  have g2 : Below w1.heap.size w1 w2 := hb2
  have s2 := hb2.size
  have f2_0 := carry g2 f1_0 (by omega)
  have f2_1 := carry g2 f1_1 (by omega)
  have k2 := k1.trans (g2.mono k1.size)
  clear f1_0 f1_1
  have r2 : Lies (.slice T2 l0.length d2) (w1.heap.size) w2.heap.size := own_lies n2
  go_wp2_with fail
  refine (specGreatestGroup_any p0 l0 _ _ _ hn0 (CRead.of_own n2)).mono ?_
  rw [Hres.out]
  rintro e w3 ⟨T3, d3, rfl, n3, hb3⟩
  have g3 : Below w2.heap.size w2 w3 := hb3
  have s3 := hb3.size
  have f3_0 := carry g3 f2_0 (by omega)
  have f3_1 := carry g3 f2_1 (by omega)
  have o3_0 := own_below n2 g3 (Nat.le_refl _)
  have k3 := k2.trans (g3.mono k2.size)
  clear f2_0 f2_1 n2
  have r3 : Lies (.slice T3 rm.length d3) (w2.heap.size) w3.heap.size := own_lies n3
  clear o3_0 r2
  go_wp2_with fail
  refine (toParty_any p0 l0 A0 c0 _ hn0 ((hA0.below k3 (Nat.le_refl _)).more k3.size)).mono ?_
  rintro e w4 ⟨T4, d4, rfl, n4, hb4⟩
  have g4 : Below w3.heap.size w3 w4 := hb4
  have s4 := hb4.size
  have f4_0 := carry g4 f3_0 (by omega)
  have f4_1 := carry g4 f3_1 (by omega)
  have o4_0 := own_below n3 g4 (Nat.le_refl _)
  have k4 := k3.trans (g4.mono k3.size)
  clear f3_0 f3_1 n3
  have r4 : Lies (.slice T4 l0.length d4) (w3.heap.size) w4.heap.size := own_lies n4
  have q5_0 : (w4.alloc (Obj.cells #[.int .i64 p0, .slice T4 l0.length d4] 31)).cell? ⟨W.heap.size, 0, none⟩ = some (.int .i64 p0) := (World.cell?_alloc_lt _ _ _ (show W.heap.size < w4.heap.size by omega)).trans f4_0
  have q5_1 : (w4.alloc (Obj.cells #[.int .i64 p0, .slice T4 l0.length d4] 31)).cell? ⟨W.heap.size, 1, none⟩ = some (.slice A0 l0.length c0) := (World.cell?_alloc_lt _ _ _ (show W.heap.size < w4.heap.size by omega)).trans f4_1
  go_wp2_with fail
  refine (implGreatestGroup_any p0 l0 _ _ _ hn0 (((CRead.of_own n4).below (B' := w4.heap.size) (by go_grown) (Nat.le_refl _)).more (by go_size)) (by first | exact HTab.out.below (k4.alloc k4.size _) HTab.out.pos | exact HTab.out.below k4 HTab.out.pos)).mono ?_
  rw [Hres.out]
  rintro e w6 ⟨T6, d6, rfl, n6, hb6⟩
  simp only [World.size_alloc] at n6
  simp only [World.size_alloc] at hb6
  have g6 : Below w4.heap.size w4 w6 := Below.trans (b := _) (by go_grown) (hb6.mono (by omega))
  have s6 := hb6.size
  simp only [World.size_alloc] at s6
  have f6_0 := carry g6 f4_0 (by omega)
  have f6_1 := carry g6 f4_1 (by omega)
  have f6_2 : w6.cell? ⟨w4.heap.size, 0, none⟩ = some (.int .i64 p0) := carry hb6 (by simp) (by omega)
  have f6_3 : w6.cell? ⟨w4.heap.size, 1, none⟩ = some (.slice T4 l0.length d4) := carry hb6 (by simp) (by omega)
  have o6_0 := own_below o4_0 g6 (Nat.le_refl _)
  have o6_1 := own_below n4 g6 (Nat.le_refl _)
  have k6 := k4.trans (g6.mono k4.size)
  clear f4_0 f4_1 o4_0 n4 q5_0 q5_1
  have r6 : Lies (.slice T6 rm.length d6) (w4.heap.size + 1) w6.heap.size := own_lies n6
  go_wp2_with fail
  refine (eqIntS_any rm rm _ _ _ _ _ hrl hrl (CRead.of_own n6) (CRead.of_own o6_0)).mono ?_
  rw [decide_eq_true rfl]
  rintro e w7 ⟨rfl, hb7⟩
  have g7 : Below w6.heap.size w6 w7 := hb7
  have s7 := hb7.size
  have f7_0 := carry g7 f6_0 (by omega)
  have f7_1 := carry g7 f6_1 (by omega)
  have f7_2 := carry g7 f6_2 (by omega)
  have f7_3 := carry g7 f6_3 (by omega)
  have o7_0 := own_below o6_0 g7 (Nat.le_refl _)
  have o7_1 := own_below o6_1 g7 (Nat.le_refl _)
  have o7_2 := own_below n6 g7 (Nat.le_refl _)
  have k7 := k6.trans (g7.mono k6.size)
  clear f6_0 f6_1 f6_2 f6_3 o6_0 o6_1 n6
  go_wp2
  go_region_held3 (fun w' => w'.cell? ⟨W.heap.size, 0, none⟩ = some (.int .i64 p0) ∧ w'.cell? ⟨W.heap.size, 1, none⟩ = some (.slice A0 l0.length c0) ∧ w'.cell? ⟨w4.heap.size, 0, none⟩ = some (.int .i64 p0) ∧ w'.cell? ⟨w4.heap.size, 1, none⟩ = some (.slice T4 l0.length d4)) (first | exact ⟨f7_0, f7_1, f7_2, f7_3⟩ | exact ⟨f8_0, f8_1, f8_2, f8_3⟩ | exact ⟨f9_0, f9_1, f9_2, f9_3⟩) ((first | (go_at_call 12; refine (toParty_any p0 l0 A0 c0 _ hn0 ((hA0.below k7.drew (Nat.le_refl _)).more k7.size)).mono ?_; rintro e w8 ⟨T8, d8, rfl, n8, hb8⟩; have g8 : Below w7.heap.size w7 w8 := (Below.refl _ _).drew.trans hb8; have s8 := g8.size; have f8_0 := carry g8 f7_0 (by omega); have f8_1 := carry g8 f7_1 (by omega); have f8_2 := carry g8 f7_2 (by omega); have f8_3 := carry g8 f7_3 (by omega); have o8_0 := own_below o7_0 g8 (Nat.le_refl _); have o8_1 := own_below o7_1 g8 (Nat.le_refl _); have o8_2 := own_below o7_2 g8 (Nat.le_refl _); have k8 := k7.trans (g8.mono k7.size)) | (go_at_call 16; refine (eqParty_any p0 p0 l0 l0 _ _ _ _ _ hl0 hl0 (CRead.of_own o8_1) (CRead.of_own n8)).mono ?_; rw [decide_eq_true ⟨rfl, rfl⟩]; rintro e w9 ⟨rfl, hb9⟩; have g9 : Below w8.heap.size w8 w9 := hb9; have s9 := g9.size; have f9_0 := carry g9 f8_0 (by omega); have f9_1 := carry g9 f8_1 (by omega); have f9_2 := carry g9 f8_2 (by omega); have f9_3 := carry g9 f8_3 (by omega); have o9_0 := own_below o8_0 g9 (Nat.le_refl _); have o9_1 := own_below o8_1 g9 (Nat.le_refl _); have o9_2 := own_below o8_2 g9 (Nat.le_refl _); have k9 := k8.trans (g9.mono k8.size))))
  clear f7_0 f7_1 f7_2 f7_3 o7_0 o7_1 o7_2 f8_0 f8_1 f8_2 f8_3 o8_0 o8_1 o8_2 n8
  go_wp2_with fail
  refine (markParty_any p0 l0 _ _ _ (1) _ _ rfl hn0 (by omega) o9_1).mono ?_
  rintro e w10 ⟨rfl, n10, hg10⟩
  have s10 := hg10.size
  have f10_0 := carryG hg10 r4 f9_0 (by omega)
  have f10_1 := carryG hg10 r4 f9_1 (by omega)
  have f10_2 := carryG hg10 r4 f9_2 (by omega)
  have f10_3 := carryG hg10 r4 f9_3 (by omega)
  have o10_0 := keptG hg10 r4 o9_0 r3 (by omega)
  have o10_2 := keptG hg10 r4 o9_2 r6 (by omega)
  have k10 := belowG k9 hg10 r4 k9.size (by omega)
  clear f9_0 f9_1 f9_2 f9_3 o9_0 o9_1 o9_2
  have hmk : ¬ (1 + 2 * (l0.length : Int) < 0) := by omega
  go_wp2_with fail
  refine (eqIntS_any rm rm _ _ _ _ _ hrl hrl (CRead.of_own o10_2) (CRead.of_own o10_0)).mono ?_
  rw [decide_eq_true rfl]
  rintro e w11 ⟨rfl, hb11⟩
  have g11 : Below w10.heap.size w10 w11 := hb11
  have s11 := hb11.size
  have f11_0 := carry g11 f10_0 (by omega)
  have f11_1 := carry g11 f10_1 (by omega)
  have f11_2 := carry g11 f10_2 (by omega)
  have f11_3 := carry g11 f10_3 (by omega)
  have o11_0 := own_below o10_0 g11 (Nat.le_refl _)
  have o11_1 := own_below n10 g11 (Nat.le_refl _)
  have o11_2 := own_below o10_2 g11 (Nat.le_refl _)
  have k11 := k10.trans (g11.mono k10.size)
  clear f10_0 f10_1 f10_2 f10_3 o10_0 n10 o10_2
  clear o11_1 r4
  go_wp2_with fail
  refine (markIntS_any rm _ _ _ 1 _ _ rfl hrn hone o11_2).mono ?_
  rintro e w12 ⟨rfl, n12, hg12⟩
  have s12 := hg12.size
  have f12_0 := carryG hg12 r6 f11_0 (by omega)
  have f12_1 := carryG hg12 r6 f11_1 (by omega)
  have f12_2 := carryG hg12 r6 f11_2 (by omega)
  have f12_3 := carryG hg12 r6 f11_3 (by omega)
  have o12_0 := keptG hg12 r6 o11_0 r3 (by omega)
  have k12 := belowG k11 hg12 r6 k11.size (by omega)
  clear f11_0 f11_1 f11_2 f11_3 o11_0 o11_2
  have hmr : ¬ (1 + (rm.length : Int) < 0) := by omega
  go_wp2_with fail
  refine (heldIntS_any _ _ _ 1 _ hrn hone (CRead.of_own n12)).mono ?_
  rintro e w13 ⟨rfl, h13⟩
  subst h13
  go_wp2_with fail
  refine (toParty_any p0 l0 A0 c0 _ hn0 ((hA0.below k12 (Nat.le_refl _)).more k12.size)).mono ?_
  rintro e w14 ⟨T14, d14, rfl, n14, hb14⟩
  have g14 : Below w12.heap.size w12 w14 := hb14
  have s14 := hb14.size
  have f14_0 := carry g14 f12_0 (by omega)
  have f14_1 := carry g14 f12_1 (by omega)
  have f14_2 := carry g14 f12_2 (by omega)
  have f14_3 := carry g14 f12_3 (by omega)
  have o14_0 := own_below o12_0 g14 (Nat.le_refl _)
  have o14_1 := own_below n12 g14 (Nat.le_refl _)
  have k14 := k12.trans (g14.mono k12.size)
  clear f12_0 f12_1 f12_2 f12_3 o12_0 n12
  have r14 : Lies (.slice T14 l0.length d14) (w12.heap.size) w14.heap.size := own_lies n14
  go_wp2_with fail
  refine (implGreatestGroup_any p0 l0 _ _ _ hn0 (CRead.of_own n14) (by first | exact HTab.out.below (k14.alloc k14.size _) HTab.out.pos | exact HTab.out.below k14 HTab.out.pos)).mono ?_
  rw [Hres.out]
  rintro e w15 ⟨T15, d15, rfl, n15, hb15⟩
  have g15 : Below w14.heap.size w14 w15 := hb15
  have s15 := hb15.size
  have f15_0 := carry g15 f14_0 (by omega)
  have f15_1 := carry g15 f14_1 (by omega)
  have f15_2 := carry g15 f14_2 (by omega)
  have f15_3 := carry g15 f14_3 (by omega)
  have o15_0 := own_below o14_0 g15 (Nat.le_refl _)
  have o15_1 := own_below o14_1 g15 (Nat.le_refl _)
  have o15_2 := own_below n14 g15 (Nat.le_refl _)
  have k15 := k14.trans (g15.mono k14.size)
  clear f14_0 f14_1 f14_2 f14_3 o14_0 o14_1 n14
  have r15 : Lies (.slice T15 rm.length d15) (w14.heap.size) w15.heap.size := own_lies n15
  clear o15_2 r14
  go_wp2_with fail
  refine (eqIntS_any rm rm _ _ _ _ _ hrl hrl (CRead.of_own n15) (CRead.of_own o15_0)).mono ?_
  rw [decide_eq_true rfl]
  rintro e w16 ⟨rfl, hb16⟩
  have g16 : Below w15.heap.size w15 w16 := hb16
  have s16 := hb16.size
  have f16_0 := carry g16 f15_0 (by omega)
  have f16_1 := carry g16 f15_1 (by omega)
  have f16_2 := carry g16 f15_2 (by omega)
  have f16_3 := carry g16 f15_3 (by omega)
  have o16_0 := own_below o15_0 g16 (Nat.le_refl _)
  have o16_1 := own_below o15_1 g16 (Nat.le_refl _)
  have o16_2 := own_below n15 g16 (Nat.le_refl _)
  have k16 := k15.trans (g16.mono k15.size)
  clear f15_0 f15_1 f15_2 f15_3 o15_0 o15_1 n15
  go_wp2_with fail
  refine (heldIntS_any _ _ _ 1 _ hrn hone (CRead.of_own o16_1)).mono ?_
  rintro e w17 ⟨rfl, h17⟩
  subst h17
  go_wp2
  go_ret
  exact ⟨rfl, k16⟩
end Go.Proofs.YtnpljmipicjacaaDoor
/-
  FROM A LAW's WALK TO ITS STATEMENT: arguments opened (numbers, lists of numbers, parties), and what every law's post asks.
-/
namespace Go.Proofs.YtnpljmipicjacaaDoor
open Go.ChangeShapes Go.WideShapes Go.ChangeAt Go.RowKit Go.Deep

theorem Tryd.own : ownKnob Tryd.prog.godebug = none := by kernel_rfl
theorem Tryd.laidOut : laidOutB Tryd.prog = true := by kernel_rfl
theorem Tryd.cellsPair : Tryd.prog.cellsOf 87 = 2 := by kernel_rfl
theorem Tryd.cellsParty : Tryd.prog.cellsOf 24 = 2 := by kernel_rfl
theorem Tryd.cellsInt : Tryd.prog.cellsOf 3 = 1 := by kernel_rfl

section
variable {H : Type} {enc : TypeId × Value → H} {P : Program}
theorem below_trodAll (hl : laidOutB P = true) : ∀ (ts : List TypeId), (ts.all fun t => P.readableRec t && decide (t < P.types.size)) = true → ∀ {vs : List Value} {ds : List (DataW H)} {ps : List MemPlace} {W W' : World},
    DataW.TrodAll enc P W 0 (fun _ => true) true ts vs ds ps → Below W.heap.size W W' → (∀ x ∈ ps, x.block < W.heap.size) → DataW.TrodAll enc P W' 0 (fun b => decide (b < W.heap.size)) true ts vs ds ps
  | [], _, vs, ds, ps, W, W', h, _, _ => by
    obtain ⟨rfl, rfl, rfl⟩ := trodAll_nil h
    exact trodAll_mk0
  | t :: ts, hr, vs, ds, ps, W, W', h, hb, hlt => by
    obtain ⟨v, vs', d, ds', p, q, rfl, rfl, rfl, h0, h1⟩ := trodAll_cons h
    simp only [List.all_cons, Bool.and_eq_true, decide_eq_true_eq] at hr
    refine trodAll_cons_mk (Below.trod hl hr.1.1 hr.1.2 h0 hb (fun x hx => hlt x (List.mem_append_left _ hx))) (below_trodAll hl ts (by simpa using hr.2) h1 hb (fun x hx => hlt x (List.mem_append_right _ hx)))

theorem law_post {f : Func} {s : ChangeSpec} {W W' : World} {args : Array Value} {ds gs : List (DataW H)} {before : List MemPlace} {tb : TypeId} (hl : laidOutB P = true)
    (hr : (f.params.toList.all fun t => P.readableRec t && decide (t < P.types.size)) = true) (hres : f.resultTypes = #[tb]) (htb : P.underlying tb = some .bool) (hsv : s.vars = [])
    (hspec : s.fn H (ds ++ gs) = { results := [.lit (.bool true)], args := ds })
    (hW : DataW.Whole enc P f.params.toList s.vars false W args.toList ds gs before) (hb : Below W.heap.size W W') : s.post enc P f false true false false W args (.bool true) W' := by
  have hW' := hW
  obtain ⟨p, q, hA, hV, rfl, _, _⟩ := hW
  rw [hsv] at hV
  obtain ⟨rfl, rfl⟩ := trodVars_none hV
  have hlt : ∀ x ∈ p, x.block < W.heap.size := fun x hx => by simpa using hW'.lt x (by simpa using hx)
  refine ⟨ds, _, _, [] ++ [], p, [], hW', ?_, ?_, ?_, hb.frame _, fun h => by cases h⟩
  · rw [hspec, hres]
    exact trodAll_mk1 (shut_bool htb _)
  · rw [hspec]
    exact below_trodAll hl _ hr hA hb hlt
  · rw [hspec, hsv]
    rfl
end

section
variable {H : Type} {enc : TypeId × Value → H} {W : World}
set_option maxRecDepth 100000 in
/-- A party that came in. -/
theorem open_party {v : Value} {d : DataW H} {p : List MemPlace} {r : Reach} {b0 : Nat} (hv : Value.okWide Tryd.prog W r b0 24 v) (h : DataW.Trod enc Tryd.prog W 0 (fun _ => true) true 24 v d p) :
    ∃ (x : Int) (l : PL) (A : Option Addr) (c : Nat), v = .agg #[.int .i64 x, .slice A l.length c] ∧ l.length ≤ maxLen ∧ CRead W W.heap.size A (pcells l) := by
  obtain ⟨v0, v1, y0, y1, n, rfl, _, _, h0, h1⟩ := Joins.open_agg2 Tryd.underlying24 (by kernel_rfl) Tryd.cellsParty hv h
  obtain ⟨x, hx, _, _⟩ := DataW.trod_int Tryd.underlying3 h0
  simp only [List.cons.injEq, and_true] at hx
  subst hx
  rcases open_slice_pairs Tryd.underlying22 Tryd.underlying87 Tryd.cellsPair rfl rfl (by kernel_rfl) (by kernel_rfl) h1 with ⟨hcs, _⟩ | ⟨a, len, cap, m, n', V0, V1, D0, D1, P0, P1, hcs, _, hlc, hcm, hm, _, hall⟩
  · simp only [List.cons.injEq, and_true] at hcs
    subst hcs
    exact ⟨x, [], none, 0, rfl, Nat.zero_le _, CRead.nil⟩
  · simp only [List.cons.injEq, and_true] at hcs
    subst hcs
    have hm' : m = cap := by simpa using hm
    subst hm'
    have each : ∀ i, i < len → ∃ a0 a1 : Int, W.cell? (a.add (i * 2)) = some (.int .i64 a0) ∧ W.cell? (a.add (i * 2 + 1)) = some (.int .i64 a1) := by
      intro i hi
      obtain ⟨c0, c1, t0, t1⟩ := hall i (by omega)
      obtain ⟨a0, e0, _, _⟩ := DataW.trod_int Tryd.underlying3 t0
      obtain ⟨a1, e1, _, _⟩ := DataW.trod_int Tryd.underlying3 t1
      simp only [List.cons.injEq, and_true] at e0 e1
      exact ⟨a0, a1, by rw [c0, e0], by rw [c1, e1]⟩
    let num : Option Value → Int := fun | some (.int _ z) => z | _ => 0
    let l : PL := (List.range len).map fun i => (num (W.cell? (a.add (i * 2))), num (W.cell? (a.add (i * 2 + 1))))
    have hll : l.length = len := by simp [l]
    refine ⟨x, l, some a, m, by rw [hll], by rw [hll]; omega, ?_⟩
    intro j u hu
    have hjl : j < (pcells l).length := (List.getElem?_eq_some_iff.1 hu).1
    rw [pcells_length, hll] at hjl
    have hi : j / 2 < len := by omega
    obtain ⟨a0, a1, c0, c1⟩ := each (j / 2) hi
    have hl : l[j / 2]? = some (a0, a1) := by simp [l, hi, c0, c1, num]
    obtain ⟨z0, _, cz, _⟩ := each 0 (by omega)
    have hspot : a.spot = none := by simpa [Addr.add] using World.cell?_spot cz
    obtain ⟨b, off, sp⟩ := a
    simp only at hspot
    subst hspot
    have hb : b < W.heap.size := by
      have := World.block_lt_of_cell? W _ cz
      simpa [Addr.add] using this
    refine ⟨b, off, rfl, hb, ?_⟩
    rw [add_plain] at c0 c1
    rcases Nat.mod_two_eq_zero_or_one j with h2 | h2
    · have e : j = j / 2 * 2 := by omega
      have e2 := pcells_fst hl
      rw [← e] at e2 c0
      rw [hu] at e2
      rw [c0, e2]
    · have e : j = j / 2 * 2 + 1 := by omega
      have e2 := pcells_snd hl
      rw [← e] at e2 c1
      rw [hu] at e2
      rw [c1, e2]
end
end Go.Proofs.YtnpljmipicjacaaDoor
/-
  THE PROGRAM's HEAD, LOOKED AT ONCE: which make it is, and that a call may enter it. (The head's text is long: the kernel must not read it twice.)
-/
namespace Go.Proofs.YtnpljmipicjacaaDoor

theorem make_of {P : Program} {rest : List (List Char)} (h : behindMainWord (wordsSigns P.initOrder.toList) = "cut".toList :: rest) : P.make = some .cut := by
  unfold Program.make
  rw [h]
  rfl
theorem strip_cut (rest : List (List Char)) : stripLifts liftWords ("cut".toList :: rest) = ([], "cut".toList :: rest) := rfl
theorem lifts_of {P : Program} {rest : List (List Char)} (h : behindMainWord (wordsSigns P.initOrder.toList) = "cut".toList :: rest) : P.headLifts = [] := by
  unfold Program.headLifts
  rw [h, strip_cut]
  rfl
theorem final_of {P : Program} {rest : List (List Char)} (h : behindMainWord (wordsSigns P.initOrder.toList) = "cut".toList :: rest) : P.liftsFinal = false := by
  unfold Program.liftsFinal
  rw [lifts_of h, h]
  rfl
theorem enter_of {P : Program} {rest : List (List Char)} (h : behindMainWord (wordsSigns P.initOrder.toList) = "cut".toList :: rest) (h1 : P.laysLater = false) (h2 : P.bearsReflect = false) (h3 : P.doorFits [] = true) : P.mayEnter = true := by
  unfold Program.mayEnter
  rw [h]
  show (_ || _ || _) = true
  rw [strip_cut, h1, h2, h3]
  rfl
end Go.Proofs.YtnpljmipicjacaaDoor
