/-
  'IsGroup' of the model, by its contract.
-/
import Derived.Test.YtaemodpolopcfaaGroupP
import Derived.Test.YtaemodpolopcfaaTable
import Derived.Test.YtaemodpolopcfaaFriends
import Derived.Test.YtaemodpolopcfaaHas
namespace Go.Proofs.Ytaemodpolopcfaa
open Go.RowKit

theorem getD_is {q : List Int} {k : Nat} {x : Int} (h : q[k]? = some x) : q.getD k 0 = x := by rw [List.getD_eq_getElem?_getD, h]; rfl

set_option maxHeartbeats 1000000 in
set_option maxRecDepth 100000 in
theorem trKnows_any (n a : Nat) (t : Nat → Nat → Bool) (A : Option Addr) (c : Nat) (G : Nat → Nat) (B : Nat) (q : List Int) (Bq : Option Addr) (d : Nat) (w : World) (hn : n ≤ 12) (ha : a < n) (tab : TabG w B (.slice A n c) n n G t)
    (hq : ∀ x ∈ q, 0 ≤ x ∧ x < n) (hlq : q.length ≤ 1048576) (hB : CRead w w.heap.size Bq (icells q)) :
    Calls Try.prog 83 #[.slice A n c, .slice Bq q.length d, .int .i64 a] w fun e w' => e = .returned (.bool (q.all fun y => t a y.toNat)) ∧ w = w' := by
  obtain ⟨g, rfl⟩ := own_form tab.own (by omega)
  have d0 := tab.outer ha
  have hai : (a : Int) < n := by omega
  go_enter Try.func83, Try.ntmps83
  go_wp2
  go_loop [11] (fun i => ∃ k : Nat, k ≤ q.length ∧ i = .int .i64 k ∧ ∀ (j : Nat) (x : Int), j < k → q[j]? = some x → t a x.toNat = true) (fun i => q.length - (intOf i).toNat)
  case atStart => exact ⟨0, Nat.zero_le _, rfl, fun j x hj => by omega⟩
  case round =>
    obtain ⟨k, hk, rfl, hg⟩ := hrel
    have Hg := Lib.hid hg
    clear hg
    by_cases hlt : k < q.length
    · obtain ⟨x, hx⟩ := getSome q k hlt
      obtain ⟨b, off, rfl, hbb, c0⟩ := hB.int hx
      have hx0 := hq x (List.mem_of_getElem? hx)
      obtain ⟨y, rfl⟩ : ∃ y : Nat, x = y := ⟨x.toNat, by omega⟩
      have hki : (k : Int) < (q.length : Int) := by omega
      have hyi : (y : Int) < n := by omega
      have d1 := tab.cell ha (show y < n by omega)
      have Hx := Lib.hid hx
      clear hx
      cases ht : t a y with
      | false =>
        have e : (q.all fun y => t a y.toNat) = false := by
          rw [List.all_eq_false]
          exact ⟨_, List.mem_of_getElem? Hx.out, by simp [ht]⟩
        have He := Lib.hid e
        rw [ht] at d1
        clear e ht
        go_wp2
        go_ret
        exact ⟨by rw [He.out]; rfl, rfl⟩
      | true =>
        rw [ht] at d1
        have Ht := Lib.hid ht
        clear ht
        go_wp2
        go_round
        case rel =>
          refine ⟨k + 1, by omega, by go_num, fun j z hj hz => ?_⟩
          by_cases hjk : j = k
          · subst hjk
            rw [Hx.out] at hz
            simp only [Option.some.injEq] at hz
            subst hz
            exact Ht.out
          · exact Hg.out j z (by omega) hz
        case measure => simp [intOf]; omega
    · have hkl : k = q.length := by omega
      have hge : ¬ ((k : Int) < (q.length : Int)) := by omega
      have e : (q.all fun y => t a y.toNat) = true := by
        rw [List.all_eq_true]
        intro x hx
        obtain ⟨j, hj, e⟩ := List.getElem_of_mem hx
        exact Hg.out j x (by omega) (by rw [List.getElem?_eq_getElem hj, e])
      have He := Lib.hid e
      clear e
      go_wp2
      go_ret
      exact ⟨by rw [He.out]; rfl, rfl⟩

set_option maxHeartbeats 4000000 in
set_option maxRecDepth 100000 in
theorem specIsGroup_any (p : Int) (l : PL) (A : Option Addr) (c : Nat) (q : List Int) (B : Option Addr) (d : Nat) (w : World) (hl : l.length ≤ 1048576) (hA : CRead w w.heap.size A (pcells l)) (hq : q.length ≤ 1048576) (hB : CRead w w.heap.size B (icells q)) (hd : q.length ≤ d) :
    Calls Try.prog 40 #[.agg #[.int .i64 p, .slice A l.length c], .slice B q.length d] w fun e w' => e = .returned (.tuple #[.bool (resIsGroup p l q).1, .bool (resIsGroup p l q).2]) ∧ Below w.heap.size w w' := by
  have RA : CRead (w.alloc (Obj.cells #[.int .i64 p, .slice A l.length c] 29)) (w.alloc (Obj.cells #[.int .i64 p, .slice A l.length c] 29)).heap.size A (pcells l) := (hA.below (B' := w.heap.size) (by go_grown) (Nat.le_refl _)).more (by go_size)
  cases hp : isP p l with
  | false =>
    have e : resIsGroup p l q = (false, false) := by simp [resIsGroup, hp]
    rw [e]
    have Hp := Lib.hid hp
    clear hp e
    go_enter Try.func40, Try.ntmps40
    go_wp2_with fail
    refine (paGood_any _ _ _ _ _ hl RA).mono ?_
    rw [Hp.out]
    rintro e w2 ⟨rfl, hb2⟩
    simp only [World.size_alloc] at hb2
    go_wp2
    go_ret2
    exact ⟨rfl, Below.trans (b := _) (by go_grown) (hb2.mono (by omega))⟩
  | true =>
    obtain ⟨r, hr⟩ : ∃ r, isGroupI p l q = r := ⟨_, rfl⟩
    have e : resIsGroup p l q = (r, true) := by simp [resIsGroup, hp, hr]
    rw [e]
    have hn := isP_range hp
    obtain ⟨n, rfl⟩ : ∃ n : Nat, p = n := ⟨p.toNat, by omega⟩
    have hn12 : n ≤ 12 := by omega
    have Hp := Lib.hid hp
    have Hr := Lib.hid hr
    clear hp e hr
    go_enter Try.func40, Try.ntmps40
    go_wp2_with fail
    refine (paGood_any _ _ _ _ _ hl RA).mono ?_
    rw [Hp.out]
    rintro e w2 ⟨rfl, hb2⟩
    simp only [World.size_alloc] at hb2
    have a0 : w2.cell? ⟨w.heap.size, 0, none⟩ = some (.int .i64 n) := carry hb2 (by simp) (by omega)
    have a1 : w2.cell? ⟨w.heap.size, 1, none⟩ = some (.slice A l.length c) := carry hb2 (by simp) (by omega)
    have k2 : Below w.heap.size w w2 := Below.trans (b := _) (by go_grown) (hb2.mono (by omega))
    have s2 := hb2.size
    simp only [World.size_alloc] at s2
    go_wp2_with fail
    refine (paTable_any _ _ _ _ _ Hp.out ((hA.below k2 (Nat.le_refl _)).more k2.size)).mono ?_
    rintro e w3 ⟨A3, c3, G, rfl, tab, hb3⟩
    simp only [Int.toNat_natCast] at tab ⊢
    have k3 := k2.trans (hb3.mono k2.size)
    have b0 := carry hb3 a0 (by omega)
    have b1 := carry hb3 a1 (by omega)
    have RB := (hB.below k3 (Nat.le_refl _)).more k3.size
    have s3 := hb3.size
    clear a0 a1 hb2
    go_wp2
    go_loopw [16] (fun i wr => ∃ k : Nat, k ≤ q.length ∧ i = .int .i64 k ∧ (∀ j, j < k → groupAt n l q j = true) ∧ Below w3.heap.size w3 wr) (fun i _ => q.length - (intOf i).toNat)
    case atStart => exact ⟨0, Nat.zero_le _, rfl, fun j hj => by omega, Below.refl _ _⟩
    case round =>
      obtain ⟨k, hk, rfl, hg, hb⟩ := hrel
      have Hg := Lib.hid hg
      have sr := hb.size
      have k4 := k3.trans (hb.mono k3.size)
      have e0 := carry hb b0 (by omega)
      have e1 := carry hb b1 (by omega)
      have RB4 := (hB.below k4 (Nat.le_refl _)).more k4.size
      clear hg
      by_cases hlt : k < q.length
      · obtain ⟨x, hx⟩ := getSome q k hlt
        obtain ⟨b, off, rfl, hbb, u0⟩ := RB4.int hx
        have hki : (k : Int) < (q.length : Int) := by omega
        have hkd : (k : Int) ≤ (d : Int) := by omega
        have hkd2 : k ≤ d := by omega
        by_cases hman : 0 ≤ x ∧ x < n
        · obtain ⟨y, rfl⟩ : ∃ y : Nat, x = y := ⟨x.toNat, by omega⟩
          have Hm := Lib.hid (isMan_yes hman)
          have hyn : y < n := by omega
          have hlk : (q.take k).length = k := by rw [List.length_take]; omega
          have hpre : ∀ z ∈ q.take k, 0 ≤ z ∧ z < n := by
            intro z hz
            obtain ⟨j, hj, e⟩ := List.getElem_of_mem hz
            rw [List.length_take] at hj
            rw [List.getElem_take] at e
            have h1 := Hg.out j (by omega)
            unfold groupAt at h1
            rw [Bool.and_eq_true] at h1
            exact choiceAt_man h1.1 (by rw [List.getElem?_eq_getElem (by omega), e])
          have hkn : ((q.take k).all fun z => adj l y z.toNat) = knowsI l (q.take k) y := by simp [knowsI]
          have Hkn := Lib.hid hkn
          have RBf := RB4.front k
          have Hx := Lib.hid hx
          clear hkn
          by_cases hk0 : k = 0
          · have Hch := Lib.hid (choiceAt_zero (p := n) hk0 hx hman)
            have hkz : ¬ ((0 : Int) < (k : Int)) := by omega
            have hkz2 : ¬ (0 < k) := by omega
            clear hx hman hk0
            go_wp2_with fail
            refine (paHas_any n y A l.length c _ hn).mono ?_
            rw [Hm.out]
            rintro e w5 ⟨rfl, hb5⟩
            have h := trKnows_any n y (adj l) A3 c3 G w2.heap.size (q.take k) (some ⟨b, off, none⟩) d w5 hn12 hyn (tab.below (hb.trans (hb5.mono sr)) (Nat.le_refl _)) hpre (by omega) (RBf.below hb5 (Nat.le_refl _) |>.more hb5.size)
            rw [hlk, Hkn.out] at h
            go_wp2_with fail
            refine h.mono ?_
            rintro e w6 ⟨rfl, rfl⟩
            clear h
            cases hkv : knowsI l (q.take k) y with
            | false =>
              have Hkv := Lib.hid hkv
              have Hf := Lib.hid (isGroupI_no (p := n) (l := l) hlt (by unfold groupAt; rw [getD_is Hx.out, Hkv.out, Bool.and_false]))
              clear hkv
              go_wp2
              go_ret2
              exact ⟨by rw [← Hr.out, Hf.out]; rfl, k4.trans (hb5.mono k4.size)⟩
            | true =>
              have Hkv := Lib.hid hkv
              clear hkv
              go_wp2
              go_roundw
              case rel =>
                refine ⟨k + 1, by omega, by go_num, fun j hj => ?_, hb.trans (hb5.mono sr)⟩
                by_cases hjk : j = k
                · subst hjk
                  unfold groupAt
                  rw [getD_is Hx.out, Hkv.out, Hch.out]
                  rfl
                · exact Hg.out j (by omega)
              case measure => simp [intOf]; omega
          · obtain ⟨z, hz⟩ := getSome q (k - 1) (by omega)
            obtain ⟨b', off', he, hbb', v0⟩ := RB4.int hz
            simp only [Option.some.injEq, Addr.mk.injEq, and_true] at he
            obtain ⟨rfl, rfl⟩ := he
            have hkp : (0 : Int) < (k : Int) := by omega
            have hkp2 : 0 < k := by omega
            have hk1 : (k : Int) - 1 < (q.length : Int) := by omega
            have hk2 : 0 ≤ (k : Int) - 1 := by omega
            clear hk0
            by_cases hzy : z < y
            · have Hch := Lib.hid (choiceAt_later (p := n) hkp2 hz hx hman hzy)
              have hzn : ¬ ((y : Int) ≤ z) := by omega
              clear hx hman hz
              go_wp2_with fail
              refine (paHas_any n y A l.length c _ hn).mono ?_
              rw [Hm.out]
              rintro e w5 ⟨rfl, hb5⟩
              have v5 := carry hb5 v0 (by omega)
              have h := trKnows_any n y (adj l) A3 c3 G w2.heap.size (q.take k) (some ⟨b, off, none⟩) d w5 hn12 hyn (tab.below (hb.trans (hb5.mono sr)) (Nat.le_refl _)) hpre (by omega) (RBf.below hb5 (Nat.le_refl _) |>.more hb5.size)
              rw [hlk, Hkn.out] at h
              go_wp2_with fail
              refine h.mono ?_
              rintro e w6 ⟨rfl, rfl⟩
              clear h
              cases hkv : knowsI l (q.take k) y with
              | false =>
                have Hkv := Lib.hid hkv
                have Hf := Lib.hid (isGroupI_no (p := n) (l := l) hlt (by unfold groupAt; rw [getD_is Hx.out, Hkv.out, Bool.and_false]))
                clear hkv
                go_wp2
                go_ret2
                exact ⟨by rw [← Hr.out, Hf.out]; rfl, k4.trans (hb5.mono k4.size)⟩
              | true =>
                have Hkv := Lib.hid hkv
                clear hkv
                go_wp2
                go_roundw
                case rel =>
                  refine ⟨k + 1, by omega, by go_num, fun j hj => ?_, hb.trans (hb5.mono sr)⟩
                  by_cases hjk : j = k
                  · subst hjk
                    unfold groupAt
                    rw [getD_is Hx.out, Hkv.out, Hch.out]
                    rfl
                  · exact Hg.out j (by omega)
                case measure => simp [intOf]; omega
            · have Hf := Lib.hid (isGroupI_no (p := n) (l := l) hlt (by unfold groupAt; rw [choiceAt_stale hkp2 hz hx hzy, Bool.false_and]))
              have hzn : (y : Int) ≤ z := by omega
              clear hx hman hz
              go_wp2_with fail
              refine (paHas_any n y A l.length c _ hn).mono ?_
              rw [Hm.out]
              rintro e w5 ⟨rfl, hb5⟩
              have v5 := carry hb5 v0 (by omega)
              go_wp2
              go_ret2
              exact ⟨by rw [← Hr.out, Hf.out]; rfl, k4.trans (hb5.mono k4.size)⟩
        · have Hm := Lib.hid (isMan_no hman)
          have Hf := Lib.hid (isGroupI_no (p := n) (l := l) hlt (by unfold groupAt; rw [choiceAt_bad hx hman, Bool.false_and]))
          clear hman
          go_wp2_with fail
          refine (paHas_any n x A l.length c _ hn).mono ?_
          rw [Hm.out]
          rintro e w5 ⟨rfl, hb5⟩
          go_wp2
          go_ret2
          exact ⟨by rw [← Hr.out, Hf.out]; rfl, k4.trans (hb5.mono k4.size)⟩
      · have hkl : k = q.length := by omega
        have hge : ¬ ((k : Int) < (q.length : Int)) := by omega
        have Hf := Lib.hid (isGroupI_of (p := n) (l := l) (q := q) fun j hj => Hg.out j (by omega))
        go_wp2
        go_ret2
        exact ⟨by rw [← Hr.out, Hf.out]; rfl, k4⟩
end Go.Proofs.Ytaemodpolopcfaa
