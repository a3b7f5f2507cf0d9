/-
  'TwoAlike': the model's and the program's, by their contracts.
-/
import Derived.Test.YtkonibmmdinmbaaHang
import Derived.Test.YtkonibmmdinmbaaNumbers
import Derived.OwnWalk
namespace Go.Proofs.Ytkonibmmdinmbaa
open Go.RowKit

/-- how far behind a the next one with as many is, or -1 -/
def alikeAt (s : List Int) (a : Nat) : Int := Lib.idxOf (s.drop (a + 1)) (s.getD a 0)
def alikeI (s : List Int) : Int × Int × Bool := match (List.range s.length).find? fun a => decide (0 ≤ alikeAt s a) with | none => (0, 0, false) | some a => ((a : Int), (a : Int) + 1 + alikeAt s a, true)
theorem alikeAt_hit {s : List Int} {a b : Nat} (hab : a < b) (hb : b < s.length) (h : s.getD b 0 = s.getD a 0) (hne : ∀ j, a < j → j < b → s.getD j 0 ≠ s.getD a 0) : alikeAt s a = (b : Int) - a - 1 := by
  have hd : ∀ j, (s.drop (a + 1)).getD j 0 = s.getD (a + 1 + j) 0 := fun j => by simp [List.getD_eq_getElem?_getD, List.getElem?_drop]
  have h1 := Lib.idxOf_hit (s.drop (a + 1)) (s.drop (a + 1)).length (b - (a + 1)) (s.getD a 0) (by rw [List.length_drop]; omega) (Nat.le_refl _) (by rw [hd, show a + 1 + (b - (a + 1)) = b from by omega]; exact h) (fun j hj => by rw [hd]; exact hne _ (by omega) (by omega))
  rw [List.take_length] at h1
  unfold alikeAt
  rw [h1]
  omega
theorem alikeAt_miss {s : List Int} {a : Nat} (hne : ∀ j, a < j → j < s.length → s.getD j 0 ≠ s.getD a 0) : alikeAt s a = -1 := by
  have hd : ∀ j, (s.drop (a + 1)).getD j 0 = s.getD (a + 1 + j) 0 := fun j => by simp [List.getD_eq_getElem?_getD, List.getElem?_drop]
  have h1 := Lib.idxOf_miss (s.drop (a + 1)) (s.drop (a + 1)).length (s.getD a 0) (fun j hj => by rw [List.length_drop] at hj; rw [hd]; exact hne _ (by omega) (by omega))
  rw [List.take_length] at h1
  exact h1
theorem alikeI_at {s : List Int} {a : Nat} (ha : a < s.length) (h : ∀ j, j < a → alikeAt s j = -1) (hf : 0 ≤ alikeAt s a) : alikeI s = ((a : Int), (a : Int) + 1 + alikeAt s a, true) := by
  have : (List.range s.length).find? (fun a => decide (0 ≤ alikeAt s a)) = some a := by
    rw [List.find?_range_eq_some]
    exact ⟨decide_eq_true hf, by simpa using ha, fun j hj => by rw [h j hj]; rfl⟩
  unfold alikeI
  rw [this]
theorem alikeI_none {s : List Int} (h : ∀ j, j < s.length → alikeAt s j = -1) : alikeI s = (0, 0, false) := by
  have : (List.range s.length).find? (fun a => decide (0 ≤ alikeAt s a)) = none := by
    rw [List.find?_range_eq_none]
    intro j hj
    rw [h j hj]
    rfl
  unfold alikeI
  rw [this]
def resTwoAlike (p : Int) (l : PL) : Int × Int × Bool := if isP p l then alikeI (numsOf p.toNat l) else (0, 0, false)
theorem getD_at {s : List Int} {k : Nat} {x : Int} (h : s[k]? = some x) : s.getD k 0 = x := by rw [List.getD_eq_getElem?_getD, h]; rfl

set_option maxHeartbeats 1000000 in
set_option maxRecDepth 100000 in
theorem specTwoAlike_any (p : Int) (l : PL) (A : Option Addr) (c : Nat) (w : World) (hl : l.length ≤ 1048576) (hA : CRead w w.heap.size A (pcells l)) :
    Calls Try.prog 82 #[.agg #[.int .i64 p, .slice A l.length c]] w fun e w' => e = .returned (.tuple #[.int .i64 (resTwoAlike p l).1, .int .i64 (resTwoAlike p l).2.1, .bool (resTwoAlike p l).2.2]) ∧ Below w.heap.size w w' := by
  have hr : CRead (w.alloc (Obj.cells #[.int .i64 p, .slice A l.length c] 29)) (w.alloc (Obj.cells #[.int .i64 p, .slice A l.length c] 29)).heap.size A (pcells l) := (hA.below (B' := w.heap.size) (by go_grown) (Nat.le_refl _)).more (by go_size)
  cases hp : isP p l with
  | false =>
    have e : resTwoAlike p l = (0, 0, false) := by simp [resTwoAlike, hp]
    rw [e]
    have Hp := Lib.hid hp
    clear hp e
    go_enter Try.func82, Try.ntmps82
    go_wp2_with fail
    refine (paGood_any _ _ _ _ _ hl hr).mono ?_
    rw [Hp.out]
    rintro e w2 ⟨rfl, hb2⟩
    simp only [World.size_alloc] at hb2
    go_wp2
    go_ret3
    exact ⟨rfl, Below.trans (b := _) (by go_grown) (hb2.mono (by omega))⟩
  | true =>
    obtain ⟨⟨ra, rb, rok⟩, hres⟩ : ∃ r, alikeI (numsOf p.toNat l) = r := ⟨_, rfl⟩
    have e : resTwoAlike p l = (ra, rb, rok) := by simp [resTwoAlike, hp, hres]
    rw [e]
    have hn := isP_range hp
    have Hp := Lib.hid hp
    have Hres := Lib.hid hres
    clear hp e hres
    go_enter Try.func82, Try.ntmps82
    go_wp2_with fail
    refine (paGood_any _ _ _ _ _ hl hr).mono ?_
    rw [Hp.out]
    rintro e w2 ⟨rfl, hb2⟩
    simp only [World.size_alloc] at hb2
    have a0 : w2.cell? ⟨w.heap.size, 0, none⟩ = some (.int .i64 p) := carry hb2 (by simp) (by omega)
    have a1 : w2.cell? ⟨w.heap.size, 1, none⟩ = some (.slice A l.length c) := carry hb2 (by simp) (by omega)
    have k2 : Below w.heap.size w w2 := Below.trans (b := _) (by go_grown) (hb2.mono (by omega))
    go_wp2_with fail
    refine (paNumbers_any _ _ _ _ _ Hp.out ((hA.below k2 (Nat.le_refl _)).more k2.size)).mono ?_
    rintro e w3 ⟨g, rfl, own3, hb3⟩
    have k3 := k2.trans (hb3.mono k2.size)
    clear a0 a1 hb2
    have hs := numsOf_length p.toNat l
    generalize numsOf p.toNat l = s at *
    generalize hnn : p.toNat = n at *
    have hn12 : n ≤ 12 := by omega
    go_wp2
    go_loop [16] (fun i => ∃ a : Nat, a ≤ n ∧ i = .int .i64 a ∧ ∀ j, j < a → alikeAt s j = -1) (fun i => n - (intOf i).toNat)
    case atStart => exact ⟨0, Nat.zero_le _, rfl, fun j hj => by omega⟩
    case round =>
      obtain ⟨a, ha, rfl, hg⟩ := hrel
      have Hg := Lib.hid hg
      clear hg
      by_cases hlt : a < n
      · obtain ⟨x, hx⟩ := getSome s a (by omega)
        have d0 := own_intAt own3 hx
        have hai : (a : Int) < (n : Int) := by omega
        have Hx := Lib.hid (getD_at hx)
        clear hx
        go_wp2
        go_loop [8] (fun i => ∃ b : Nat, a < b ∧ b ≤ n ∧ i = .int .i64 b ∧ ∀ j, a < j → j < b → s.getD j 0 ≠ s.getD a 0) (fun i => n - (intOf i).toNat)
        case atStart => exact ⟨a + 1, by omega, by omega, by go_num, fun j h1 h2 => by omega⟩
        case round =>
          obtain ⟨b, hab, hbn, rfl, hne⟩ := hrel
          have Hne := Lib.hid hne
          clear hne
          by_cases hbt : b < n
          · obtain ⟨y, hy⟩ := getSome s b (by omega)
            have d1 := own_intAt own3 hy
            have hbi : (b : Int) < (n : Int) := by omega
            have Hy := Lib.hid (getD_at hy)
            clear hy
            by_cases hyx : y = x
            · subst hyx
              have h1 := alikeAt_hit hab (by omega) (by rw [Hx.out, Hy.out]) Hne.out
              have h2 := alikeI_at (by omega) Hg.out (by rw [h1]; omega)
              rw [Hres.out, h1] at h2
              simp only [Prod.mk.injEq] at h2
              obtain ⟨e1, e2, e3⟩ := h2
              have E1 := Lib.hid e1
              have E2 := Lib.hid e2
              have E3 := Lib.hid e3
              clear e1 e2 e3 h1
              go_wp2
              go_ret3
              exact ⟨by rw [E1.out, E2.out, E3.out, show (a : Int) + 1 + ((b : Int) - a - 1) = b from by omega]; rfl, k3⟩
            · go_wp2
              go_round
              case rel =>
                refine ⟨b + 1, by omega, by omega, by go_num, fun j h1 h2 => ?_⟩
                by_cases hjb : j = b
                · subst hjb; rw [Hy.out, Hx.out]; exact hyx
                · exact Hne.out j h1 (by omega)
              case measure => simp [intOf]; omega
          · have hbn' : b = n := by omega
            have hmiss := alikeAt_miss (s := s) (a := a) (fun j h1 h2 => Hne.out j h1 (by omega))
            have Hm := Lib.hid hmiss
            have hge : ¬ ((b : Int) < (n : Int)) := by omega
            clear hmiss
            go_wp2
            go_round
            case rel =>
              refine ⟨a + 1, by omega, by go_num, fun j hj => ?_⟩
              by_cases hja : j = a
              · subst hja; exact Hm.out
              · exact Hg.out j (by omega)
            case measure => simp [intOf]; omega
      · have h2 := alikeI_none (s := s) (fun j hj => Hg.out j (by omega))
        rw [Hres.out] at h2
        simp only [Prod.mk.injEq] at h2
        obtain ⟨e1, e2, e3⟩ := h2
        have E1 := Lib.hid e1
        have E2 := Lib.hid e2
        have E3 := Lib.hid e3
        clear e1 e2 e3
        have hge : ¬ ((a : Int) < (n : Int)) := by omega
        go_wp2
        go_ret3
        exact ⟨by rw [E1.out, E2.out, E3.out]; rfl, k3⟩

set_option maxRecDepth 100000 in
theorem indexI_any (b off n c : Nat) (zs : List Int) (x : Int) (w : World) (hz : zs.length = n) (hbig : n ≤ 1048576) (hc : ∀ j, j < zs.length → w.cell? ⟨b, off + j, none⟩ = some (.int .i64 (zs.getD j 0))) :
    Calls Try.prog 153 #[.slice (some ⟨b, off, none⟩) n c, .int .i64 x] w fun e w' => e = .returned (.int .i64 (Lib.idxOf zs x)) ∧ w' = w := by
  have h := AnyG.slices_Index_int Try.indexI b off n c zs x w (by omega) (by omega) hc
  rw [List.take_of_length_le (by omega)] at h
  change Calls Try.prog 153 _ _ _ at h
  exact h
theorem indexI_none (a : Option Addr) (c : Nat) (x : Int) (w : World) :
    Calls Try.prog 153 #[.slice a 0 c, .int .i64 x] w fun e w' => e = .returned (.int .i64 (Lib.idxOf [] x)) ∧ w' = w := by
  have h := AnyG.slices_Index_int_empty Try.indexI a c x w
  change Calls Try.prog 153 _ _ _ at h
  exact h

set_option maxHeartbeats 1000000 in
set_option maxRecDepth 100000 in
theorem implTwoAlike_any (p : Int) (l : PL) (A : Option Addr) (c : Nat) (w : World) (hl : l.length ≤ 1048576) (hA : CRead w w.heap.size A (pcells l)) :
    Calls Try.prog 83 #[.agg #[.int .i64 p, .slice A l.length c]] w fun e w' => e = .returned (.tuple #[.int .i64 (resTwoAlike p l).1, .int .i64 (resTwoAlike p l).2.1, .bool (resTwoAlike p l).2.2]) ∧ Below w.heap.size w w' := by
  have hr : CRead (w.alloc (Obj.cells #[.int .i64 p, .slice A l.length c] 29)) (w.alloc (Obj.cells #[.int .i64 p, .slice A l.length c] 29)).heap.size A (pcells l) := (hA.below (B' := w.heap.size) (by go_grown) (Nat.le_refl _)).more (by go_size)
  cases hp : isP p l with
  | false =>
    have e : resTwoAlike p l = (0, 0, false) := by simp [resTwoAlike, hp]
    have e2 : resNumbersOfFriends p l = ([], false) := by simp [resNumbersOfFriends, hp]
    rw [e]
    have E2 := Lib.hid e2
    clear hp e e2
    go_enter Try.func83, Try.ntmps83
    go_wp2_with fail
    refine (implNumbersOfFriends_any _ _ _ _ _ hl hr).mono ?_
    rw [E2.out]
    rintro e w2 ⟨A2, c2, rfl, own2, hb2⟩
    simp only [World.size_alloc] at hb2
    go_wp2
    go_ret3
    exact ⟨rfl, Below.trans (b := _) (by go_grown) (hb2.mono (by omega))⟩
  | true =>
    obtain ⟨⟨ra, rb, rok⟩, hres⟩ : ∃ r, alikeI (numsOf p.toNat l) = r := ⟨_, rfl⟩
    have e : resTwoAlike p l = (ra, rb, rok) := by simp [resTwoAlike, hp, hres]
    have e2 : resNumbersOfFriends p l = (numsOf p.toNat l, true) := by simp [resNumbersOfFriends, hp]
    rw [e]
    have hn := isP_range hp
    have E2 := Lib.hid e2
    have Hres := Lib.hid hres
    have hs := numsOf_length p.toNat l
    clear hp e hres e2
    go_enter Try.func83, Try.ntmps83
    go_wp2_with fail
    refine (implNumbersOfFriends_any _ _ _ _ _ hl hr).mono ?_
    rw [E2.out]
    clear E2
    generalize numsOf p.toNat l = s at *
    have hn12 : s.length ≤ 12 := by omega
    clear hs
    rintro e w2 ⟨A2, c2, rfl, own2, hb2⟩
    simp only [World.size_alloc] at hb2 own2
    have k2 : Below w.heap.size w w2 := Below.trans (b := _) (by go_grown) (hb2.mono (by omega))
    obtain ⟨A2', c2', he, hcap, hcm⟩ := own_shape own2
    simp only [Value.slice.injEq] at he
    obtain ⟨rfl, _, rfl⟩ := he
    have hcap' : (s.length : Int) ≤ c2 := by omega
    go_wp2
    go_loop [19] (fun i => ∃ a : Nat, a ≤ s.length ∧ i = .int .i64 a ∧ ∀ j, j < a → alikeAt s j = -1) (fun i => s.length - (intOf i).toNat)
    case atStart => exact ⟨0, Nat.zero_le _, rfl, fun j hj => by omega⟩
    case round =>
      obtain ⟨a, ha, rfl, hg⟩ := hrel
      have Hg := Lib.hid hg
      clear hg
      by_cases hlt : a < s.length
      · obtain ⟨g, rfl⟩ := own_form own2 (by omega)
        obtain ⟨x, hx⟩ := getSome s a hlt
        have d0 := own_intAt own2 hx
        have hai : (a : Int) < (s.length : Int) := by omega
        have hai1 : (a : Int) + 1 ≤ (s.length : Int) := by omega
        have hai2 : (a : Int) + 1 ≤ c2 := by omega
        have Hx := Lib.hid (getD_at hx)
        clear hx
        by_cases hcz : c2 = a + 1
        · subst hcz
          have hm : alikeAt s a = -1 := alikeAt_miss fun j h1 h2 => by omega
          have Hm := Lib.hid hm
          have hz : Lib.idxOf [] x = -1 := rfl
          clear hm
          go_wp2_with fail
          refine (indexI_none _ _ _ _).mono ?_
          rw [hz]
          rintro e w3 ⟨rfl, rfl⟩
          go_wp2
          go_round
          case rel =>
            refine ⟨a + 1, by omega, by go_num, fun j hj => ?_⟩
            by_cases hja : j = a
            · subst hja; exact Hm.out
            · exact Hg.out j (by omega)
          case measure => simp [intOf]; omega
        · have hcz2 : ¬ (c2 - (a + 1) = 0) := by omega
          have hcells : ∀ j, j < (s.drop (a + 1)).length → w2.cell? ⟨g, a + 1 + j, none⟩ = some (.int .i64 ((s.drop (a + 1)).getD j 0)) := by
            intro j hj
            rw [List.length_drop] at hj
            obtain ⟨y, hy⟩ := getSome s (a + 1 + j) (by omega)
            rw [own_intAt own2 hy]
            simp [List.getD_eq_getElem?_getD, List.getElem?_drop, hy]
          have Hc := Lib.hid hcells
          have hlen : (s.drop (a + 1)).length = s.length - (a + 1) := List.length_drop
          have Hlen := Lib.hid hlen
          obtain ⟨r, hr'⟩ : ∃ r, Lib.idxOf (s.drop (a + 1)) x = r := ⟨_, rfl⟩
          have hr2 : alikeAt s a = r := by unfold alikeAt; rw [Hx.out]; exact hr'
          have Hr := Lib.hid hr'
          have Hr2 := Lib.hid hr2
          have hrange : r = -1 ∨ (0 ≤ r ∧ r < s.length) := by
            by_cases hex : ∃ b, a < b ∧ b < s.length ∧ s.getD b 0 = s.getD a 0 ∧ ∀ j, a < j → j < b → s.getD j 0 ≠ s.getD a 0
            · obtain ⟨b, h1, h2, h3, h4⟩ := hex
              have := alikeAt_hit h1 h2 h3 h4
              omega
            · left
              rw [← hr2]
              refine alikeAt_miss ?_
              have key : ∀ m, ∀ j, a < j → j < s.length → j ≤ m → s.getD j 0 ≠ s.getD a 0 := by
                intro m
                induction m with
                | zero => intro j h1 h2 h3; omega
                | succ m ih =>
                  intro j h1 h2 h3 h4
                  exact hex ⟨j, h1, h2, h4, fun i hi1 hi2 => ih i hi1 (by omega) (by omega)⟩
              exact fun j h1 h2 => key j j h1 h2 (Nat.le_refl _)
          clear hcells hlen hr' hr2
          rcases hrange with hr0 | ⟨hr0, hr1⟩
          · subst hr0
            go_wp2_with fail
            refine (indexI_any _ _ _ _ (s.drop (a + 1)) _ _ Hlen.out (by omega) Hc.out).mono ?_
            rw [Hr.out]
            rintro e w3 ⟨rfl, rfl⟩
            go_wp2
            go_round
            case rel =>
              refine ⟨a + 1, by omega, by go_num, fun j hj => ?_⟩
              by_cases hja : j = a
              · subst hja; exact Hr2.out
              · exact Hg.out j (by omega)
            case measure => simp [intOf]; omega
          · have h2 := alikeI_at hlt Hg.out (by rw [Hr2.out]; exact hr0)
            rw [Hres.out, Hr2.out] at h2
            simp only [Prod.mk.injEq] at h2
            obtain ⟨e1, e2, e3⟩ := h2
            have E1 := Lib.hid e1
            have E2 := Lib.hid e2
            have E3 := Lib.hid e3
            clear e1 e2 e3
            go_wp2_with fail
            refine (indexI_any _ _ _ _ (s.drop (a + 1)) _ _ Hlen.out (by omega) Hc.out).mono ?_
            rw [Hr.out]
            rintro e w3 ⟨rfl, rfl⟩
            go_wp2
            go_ret3
            exact ⟨by rw [E1.out, E2.out, E3.out]; rfl, k2⟩
      · have h2 := alikeI_none (s := s) (fun j hj => Hg.out j (by omega))
        rw [Hres.out] at h2
        simp only [Prod.mk.injEq] at h2
        obtain ⟨e1, e2, e3⟩ := h2
        have E1 := Lib.hid e1
        have E2 := Lib.hid e2
        have E3 := Lib.hid e3
        clear e1 e2 e3
        have hge : ¬ ((a : Int) < (s.length : Int)) := by omega
        go_wp2
        go_ret3
        exact ⟨by rw [E1.out, E2.out, E3.out]; rfl, k2⟩
end Go.Proofs.Ytkonibmmdinmbaa
