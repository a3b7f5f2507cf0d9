/-
  'RenameParty' of the model, by its contract.
-/
import Derived.Test.YtaemodpolopcfaaNameS
import Derived.Test.YtaemodpolopcfaaHas
namespace Go.Proofs.Ytaemodpolopcfaa
open Go.RowKit

def resRenameParty (p : Int) (l : PL) (q : List Int) : Int × PL × Bool := if isP p l && isNamingI p q then (p, sortP (namesP l q), true) else (0, [], false)
theorem l1AllN_mem {q : List Int} {lo hi : Int} (h : l1AllB q lo hi = true) {k : Nat} {x : Int} (hx : q[k]? = some x) : lo ≤ x ∧ x ≤ hi := by
  simp only [l1AllB, List.all_eq_true, decide_eq_true_eq] at h
  exact h x (List.mem_of_getElem? hx)
theorem isNamingI_not {p : Int} {q : List Int} (h : ¬ isNamingI p q = true) : isNamingI p q = false := by simpa using h
theorem isNamingI_range {p : Int} {q : List Int} (h : isNamingI p q = true) : l1AllB q 0 (p - 1) = true := by
  apply l1AllB_yes
  intro j x _ hx
  have := (isNamingI_parts h).2.1 x (List.mem_of_getElem? hx)
  omega
set_option maxHeartbeats 4000000 in
set_option maxRecDepth 100000 in
theorem specRenameParty_any (p : Int) (l : PL) (A : Option Addr) (c : Nat) (q : List Int) (B : Option Addr) (d : Nat) (w : World) (hl : l.length ≤ 1048576) (hA : CRead w w.heap.size A (pcells l)) (hq : q.length ≤ 1048576) (hB : CRead w w.heap.size B (icells q)) (hd : q.length ≤ d) :
    Calls Try.prog 14 #[.agg #[.int .i64 p, .slice A l.length c], .slice B q.length d] w (GotPartyOk w (resRenameParty p l q).1 (resRenameParty p l q).2.1 (resRenameParty p l q).2.2) := by
  generalize hW : (w.alloc (Obj.cells #[.int .i64 p, .slice A l.length c] 29)).alloc (Obj.cells #[.int .i64 0, .slice none 0 0] 29) = W
  have a0 : W.cell? ⟨w.heap.size, 0, none⟩ = some (.int .i64 p) := by rw [← hW]; simp
  have a1 : W.cell? ⟨w.heap.size, 1, none⟩ = some (.slice A l.length c) := by rw [← hW]; simp
  have X0 : W.cell? ⟨w.heap.size + 1, 0, none⟩ = some (.int .i64 0) := by rw [← hW]; simp
  have X1 : W.cell? ⟨w.heap.size + 1, 1, none⟩ = some (.slice none 0 0) := by rw [← hW]; simp
  have Z0 : W.frozen? ⟨w.heap.size + 1, 0, none⟩ = false := by rw [← hW]; simp
  have Z1 : W.frozen? ⟨w.heap.size + 1, 1, none⟩ = false := by rw [← hW]; simp
  have kW : Below w.heap.size w W := by rw [← hW]; go_grown
  have sW1 : w.heap.size < W.heap.size := by rw [← hW]; simp only [World.size_alloc]; omega
  have sW2 : w.heap.size + 1 < W.heap.size := by rw [← hW]; simp
  have RA := (hA.below kW (Nat.le_refl _)).more kW.size
  have RB := (hB.below kW (Nat.le_refl _)).more kW.size
  cases hp : isP p l with
  | false =>
    have e : resRenameParty p l q = (0, [], false) := by simp [resRenameParty, hp]
    rw [e]
    have Hp := Lib.hid hp
    have HW := Lib.hid hW
    clear hp e hW
    go_enter Try.func14, Try.ntmps14
    go_wp2_with fail
    rw [HW.out]
    refine (paGood_any _ _ _ _ _ hl RA).mono ?_
    rw [Hp.out]
    rintro e w2 ⟨rfl, hb2⟩
    have s2 := hb2.size
    have c0 := carry hb2 a0 sW1
    have c1 := carry hb2 a1 sW1
    have y0 := carry hb2 X0 sW2
    have y1 := carry hb2 X1 sW2
    have y2 := (hb2.frozen (p := ⟨w.heap.size + 1, 0, none⟩) sW2).trans Z0
    have y3 := (hb2.frozen (p := ⟨w.heap.size + 1, 1, none⟩) sW2).trans Z1
    have k2 := kW.trans (hb2.mono kW.size)
    clear a0 a1 X0 X1 Z0 Z1 HW
    go_wp2
    refine bodyPost_ret (v := .tuple #[.agg #[.int .i64 0, .slice none 0 0], .bool false]) (by simp [results, Try.results14, go_sem, y0, y1]) rfl ?_
    exact ⟨none, 0, rfl, World.ownsRow_nil _ _ _ _, (k2.setCell (p := ⟨w.heap.size + 1, 0, none⟩) (by simp) _).setCell (p := ⟨w.heap.size + 1, 1, none⟩) (by simp) _⟩
  | true =>
    have hn := isP_range hp
    by_cases hlong : (q.length : Int) = p
    · cases hall : l1AllB q 0 (p - 1) with
      | false =>
        have e : resRenameParty p l q = (0, [], false) := by simp [resRenameParty, isNamingI_not (p := p) (q := q) (fun h => by have := isNamingI_range h; rw [hall] at this; cases this)]
        rw [e]
        have Hp := Lib.hid hp
        have HW := Lib.hid hW
        have Hall := Lib.hid hall
        clear hp e hW hall
        go_enter Try.func14, Try.ntmps14
        go_wp2_with fail
        rw [HW.out]
        refine (paGood_any _ _ _ _ _ hl RA).mono ?_
        rw [Hp.out]
        rintro e w2 ⟨rfl, hb2⟩
        have s2 := hb2.size
        have c0 := carry hb2 a0 sW1
        have c1 := carry hb2 a1 sW1
        have y0 := carry hb2 X0 sW2
        have y1 := carry hb2 X1 sW2
        have y2 := (hb2.frozen (p := ⟨w.heap.size + 1, 0, none⟩) sW2).trans Z0
        have y3 := (hb2.frozen (p := ⟨w.heap.size + 1, 1, none⟩) sW2).trans Z1
        have k2 := kW.trans (hb2.mono kW.size)
        clear a0 a1 X0 X1 Z0 Z1 HW
        go_wp2_with fail
        refine (l1All_any q B d 0 (p - 1) _ hq ((RB.below hb2 (Nat.le_refl _)).more s2)).mono ?_
        rw [Hall.out]
        rintro e w3 ⟨rfl, rfl⟩
        go_wp2
        refine bodyPost_ret (v := .tuple #[.agg #[.int .i64 0, .slice none 0 0], .bool false]) (by simp [results, Try.results14, go_sem, y0, y1]) rfl ?_
        exact ⟨none, 0, rfl, World.ownsRow_nil _ _ _ _, (k2.setCell (p := ⟨w.heap.size + 1, 0, none⟩) (by simp) _).setCell (p := ⟨w.heap.size + 1, 1, none⟩) (by simp) _⟩
      | true =>
        have Hp := Lib.hid hp
        have HW := Lib.hid hW
        have Hall := Lib.hid hall
        clear hp hW hall
        go_enter Try.func14, Try.ntmps14
        go_wp2_with fail
        rw [HW.out]
        refine (paGood_any _ _ _ _ _ hl RA).mono ?_
        rw [Hp.out]
        rintro e w2 ⟨rfl, hb2⟩
        have s2 := hb2.size
        have c0 := carry hb2 a0 sW1
        have c1 := carry hb2 a1 sW1
        have y0 := carry hb2 X0 sW2
        have y1 := carry hb2 X1 sW2
        have y2 := (hb2.frozen (p := ⟨w.heap.size + 1, 0, none⟩) sW2).trans Z0
        have y3 := (hb2.frozen (p := ⟨w.heap.size + 1, 1, none⟩) sW2).trans Z1
        have k2 := kW.trans (hb2.mono kW.size)
        clear a0 a1 X0 X1 Z0 Z1 HW
        go_wp2_with fail
        refine (l1All_any q B d 0 (p - 1) _ hq ((RB.below hb2 (Nat.le_refl _)).more s2)).mono ?_
        rw [Hall.out]
        rintro e w3 ⟨rfl, rfl⟩
        go_wp2
        go_loopw [29] (fun i wr => ∃ k : Nat, k ≤ q.length ∧ i = .int .i64 k ∧ (∀ (j : Nat) (x : Int), j < k → q[j]? = some x → (0 ≤ x ∧ x < p) ∧ x ∉ q.take j) ∧ wr = w2) (fun i _ => q.length - (intOf i).toNat)
        case atStart => exact ⟨0, Nat.zero_le _, rfl, fun j x hj => by omega, rfl⟩
        case round =>
          obtain ⟨k, hk, rfl, hg, rfl⟩ := hrel
          have Hg := Lib.hid hg
          clear hg
          by_cases hlt : k < q.length
          · obtain ⟨x, hx⟩ := getSome q k hlt
            obtain ⟨b, off, rfl, hbb, u0⟩ := (hB.below k2 (Nat.le_refl _)).int hx
            have hki : (k : Int) < (q.length : Int) := by omega
            have hkd : (k : Int) ≤ (d : Int) := by omega
            have hkd2 : k ≤ d := by omega
            have hRq := ((RB.below hb2 (Nat.le_refl _)).more s2).front k
            have hlk : (q.take k).length = k := by rw [List.length_take]; omega
            have Hx := Lib.hid hx
            have Hr := Lib.hid (l1AllN_mem Hall.out hx)
            clear hx
            cases hh : hasI (q.take k) x with
            | true =>
              have e : resRenameParty p l q = (0, [], false) := by simp [resRenameParty, isNamingI_dup (p := p) Hx.out (hasI_mem.1 hh)]
              have Hh := Lib.hid hh
              have He := Lib.hid e
              clear hh e
              have h := l1Has_any (q.take k) x (some ⟨b, off, none⟩) d _ (by omega) hRq
              rw [hlk, Hh.out] at h
              go_wp2_with fail
              refine h.mono ?_
              rintro e w3 ⟨rfl, rfl⟩
              clear h
              go_wp2
              refine bodyPost_ret (v := .tuple #[.agg #[.int .i64 0, .slice none 0 0], .bool false]) (by simp [results, Try.results14, go_sem, y0, y1]) rfl ?_
              rw [He.out]
              exact ⟨none, 0, rfl, World.ownsRow_nil _ _ _ _, (k2.setCell (p := ⟨w.heap.size + 1, 0, none⟩) (by simp) _).setCell (p := ⟨w.heap.size + 1, 1, none⟩) (by simp) _⟩
            | false =>
              have hnm : x ∉ q.take k := fun hm => by rw [hasI_mem.2 hm] at hh; cases hh
              have Hnm := Lib.hid hnm
              have Hh := Lib.hid hh
              clear hh hnm
              have h := l1Has_any (q.take k) x (some ⟨b, off, none⟩) d _ (by omega) hRq
              rw [hlk, Hh.out] at h
              go_wp2_with fail
              refine h.mono ?_
              rintro e w3 ⟨rfl, rfl⟩
              clear h
              go_wp2
              go_roundw
              case rel =>
                refine ⟨k + 1, by omega, by go_num, fun j z hj hz => ?_, trivial⟩
                by_cases hjk : j = k
                · subst hjk
                  rw [Hx.out] at hz
                  simp only [Option.some.injEq] at hz
                  subst hz
                  exact ⟨by have := Hr.out; omega, Hnm.out⟩
                · exact Hg.out j z (by omega) hz
              case measure => simp [intOf]; omega
          · have hkl : k = q.length := by omega
            have hge : ¬ ((k : Int) < (q.length : Int)) := by omega
            have hc := isNamingI_of hlong (fun j x hj hx => Hg.out j x (by omega) hx)
            have e : resRenameParty p l q = (p, sortP (namesP l q), true) := by simp [resRenameParty, Hp.out, hc]
            have He := Lib.hid e
            have Hc := Lib.hid hc
            clear hc e
            go_wp2_with fail
            refine (paRename_any p l A c q B d _ Hp.out Hc.out ((RA.below hb2 (Nat.le_refl _)).more s2) ((RB.below hb2 (Nat.le_refl _)).more s2)).mono ?_
            rintro e w5 ⟨A5, c5, rfl, hown5, hb5⟩
            have x0 := carry hb5 y0 (by omega)
            have x1 := carry hb5 y1 (by omega)
            have x2 := (hb5.frozen (p := ⟨w.heap.size + 1, 0, none⟩) (by simp; omega)).trans y2
            have x3 := (hb5.frozen (p := ⟨w.heap.size + 1, 1, none⟩) (by simp; omega)).trans y3
            have k5 := k2.trans (hb5.mono k2.size)
            clear y0 y1 y2 y3 c0 c1
            go_wp2
            refine bodyPost_ret (v := .tuple #[.agg #[.int .i64 p, .slice A5 (sortP (namesP l q)).length c5], .bool true]) (by simp [results, Try.results14, go_sem, x0, x1]) rfl ?_
            rw [He.out]
            exact ⟨A5, c5, rfl, own_lower (ownsRow_setCell_below (ownsRow_setCell_below hown5 (a := ⟨w.heap.size + 1, 0, none⟩) (by simp; omega) _) (a := ⟨w.heap.size + 1, 1, none⟩) (by simp; omega) _) k2.size, (k5.setCell (p := ⟨w.heap.size + 1, 0, none⟩) (by simp) _).setCell (p := ⟨w.heap.size + 1, 1, none⟩) (by simp) _⟩
    · have e : resRenameParty p l q = (0, [], false) := by simp [resRenameParty, isNamingI_len hlong]
      rw [e]
      have Hp := Lib.hid hp
      have HW := Lib.hid hW
      clear hp e hW
      go_enter Try.func14, Try.ntmps14
      go_wp2_with fail
      rw [HW.out]
      refine (paGood_any _ _ _ _ _ hl RA).mono ?_
      rw [Hp.out]
      rintro e w2 ⟨rfl, hb2⟩
      have s2 := hb2.size
      have c0 := carry hb2 a0 sW1
      have c1 := carry hb2 a1 sW1
      have y0 := carry hb2 X0 sW2
      have y1 := carry hb2 X1 sW2
      have y2 := (hb2.frozen (p := ⟨w.heap.size + 1, 0, none⟩) sW2).trans Z0
      have y3 := (hb2.frozen (p := ⟨w.heap.size + 1, 1, none⟩) sW2).trans Z1
      have k2 := kW.trans (hb2.mono kW.size)
      clear a0 a1 X0 X1 Z0 Z1 HW
      go_wp2
      refine bodyPost_ret (v := .tuple #[.agg #[.int .i64 0, .slice none 0 0], .bool false]) (by simp [results, Try.results14, go_sem, y0, y1]) rfl ?_
      exact ⟨none, 0, rfl, World.ownsRow_nil _ _ _ _, (k2.setCell (p := ⟨w.heap.size + 1, 0, none⟩) (by simp) _).setCell (p := ⟨w.heap.size + 1, 1, none⟩) (by simp) _⟩
end Go.Proofs.Ytaemodpolopcfaa
