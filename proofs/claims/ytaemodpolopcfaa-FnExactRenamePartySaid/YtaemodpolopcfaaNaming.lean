/-
  'impl.isNaming', by its contract.
-/
import Derived.Test.YtaemodpolopcfaaFriends
import Derived.Test.YtaemodpolopcfaaNameP
import Derived.Test.YtaemodpolopcfaaHas
import Derived.Deep.OwnRows
namespace Go.Proofs.Ytaemodpolopcfaa
open Go.RowKit

theorem twelve_false {i : Nat} (hi : i < 12) : (#[Value.bool false, .bool false, .bool false, .bool false, .bool false, .bool false, .bool false, .bool false, .bool false, .bool false, .bool false, .bool false] : Array Value)[i]? = some (.bool false) := by
  match i, hi with
  | 0, _ => rfl
  | 1, _ => rfl
  | 2, _ => rfl
  | 3, _ => rfl
  | 4, _ => rfl
  | 5, _ => rfl
  | 6, _ => rfl
  | 7, _ => rfl
  | 8, _ => rfl
  | 9, _ => rfl
  | 10, _ => rfl
  | 11, _ => rfl
theorem hasI_next {q : List Int} {k : Nat} {x : Nat} (hx : q[k]? = some (x : Int)) (m : Nat) : (if m = x then Value.bool true else .bool (hasI (q.take k) m)) = .bool (hasI (q.take (k + 1)) m) := by
  rw [List.take_add_one, hx, Option.toList_some]
  by_cases h : m = x
  · subst h
    rw [if_pos rfl, hasI_mem.2 (by simp)]
  · rw [if_neg h]
    congr 1
    rw [Bool.eq_iff_iff, hasI_mem, hasI_mem, List.mem_append, List.mem_singleton]
    constructor
    · exact .inl
    · rintro (h1 | h1)
      · exact h1
      · omega

set_option maxHeartbeats 1000000 in
set_option maxRecDepth 100000 in
theorem isNaming_any (p : Int) (q : List Int) (A B : Option Addr) (n c d : Nat) (w : World) (hp : 0 ≤ p ∧ p ≤ 12) (hB : CRead w w.heap.size B (icells q)) :
    Calls Try.prog 51 #[.agg #[.int .i64 p, .slice A n c], .slice B q.length d] w fun e w' => e = .returned (.bool (isNamingI p q)) ∧ Below w.heap.size w w' := by
  by_cases hl : (q.length : Int) = p
  · go_enter Try.func51, Try.ntmps51
    go_wp2
    go_loopw [15] (fun i wr => ∃ k : Nat, k ≤ q.length ∧ i = .int .i64 k ∧ (∀ (j : Nat) (x : Int), j < k → q[j]? = some x → (0 ≤ x ∧ x < p) ∧ x ∉ q.take j) ∧ wr.rowIs (w.heap.size + 1) 92 12 (fun m => .bool (hasI (q.take k) m)) ∧ Below (w.heap.size + 1) (w.alloc (Obj.cells #[.int .i64 p, .slice A n c] 29)) wr) (fun i _ => q.length - (intOf i).toNat)
    case atStart =>
      refine ⟨0, Nat.zero_le _, rfl, fun j x hj => by omega, ?_, by go_grown⟩
      have h := heap_alloc_new (w.alloc (Obj.cells #[.int .i64 p, .slice A n c] 29)) (Obj.cells #[Value.bool false, .bool false, .bool false, .bool false, .bool false, .bool false, .bool false, .bool false, .bool false, .bool false, .bool false, .bool false] 92)
      rw [World.size_alloc] at h
      exact ⟨_, h, rfl, fun i hi => twelve_false hi⟩
    case round =>
      obtain ⟨k, hk, rfl, hg, hrow, hb⟩ := hrel
      have Hg := Lib.hid hg
      have hs := hb.size
      simp only [World.size_alloc] at hs
      have hlr := hrow.lt
      have hbw : Below w.heap.size w wr := Below.trans (b := _) (by go_grown) (hb.mono (by omega))
      have u0 : wr.cell? ⟨w.heap.size, 0, none⟩ = some (.int .i64 p) := carry hb (by simp) (by omega)
      have u1 : wr.cell? ⟨w.heap.size, 1, none⟩ = some (.slice A n c) := carry hb (by simp) (by omega)
      clear hg
      by_cases hlt : k < q.length
      · obtain ⟨x, hx⟩ := getSome q k hlt
        obtain ⟨b, off, rfl, hbb, c0⟩ := (hB.below hbw (Nat.le_refl _)).int hx
        have hki : (k : Int) < (q.length : Int) := by omega
        have Hx := Lib.hid hx
        clear hx
        by_cases hman : 0 ≤ x ∧ x < p
        · obtain ⟨x', rfl⟩ : ∃ x' : Nat, x = x' := ⟨x.toNat, by omega⟩
          have Hm := Lib.hid (isMan_yes hman)
          have Hman := Lib.hid hman
          have hx12 : x' < 12 := by omega
          have hxi : (x' : Int) < 12 := by omega
          clear hman
          cases hh : hasI (q.take k) x' with
          | true =>
            have Hrow := Lib.hid hrow
            have He := Lib.hid (isNamingI_dup (p := p) Hx.out (hasI_mem.1 hh))
            have Hh := Lib.hid hh
            clear hh hrow
            go_wp2_with fail
            refine (isPerson_any p x' A n c _).mono ?_
            rw [Hm.out]
            rintro e w2 ⟨rfl, hb2⟩
            have r0 := carry hb2 (Hrow.out.cell hx12) (by omega)
            simp only [Hh.out] at r0
            go_wp2
            go_ret
            exact ⟨by rw [He.out]; rfl, hbw.trans (hb2.mono (by omega))⟩
          | false =>
            have hrow2 := fun (w2 : World) (hb2 : Below wr.heap.size wr w2) => hrow.of_block (hb2.block _ hlr)
            have Hrow := Lib.hid hrow
            have Hh := Lib.hid hh
            clear hrow
            go_wp2_with fail
            refine (isPerson_any p x' A n c _).mono ?_
            rw [Hm.out]
            rintro e w2 ⟨rfl, hb2⟩
            have h2 := hrow2 w2 hb2
            have r0 := h2.cell hx12
            have r1 := h2.frozen x'
            simp only [Hh.out] at r0
            have h3 := Lib.hid ((h2.set x' (.bool true)).congr fun m _ => hasI_next Hx.out m)
            have hb3 := Lib.hid ((hb.trans (hb2.mono (by omega))).setCell (p := ⟨w.heap.size + 1, x', none⟩) (Nat.le_refl _) (.bool true))
            have hnm : (x' : Int) ∉ q.take k := fun hm => by rw [hasI_mem.2 hm] at hh; cases hh
            clear h2 hrow2 hh hb
            go_wp2
            go_roundw
            case rel =>
              refine ⟨k + 1, by omega, by go_num, fun j z hj hz => ?_, h3.out, hb3.out⟩
              by_cases hjk : j = k
              · subst hjk
                rw [Hx.out] at hz
                simp only [Option.some.injEq] at hz
                subst hz
                exact ⟨Hman.out, hnm⟩
              · exact Hg.out j z (by omega) hz
            case measure => simp [intOf]; omega
        · have Hm := Lib.hid (isMan_no hman)
          have He := Lib.hid (isNamingI_bad (p := p) Hx.out hman)
          clear hman hrow
          go_wp2_with fail
          refine (isPerson_any p x A n c _).mono ?_
          rw [Hm.out]
          rintro e w2 ⟨rfl, hb2⟩
          go_wp2
          go_ret
          exact ⟨by rw [He.out]; rfl, hbw.trans (hb2.mono (by omega))⟩
      · have hkl : k = q.length := by omega
        have hge : ¬ ((k : Int) < (q.length : Int)) := by omega
        have He := Lib.hid (isNamingI_of hl fun j x hj hx => Hg.out j x (by omega) hx)
        clear hrow
        go_wp2
        go_ret
        exact ⟨by rw [He.out]; rfl, hbw⟩
  · have He := Lib.hid (isNamingI_len hl)
    go_enter Try.func51, Try.ntmps51
    go_wp2
    go_ret
    exact ⟨by rw [He.out]; rfl, by go_grown⟩
end Go.Proofs.Ytaemodpolopcfaa
