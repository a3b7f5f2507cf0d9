/-
  Texts put together for the claims of 'Seats' (pack 6): SeatS, Naming, SeatIs, Leave, Head, Facts.
-/
import Derived.Test.YtmiecebdkadhbaaSeatsP1
import Derived.Test.YtmiecebdkadhbaaSeatsP2
import Derived.Test.YtmiecebdkadhbaaSeatsP3
import Derived.Test.YtmiecebdkadhbaaSeatsP4
import Derived.Test.YtmiecebdkadhbaaSeatsP5
import Derived.BigRegion
import Derived.Deep.OwnRows
import Derived.Conc.Holds
import Derived.Leaving
import Derived.Handed
import Derived.Test.YtmiecebdkadhbaaProg
import Derived.Test.YtmiecebdkadhbaaRows
/-
  STRANGERS BESIDE EACH OTHER, the model's count, by its contract.
-/
namespace Go.Proofs.Ytmiecebdkadhbaa
open Go.RowKit

theorem drewN_below3 {B : Nat} {a w : World} (h : Below B a w) (n : Nat) : Below B a (w.drewN n) := h.trans ⟨rfl, rfl, rfl, Nat.le_refl _, fun _ _ => rfl⟩
set_option maxHeartbeats 1000000 in
set_option maxRecDepth 100000 in
theorem taStrange_any (n : Nat) (l : PL) (q : List Int) (A B : Option Addr) (c d : Nat) (G : Nat → Nat) (B0 : Nat) (w : World) (hn : n ≤ 12) (hq : q.length ≤ 12) (hin : ∀ x ∈ q, 0 ≤ x ∧ x < n) (tab : TabG w B0 (.slice A n c) n n G (adj l)) (hB : CRead w w.heap.size B (icells q)) :
    Calls Try.prog 56 #[.slice A n c, .slice B q.length d] w fun e w' => e = .returned (.int .i64 (if q.length = 0 then 0 else strangeN (adj l) (aroundP q))) ∧ Below w.heap.size w w' := by
  have hle := fun k => strangeN_take (adj l) (aroundP q) k
  have hnx := fun k (h : k < q.length) => strangeN_next (t := adj l) (aroundP_at h)
  have har := fun (h : 0 < q.length) => aroundP_length h
  obtain ⟨F, hF⟩ : ∃ F, (fun k => strangeN (adj l) ((aroundP q).take k)) = F := ⟨_, rfl⟩
  have hF2 : ∀ k, strangeN (adj l) ((aroundP q).take k) = F k := fun k => by rw [← hF]
  have h00 : F 0 = 0 := by rw [← hF2]; rfl
  have hfin : (if q.length = 0 then 0 else strangeN (adj l) (aroundP q)) = F q.length := by
    split
    · rename_i h; rw [h, h00]
    · rename_i h; rw [← hF2, ← har (by omega), List.take_length]
  obtain ⟨R, hR⟩ : ∃ R : Int, ((if q.length = 0 then 0 else strangeN (adj l) (aroundP q) : Nat) : Int) = R := ⟨_, rfl⟩
  have hR2 : R = F q.length := by rw [← hR, hfin]
  have hcast : (if q.length = 0 then (0 : Int) else ((strangeN (adj l) (aroundP q) : Nat) : Int)) = R := by rw [← hR]; split <;> rfl
  rw [hcast]
  simp only [hF2] at hle hnx
  have Hin := Lib.hid hin
  have Hnx := Lib.hid hnx
  have H00 := Lib.hid h00
  have Hle := Lib.hid hle
  have HR2 := Lib.hid hR2
  have Tab := Lib.hid tab
  clear hin hnx h00 hle hR2 tab hF hF2 hfin hR hcast har
  go_enter Try.func56, Try.ntmps56
  go_wp2
  go_loopw [5, 10] (fun m i wr => ∃ k : Nat, k ≤ q.length ∧ i = .int .i64 k ∧ m = .int .i64 (F k) ∧ Below w.heap.size w wr) (fun _ i _ => q.length - (intOf i).toNat)
  case atStart => exact ⟨0, Nat.zero_le _, rfl, by rw [H00.out]; rfl, Below.refl _ _⟩
  case round =>
    obtain ⟨k, hk, rfl, rfl, hb⟩ := hrel
    have sb := hb.size
    by_cases hlt : k < q.length
    · have hmod : (k + 1) % q.length < q.length := Nat.mod_lt _ (by omega)
      have hx := getD_at (s := q) hlt
      have hy := getD_at (s := q) hmod
      have hxr := getD_in Hin.out hlt
      have hyr := getD_in Hin.out hmod
      have hnext := Hnx.out k hlt
      obtain ⟨x, ex⟩ : ∃ x : Nat, q.getD k 0 = x := ⟨(q.getD k 0).toNat, by omega⟩
      obtain ⟨y, ey⟩ : ∃ x : Nat, q.getD ((k + 1) % q.length) 0 = x := ⟨(q.getD ((k + 1) % q.length) 0).toNat, by omega⟩
      rw [ex] at hx hxr hnext
      rw [ey] at hy hyr hnext
      have RB := hB.below hb (Nat.le_refl _)
      obtain ⟨bb, off, rfl, hbb, c0⟩ := RB.int hx
      obtain ⟨bb', off', e', _, c1⟩ := RB.int hy
      simp only [Option.some.injEq, Addr.mk.injEq, and_true] at e'
      obtain ⟨rfl, rfl⟩ := e'
      have tb := Tab.out.below hb (Nat.le_refl _)
      obtain ⟨g, rfl⟩ := own_form tb.own (by omega)
      have d0 := tb.outer (show x < n by omega)
      have d1 := tb.cell (show x < n by omega) (show y < n by omega)
      rw [adj_pr] at hnext
      have hki : (k : Int) < (q.length : Int) := by omega
      obtain ⟨m, hm⟩ : ∃ m, (k + 1) % q.length = m := ⟨_, rfl⟩
      have hrem : Int.tmod ((k : Int) + 1) (q.length : Int) = (m : Int) := by
        rw [← hm, Int.tmod_eq_emod_of_nonneg (by omega)]
        simp
      rw [hm] at c1 hmod
      have hl0 : ((q.length : Int) == 0) = false := by simp only [beq_eq_false_iff_ne, ne_eq]; omega
      have hmi : (m : Int) < (q.length : Int) := by omega
      have hm0 : (0 : Int) ≤ (m : Int) := by omega
      have htm : ((m : Int)).toNat = m := by omega
      have hxi : (x : Int) < (n : Int) := by omega
      have hyi : (y : Int) < (n : Int) := by omega
      have hx0 : (0 : Int) ≤ (x : Int) := by omega
      have hy0 : (0 : Int) ≤ (y : Int) := by omega
      have hFk := Hle.out k
      have hk1 : IntKind.i64.wrap ((k : Int) + 1) = (k : Int) + 1 := by simp [IntKind.wrap, IntKind.bits, IntKind.signed]; omega
      have Hnext := Lib.hid hnext
      have Hb := Lib.hid hb
      clear hnext hx hy RB tb hb hm ex ey hxr hyr
      cases hr : adj l x y with
      | true =>
        rw [hr] at d1
        have hn2 : F (k + 1) = F k := by have := Hnext.out; simpa [hr] using this
        have Hn2 := Lib.hid hn2
        clear hn2 hr
        go_wp2
        go_region
        go_wp2
        go_roundw
        case rel => exact ⟨k + 1, by omega, by go_num, by rw [Hn2.out], drewN_below3 Hb.out _⟩
        case measure => simp [intOf]; omega
      | false =>
        rw [hr] at d1
        have hn2 : F (k + 1) = F k + 1 := by have := Hnext.out; simpa [hr] using this
        have Hn2 := Lib.hid hn2
        clear hn2 hr
        go_wp2
        go_region
        go_wp2
        go_roundw
        case rel => exact ⟨k + 1, by omega, by go_num, by rw [Hn2.out]; go_num, drewN_below3 Hb.out _⟩
        case measure => simp [intOf]; omega
    · have hkl : k = q.length := by omega
      subst hkl
      have hge : ¬ ((q.length : Int) < (q.length : Int)) := by omega
      have e := HR2.out
      subst e
      go_wp2
      go_ret
      exact ⟨rfl, hb⟩
end Go.Proofs.Ytmiecebdkadhbaa
/-
  'impl.isNaming', by its contract.
-/
namespace Go.Proofs.Ytmiecebdkadhbaa
open Go.RowKit

theorem twelve_false {i : Nat} (hi : i < 12) : (#[Value.bool false, .bool false, .bool false, .bool false, .bool false, .bool false, .bool false, .bool false, .bool false, .bool false, .bool false, .bool false] : Array Value)[i]? = some (.bool false) := by
  match i, hi with
  | 0, _ => rfl
  | 1, _ => rfl
  | 2, _ => rfl
  | 3, _ => rfl
  | 4, _ => rfl
  | 5, _ => rfl
  | 6, _ => rfl
  | 7, _ => rfl
  | 8, _ => rfl
  | 9, _ => rfl
  | 10, _ => rfl
  | 11, _ => rfl
theorem hasI_next {q : List Int} {k : Nat} {x : Nat} (hx : q[k]? = some (x : Int)) (m : Nat) : (if m = x then Value.bool true else .bool (hasI (q.take k) m)) = .bool (hasI (q.take (k + 1)) m) := by
  rw [List.take_add_one, hx, Option.toList_some]
  by_cases h : m = x
  · subst h
    rw [if_pos rfl, hasI_mem.2 (by simp)]
  · rw [if_neg h]
    congr 1
    rw [Bool.eq_iff_iff, hasI_mem, hasI_mem, List.mem_append, List.mem_singleton]
    constructor
    · exact .inl
    · rintro (h1 | h1)
      · exact h1
      · omega

set_option maxHeartbeats 1000000 in
set_option maxRecDepth 100000 in
theorem isNaming_any (p : Int) (q : List Int) (A B : Option Addr) (n c d : Nat) (w : World) (hp : 0 ≤ p ∧ p ≤ 12) (hB : CRead w w.heap.size B (icells q)) :
    Calls Try.prog 97 #[.agg #[.int .i64 p, .slice A n c], .slice B q.length d] w fun e w' => e = .returned (.bool (isNamingI p q)) ∧ Below w.heap.size w w' := by
  by_cases hl : (q.length : Int) = p
  · go_enter Try.func97, Try.ntmps97
    go_wp2
    go_loopw [15] (fun i wr => ∃ k : Nat, k ≤ q.length ∧ i = .int .i64 k ∧ (∀ (j : Nat) (x : Int), j < k → q[j]? = some x → (0 ≤ x ∧ x < p) ∧ x ∉ q.take j) ∧ wr.rowIs (w.heap.size + 1) 143 12 (fun m => .bool (hasI (q.take k) m)) ∧ Below (w.heap.size + 1) (w.alloc (Obj.cells #[.int .i64 p, .slice A n c] 31)) wr) (fun i _ => q.length - (intOf i).toNat)
    case atStart =>
      refine ⟨0, Nat.zero_le _, rfl, fun j x hj => by omega, ?_, by go_grown⟩
      have h := heap_alloc_new (w.alloc (Obj.cells #[.int .i64 p, .slice A n c] 31)) (Obj.cells #[Value.bool false, .bool false, .bool false, .bool false, .bool false, .bool false, .bool false, .bool false, .bool false, .bool false, .bool false, .bool false] 143)
      rw [World.size_alloc] at h
      exact ⟨_, h, rfl, fun i hi => twelve_false hi⟩
    case round =>
      obtain ⟨k, hk, rfl, hg, hrow, hb⟩ := hrel
      have Hg := Lib.hid hg
      have hs := hb.size
      simp only [World.size_alloc] at hs
      have hlr := hrow.lt
      have hbw : Below w.heap.size w wr := Below.trans (b := _) (by go_grown) (hb.mono (by omega))
      have u0 : wr.cell? ⟨w.heap.size, 0, none⟩ = some (.int .i64 p) := carry hb (by simp) (by omega)
      have u1 : wr.cell? ⟨w.heap.size, 1, none⟩ = some (.slice A n c) := carry hb (by simp) (by omega)
      clear hg
      by_cases hlt : k < q.length
      · obtain ⟨x, hx⟩ := getSome q k hlt
        obtain ⟨b, off, rfl, hbb, c0⟩ := (hB.below hbw (Nat.le_refl _)).int hx
        have hki : (k : Int) < (q.length : Int) := by omega
        have Hx := Lib.hid hx
        clear hx
        by_cases hman : 0 ≤ x ∧ x < p
        · obtain ⟨x', rfl⟩ : ∃ x' : Nat, x = x' := ⟨x.toNat, by omega⟩
          have Hm := Lib.hid (isMan_yes hman)
          have Hman := Lib.hid hman
          have hx12 : x' < 12 := by omega
          have hxi : (x' : Int) < 12 := by omega
          clear hman
          cases hh : hasI (q.take k) x' with
          | true =>
            have Hrow := Lib.hid hrow
            have He := Lib.hid (isNamingI_dup (p := p) Hx.out (hasI_mem.1 hh))
            have Hh := Lib.hid hh
            clear hh hrow
            go_wp2_with fail
            refine (isPerson_any p x' A n c _).mono ?_
            rw [Hm.out]
            rintro e w2 ⟨rfl, hb2⟩
            have r0 := carry hb2 (Hrow.out.cell hx12) (by omega)
            simp only [Hh.out] at r0
            go_wp2
            go_ret
            exact ⟨by rw [He.out]; rfl, hbw.trans (hb2.mono (by omega))⟩
          | false =>
            have hrow2 := fun (w2 : World) (hb2 : Below wr.heap.size wr w2) => hrow.of_block (hb2.block _ hlr)
            have Hrow := Lib.hid hrow
            have Hh := Lib.hid hh
            clear hrow
            go_wp2_with fail
            refine (isPerson_any p x' A n c _).mono ?_
            rw [Hm.out]
            rintro e w2 ⟨rfl, hb2⟩
            have h2 := hrow2 w2 hb2
            have r0 := h2.cell hx12
            have r1 := h2.frozen x'
            simp only [Hh.out] at r0
            have h3 := Lib.hid ((h2.set x' (.bool true)).congr fun m _ => hasI_next Hx.out m)
            have hb3 := Lib.hid ((hb.trans (hb2.mono (by omega))).setCell (p := ⟨w.heap.size + 1, x', none⟩) (Nat.le_refl _) (.bool true))
            have hnm : (x' : Int) ∉ q.take k := fun hm => by rw [hasI_mem.2 hm] at hh; cases hh
            clear h2 hrow2 hh hb
            go_wp2
            go_roundw
            case rel =>
              refine ⟨k + 1, by omega, by go_num, fun j z hj hz => ?_, h3.out, hb3.out⟩
              by_cases hjk : j = k
              · subst hjk
                rw [Hx.out] at hz
                simp only [Option.some.injEq] at hz
                subst hz
                exact ⟨Hman.out, hnm⟩
              · exact Hg.out j z (by omega) hz
            case measure => simp [intOf]; omega
        · have Hm := Lib.hid (isMan_no hman)
          have He := Lib.hid (isNamingI_bad (p := p) Hx.out hman)
          clear hman hrow
          go_wp2_with fail
          refine (isPerson_any p x A n c _).mono ?_
          rw [Hm.out]
          rintro e w2 ⟨rfl, hb2⟩
          go_wp2
          go_ret
          exact ⟨by rw [He.out]; rfl, hbw.trans (hb2.mono (by omega))⟩
      · have hkl : k = q.length := by omega
        have hge : ¬ ((k : Int) < (q.length : Int)) := by omega
        have He := Lib.hid (isNamingI_of hl fun j x hj hx => Hg.out j x (by omega) hx)
        clear hrow
        go_wp2
        go_ret
        exact ⟨by rw [He.out]; rfl, hbw⟩
  · have He := Lib.hid (isNamingI_len hl)
    go_enter Try.func97, Try.ntmps97
    go_wp2
    go_ret
    exact ⟨by rw [He.out]; rfl, by go_grown⟩
end Go.Proofs.Ytmiecebdkadhbaa
/-
  'IsSeating', 'IsRow', 'StrangersBeside': the model's and the program's, by their contracts.
-/
namespace Go.Proofs.Ytmiecebdkadhbaa
open Go.RowKit

theorem strangeN_part (t : Nat → Nat → Bool) (L : PL) (k : Nat) : strangeN t (L.take k) ≤ strangeN t L := ((List.take_sublist k L).filter _).length_le
def seatB (m : Nat) (F : List Int → PL) (p : Int) (l : PL) (q : List Int) : Bool := decide (m ≤ q.length) && isNamingI p q && decide (strangeN (adj l) (F q) = 0)
theorem seatB_few {m : Nat} {F : List Int → PL} {p : Int} {l : PL} {q : List Int} (h : ¬ (m ≤ q.length)) : seatB m F p l q = false := by unfold seatB; rw [decide_eq_false h]; rfl
theorem seatB_none {m : Nat} {F : List Int → PL} {p : Int} {l : PL} {q : List Int} (h : isNamingI p q = false) : seatB m F p l q = false := by unfold seatB; rw [h, Bool.and_false]; rfl
theorem seatB_at {m : Nat} {F : List Int → PL} {p : Int} {l : PL} {q : List Int} (h1 : m ≤ q.length) (h2 : isNamingI p q = true) : seatB m F p l q = decide (strangeN (adj l) (F q) = 0) := by unfold seatB; rw [decide_eq_true h1, h2]; rfl
set_option maxHeartbeats 1000000 in
set_option maxRecDepth 100000 in
theorem specIsSeating_any (p : Int) (l : PL) (A : Option Addr) (c : Nat) (q : List Int) (B : Option Addr) (d : Nat) (w : World) (hl : l.length ≤ 1048576) (hA : CRead w w.heap.size A (pcells l)) (hq : q.length ≤ 1048576) (hB : CRead w w.heap.size B (icells q)) (hd : q.length ≤ d) :
    Calls Try.prog 16 #[.agg #[.int .i64 p, .slice A l.length c], .slice B q.length d] w fun e w' => e = .returned (.tuple #[.bool (resIsSeating p l q).1, .bool (resIsSeating p l q).2]) ∧ Below w.heap.size w w' := by
  have hr : CRead (w.alloc (Obj.cells #[.int .i64 p, .slice A l.length c] 31)) (w.alloc (Obj.cells #[.int .i64 p, .slice A l.length c] 31)).heap.size A (pcells l) := (hA.below (B' := w.heap.size) (by go_grown) (Nat.le_refl _)).more (by go_size)
  obtain ⟨⟨rv, rok⟩, hres⟩ : ∃ x, resIsSeating p l q = x := ⟨_, rfl⟩
  rw [hres]
  cases hp : isP p l with
  | false =>
    have e : (rv, rok) = (false, false) := by rw [← hres]; unfold resIsSeating; rw [hp]; rfl
    simp only [Prod.mk.injEq] at e
    obtain ⟨rfl, rfl⟩ := e
    have Hp := Lib.hid hp
    clear hp hres
    go_enter Try.func16, Try.ntmps16
    go_wp2_with fail
    refine (paGood_any _ _ _ _ _ hl hr).mono ?_
    rw [Hp.out]
    rintro e w2 ⟨rfl, hb2⟩
    simp only [World.size_alloc] at hb2
    go_wp2
    go_ret2
    exact ⟨rfl, Below.trans (b := _) (by go_grown) (hb2.mono (by omega))⟩
  | true =>
    obtain ⟨n, rfl⟩ : ∃ n : Nat, p = n := ⟨p.toNat, by have := isP_range hp; omega⟩
    have hn := isP_range hp
    have e : (rv, rok) = (seatB 3 aroundP n l q, true) := by rw [← hres]; unfold resIsSeating; rw [hp]; rfl
    simp only [Prod.mk.injEq] at e
    obtain ⟨hrv, rfl⟩ := e
    by_cases h3 : 3 ≤ q.length
    · have h3i : (2 : Int) < (q.length : Int) := by omega
      cases hnam : isNamingI n q with
      | false =>
        rw [seatB_none hnam] at hrv
        subst hrv
        have Hp := Lib.hid hp
        have Hnam := Lib.hid hnam
        clear hp hres hnam
        go_enter Try.func16, Try.ntmps16
        go_wp2_with fail
        refine (paGood_any _ _ _ _ _ hl hr).mono ?_
        rw [Hp.out]
        rintro e w2 ⟨rfl, hb2⟩
        have c0 : w2.cell? ⟨w.heap.size, 0, none⟩ = some (.int .i64 n) := carry hb2 (by simp) (by simp)
        have c1 : w2.cell? ⟨w.heap.size, 1, none⟩ = some (.slice A l.length c) := carry hb2 (by simp) (by simp)
        have s2 := hb2.size
        simp only [World.size_alloc] at hb2 s2
        have k2 : Below w.heap.size w w2 := Below.trans (b := _) (by go_grown) (hb2.mono (by omega))
        go_wp2_with fail
        refine (grOrder_any n q B d _ (by omega) hq hd ((hB.below k2 (Nat.le_refl _)).more k2.size)).mono ?_
        rw [Hnam.out]
        rintro e w3 ⟨rfl, rfl⟩
        go_wp2
        go_ret2
        exact ⟨rfl, k2⟩
      | true =>
        rw [seatB_at h3 hnam] at hrv
        obtain ⟨hql, hmem, _⟩ := isNamingI_parts hnam
        have cals := fun (A' : Option Addr) (c' : Nat) (G : Nat → Nat) (B0 : Nat) (X : World) t hX => taStrange_any n l q A' B c' d G B0 X (by omega) (by omega) hmem t hX
        rw [if_neg (show ¬ q.length = 0 by omega)] at cals
        obtain ⟨R, hR⟩ : ∃ R, strangeN (adj l) (aroundP q) = R := ⟨_, rfl⟩
        simp only [hR] at cals hrv
        have calt := fun X hX => paTable_any n l A c X hp hX
        simp only [Int.toNat_natCast] at calt
        have Hp := Lib.hid hp
        have Hnam := Lib.hid hnam
        have Cals := Lib.hid cals
        have Calt := Lib.hid calt
        have Hrv := Lib.hid hrv
        clear hp hres hnam hR cals calt hmem hql hrv
        go_enter Try.func16, Try.ntmps16
        go_wp2_with fail
        refine (paGood_any _ _ _ _ _ hl hr).mono ?_
        rw [Hp.out]
        rintro e w2 ⟨rfl, hb2⟩
        have c0 : w2.cell? ⟨w.heap.size, 0, none⟩ = some (.int .i64 n) := carry hb2 (by simp) (by simp)
        have c1 : w2.cell? ⟨w.heap.size, 1, none⟩ = some (.slice A l.length c) := carry hb2 (by simp) (by simp)
        have s2 := hb2.size
        simp only [World.size_alloc] at hb2 s2
        have k2 : Below w.heap.size w w2 := Below.trans (b := _) (by go_grown) (hb2.mono (by omega))
        go_wp2_with fail
        refine (grOrder_any n q B d _ (by omega) hq hd ((hB.below k2 (Nat.le_refl _)).more k2.size)).mono ?_
        rw [Hnam.out]
        rintro e w3 ⟨rfl, rfl⟩
        go_wp2_with fail
        refine (Calt.out _ ((hA.below k2 (Nat.le_refl _)).more k2.size)).mono ?_
        rintro e w4 ⟨A4, c4, G, rfl, tab, hb4⟩
        have k4 := k2.trans (hb4.mono k2.size)
        have Tab := Lib.hid tab
        clear tab c0 c1 hb2
        go_wp2_with fail
        refine (Cals.out A4 c4 G _ _ Tab.out ((hB.below k4 (Nat.le_refl _)).more k4.size)).mono ?_
        rintro e w5 ⟨rfl, hb5⟩
        have k5 := k4.trans (hb5.mono k4.size)
        have hrv := Hrv.out
        by_cases h0 : R = 0
        · subst h0
          rw [decide_eq_true rfl] at hrv
          subst hrv
          go_wp2
          go_ret2
          exact ⟨rfl, k5⟩
        · rw [decide_eq_false h0] at hrv
          subst hrv
          have hne : ((R : Int) == 0) = false := by simp only [beq_eq_false_iff_ne, ne_eq]; omega
          go_wp2
          go_ret2
          exact ⟨rfl, k5⟩
    · have h3i : ¬ ((2 : Int) < (q.length : Int)) := by omega
      rw [seatB_few h3] at hrv
      subst hrv
      have Hp := Lib.hid hp
      clear hp hres
      go_enter Try.func16, Try.ntmps16
      go_wp2_with fail
      refine (paGood_any _ _ _ _ _ hl hr).mono ?_
      rw [Hp.out]
      rintro e w2 ⟨rfl, hb2⟩
      have c0 : w2.cell? ⟨w.heap.size, 0, none⟩ = some (.int .i64 n) := carry hb2 (by simp) (by simp)
      have c1 : w2.cell? ⟨w.heap.size, 1, none⟩ = some (.slice A l.length c) := carry hb2 (by simp) (by simp)
      have s2 := hb2.size
      simp only [World.size_alloc] at hb2 s2
      have k2 : Below w.heap.size w w2 := Below.trans (b := _) (by go_grown) (hb2.mono (by omega))
      go_wp2
      go_ret2
      exact ⟨rfl, k2⟩
set_option maxHeartbeats 1000000 in
set_option maxRecDepth 100000 in
theorem specIsRow_any (p : Int) (l : PL) (A : Option Addr) (c : Nat) (q : List Int) (B : Option Addr) (d : Nat) (w : World) (hl : l.length ≤ 1048576) (hA : CRead w w.heap.size A (pcells l)) (hq : q.length ≤ 1048576) (hB : CRead w w.heap.size B (icells q)) (hd : q.length ≤ d) :
    Calls Try.prog 22 #[.agg #[.int .i64 p, .slice A l.length c], .slice B q.length d] w fun e w' => e = .returned (.tuple #[.bool (resIsRow p l q).1, .bool (resIsRow p l q).2]) ∧ Below w.heap.size w w' := by
  have hr : CRead (w.alloc (Obj.cells #[.int .i64 p, .slice A l.length c] 31)) (w.alloc (Obj.cells #[.int .i64 p, .slice A l.length c] 31)).heap.size A (pcells l) := (hA.below (B' := w.heap.size) (by go_grown) (Nat.le_refl _)).more (by go_size)
  obtain ⟨⟨rv, rok⟩, hres⟩ : ∃ x, resIsRow p l q = x := ⟨_, rfl⟩
  rw [hres]
  cases hp : isP p l with
  | false =>
    have e : (rv, rok) = (false, false) := by rw [← hres]; unfold resIsRow; rw [hp]; rfl
    simp only [Prod.mk.injEq] at e
    obtain ⟨rfl, rfl⟩ := e
    have Hp := Lib.hid hp
    clear hp hres
    go_enter Try.func22, Try.ntmps22
    go_wp2_with fail
    refine (paGood_any _ _ _ _ _ hl hr).mono ?_
    rw [Hp.out]
    rintro e w2 ⟨rfl, hb2⟩
    simp only [World.size_alloc] at hb2
    go_wp2
    go_ret2
    exact ⟨rfl, Below.trans (b := _) (by go_grown) (hb2.mono (by omega))⟩
  | true =>
    obtain ⟨n, rfl⟩ : ∃ n : Nat, p = n := ⟨p.toNat, by have := isP_range hp; omega⟩
    have hn := isP_range hp
    have e : (rv, rok) = (seatB 1 alongP n l q, true) := by rw [← hres]; unfold resIsRow; rw [hp]; rfl
    simp only [Prod.mk.injEq] at e
    obtain ⟨hrv, rfl⟩ := e
    by_cases h3 : 1 ≤ q.length
    · have h3i : ((q.length : Int) == 0) = false := by simp only [beq_eq_false_iff_ne, ne_eq]; omega
      cases hnam : isNamingI n q with
      | false =>
        rw [seatB_none hnam] at hrv
        subst hrv
        have Hp := Lib.hid hp
        have Hnam := Lib.hid hnam
        clear hp hres hnam
        go_enter Try.func22, Try.ntmps22
        go_wp2_with fail
        refine (paGood_any _ _ _ _ _ hl hr).mono ?_
        rw [Hp.out]
        rintro e w2 ⟨rfl, hb2⟩
        have c0 : w2.cell? ⟨w.heap.size, 0, none⟩ = some (.int .i64 n) := carry hb2 (by simp) (by simp)
        have c1 : w2.cell? ⟨w.heap.size, 1, none⟩ = some (.slice A l.length c) := carry hb2 (by simp) (by simp)
        have s2 := hb2.size
        simp only [World.size_alloc] at hb2 s2
        have k2 : Below w.heap.size w w2 := Below.trans (b := _) (by go_grown) (hb2.mono (by omega))
        go_wp2_with fail
        refine (grOrder_any n q B d _ (by omega) hq hd ((hB.below k2 (Nat.le_refl _)).more k2.size)).mono ?_
        rw [Hnam.out]
        rintro e w3 ⟨rfl, rfl⟩
        go_wp2
        go_ret2
        exact ⟨rfl, k2⟩
      | true =>
        rw [seatB_at h3 hnam] at hrv
        obtain ⟨hql, hmem, _⟩ := isNamingI_parts hnam
        have hnx := fun k (h : k < q.length - 1) => strangeN_next (t := adj l) (alongP_at h)
        have hpt := fun k => strangeN_part (adj l) (alongP q) k
        obtain ⟨F, hF⟩ : ∃ F, (fun k => strangeN (adj l) ((alongP q).take k)) = F := ⟨_, rfl⟩
        have hF2 : ∀ k, strangeN (adj l) ((alongP q).take k) = F k := fun k => by rw [← hF]
        have h00 : F 0 = 0 := by rw [← hF2]; rfl
        have hfin : strangeN (adj l) (alongP q) = F (q.length - 1) := by rw [← hF2, ← alongP_length, List.take_length]
        simp only [hF2] at hnx hpt
        rw [hfin] at hrv
        simp only [hfin] at hpt
        have calt := fun X hX => paTable_any n l A c X hp hX
        simp only [Int.toNat_natCast] at calt
        have Hp := Lib.hid hp
        have Hnam := Lib.hid hnam
        have Calt := Lib.hid calt
        have Hrv := Lib.hid hrv
        have Hnx := Lib.hid hnx
        have Hpt := Lib.hid hpt
        have H00 := Lib.hid h00
        have Hmem := Lib.hid hmem
        have Hql := Lib.hid hql
        clear hp hres hnam calt hrv hnx hpt hF hF2 h00 hfin hmem hql
        go_enter Try.func22, Try.ntmps22
        go_wp2_with fail
        refine (paGood_any _ _ _ _ _ hl hr).mono ?_
        rw [Hp.out]
        rintro e w2 ⟨rfl, hb2⟩
        have c0 : w2.cell? ⟨w.heap.size, 0, none⟩ = some (.int .i64 n) := carry hb2 (by simp) (by simp)
        have c1 : w2.cell? ⟨w.heap.size, 1, none⟩ = some (.slice A l.length c) := carry hb2 (by simp) (by simp)
        have s2 := hb2.size
        simp only [World.size_alloc] at hb2 s2
        have k2 : Below w.heap.size w w2 := Below.trans (b := _) (by go_grown) (hb2.mono (by omega))
        go_wp2_with fail
        refine (grOrder_any n q B d _ (by omega) hq hd ((hB.below k2 (Nat.le_refl _)).more k2.size)).mono ?_
        rw [Hnam.out]
        rintro e w3 ⟨rfl, rfl⟩
        go_wp2_with fail
        refine (Calt.out _ ((hA.below k2 (Nat.le_refl _)).more k2.size)).mono ?_
        rintro e w4 ⟨A4, c4, G, rfl, tab, hb4⟩
        have k4 := k2.trans (hb4.mono k2.size)
        have Tab := Lib.hid tab
        have K4 := Lib.hid k4
        clear tab c0 c1 hb2 k4 hb4 k2
        go_wp2
        go_loopw [7] (fun i wr => ∃ k : Nat, k ≤ q.length - 1 ∧ i = .int .i64 ((k + 1 : Nat) : Int) ∧ F k = 0 ∧ Below w4.heap.size w4 wr) (fun i _ => q.length - (intOf i).toNat)
        case atStart => exact ⟨0, Nat.zero_le _, rfl, H00.out, Below.refl _ _⟩
        case round =>
          obtain ⟨k, hk, rfl, hFk, hb⟩ := hrel
          have sb := hb.size
          have HFk := Lib.hid hFk
          clear hFk
          by_cases hlt : k + 1 < q.length
          · have hx := getD_at (s := q) (show k < q.length by omega)
            have hy := getD_at (s := q) hlt
            have hxr := getD_in Hmem.out (show k < q.length by omega)
            have hyr := getD_in Hmem.out hlt
            have hnext := Hnx.out k (by omega)
            obtain ⟨x, ex⟩ : ∃ x : Nat, q.getD k 0 = x := ⟨(q.getD k 0).toNat, by omega⟩
            obtain ⟨y, ey⟩ : ∃ x : Nat, q.getD (k + 1) 0 = x := ⟨(q.getD (k + 1) 0).toNat, by omega⟩
            rw [ex] at hx hxr hnext
            rw [ey] at hy hyr hnext
            have RB := hB.below (K4.out.trans (hb.mono K4.out.size)) (Nat.le_refl _)
            obtain ⟨bb, off, rfl, hbb, d0⟩ := RB.int hx
            obtain ⟨bb', off', e', _, d1⟩ := RB.int hy
            simp only [Option.some.injEq, Addr.mk.injEq, and_true] at e'
            obtain ⟨rfl, rfl⟩ := e'
            have tb := Tab.out.below hb (Nat.le_refl _)
            obtain ⟨g, rfl⟩ := own_form tb.own (by omega)
            have e0 := tb.outer (show x < n by omega)
            have e1 := tb.cell (show x < n by omega) (show y < n by omega)
            rw [adj_pr] at hnext
            have hki : ((k + 1 : Nat) : Int) < (q.length : Int) := by omega
            have hki2 : (k : Int) + 1 < (q.length : Int) := by omega
            have hk0 : (0 : Int) ≤ (k : Int) := by omega
            have hk1 : (0 : Int) ≤ (k : Int) + 1 := by omega
            have hkq : (k : Int) < (q.length : Int) := by omega
            have hwk : IntKind.i64.wrap (k : Int) = k := by simp [IntKind.wrap, IntKind.bits, IntKind.signed]; omega
            have htk : ((k : Int)).toNat = k := by omega
            have htk1 : ((k : Int) + 1).toNat = k + 1 := by omega
            have hxi : (x : Int) < (n : Int) := by omega
            have hyi : (y : Int) < (n : Int) := by omega
            have hx0 : (0 : Int) ≤ (x : Int) := by omega
            have hy0 : (0 : Int) ≤ (y : Int) := by omega
            have hkq2 : k < q.length := by omega
            have Hnext := Lib.hid hnext
            have Hb := Lib.hid hb
            clear hnext hx hy RB tb hb ex ey hxr hyr
            cases hr : adj l x y with
            | true =>
              rw [hr] at e1
              have hn2 : F (k + 1) = F k := by have := Hnext.out; simpa [hr] using this
              have Hn2 := Lib.hid hn2
              clear hn2 hr
              go_wp2
              go_region
              go_wp2
              go_roundw
              case rel => exact ⟨k + 1, by omega, by go_num, by rw [Hn2.out]; exact HFk.out, drewN_below3 Hb.out _⟩
              case measure => simp [intOf]; omega
            | false =>
              rw [hr] at e1
              have hn2 : F (k + 1) = F k + 1 := by have := Hnext.out; simpa [hr] using this
              have hpos : ¬ F (q.length - 1) = 0 := by have := Hpt.out (k + 1); have := HFk.out; omega
              have hrv := Hrv.out
              rw [decide_eq_false hpos] at hrv
              subst hrv
              clear hn2 hr hpos
              go_wp2
              go_region
              go_wp2
              go_ret2
              exact ⟨rfl, K4.out.trans (Hb.out.drew.mono K4.out.size)⟩
          · have hge : ¬ (((k + 1 : Nat) : Int) < (q.length : Int)) := by omega
            have hrv := Hrv.out
            rw [← show k = q.length - 1 by omega, decide_eq_true HFk.out] at hrv
            subst hrv
            go_wp2
            go_ret2
            exact ⟨rfl, K4.out.trans (hb.mono K4.out.size)⟩
    · have h3i : ((q.length : Int) == 0) = true := by simp only [beq_iff_eq]; omega
      rw [seatB_few h3] at hrv
      subst hrv
      have Hp := Lib.hid hp
      clear hp hres
      go_enter Try.func22, Try.ntmps22
      go_wp2_with fail
      refine (paGood_any _ _ _ _ _ hl hr).mono ?_
      rw [Hp.out]
      rintro e w2 ⟨rfl, hb2⟩
      have c0 : w2.cell? ⟨w.heap.size, 0, none⟩ = some (.int .i64 n) := carry hb2 (by simp) (by simp)
      have c1 : w2.cell? ⟨w.heap.size, 1, none⟩ = some (.slice A l.length c) := carry hb2 (by simp) (by simp)
      have s2 := hb2.size
      simp only [World.size_alloc] at hb2 s2
      have k2 : Below w.heap.size w w2 := Below.trans (b := _) (by go_grown) (hb2.mono (by omega))
      go_wp2
      go_ret2
      exact ⟨rfl, k2⟩
set_option maxHeartbeats 1000000 in
set_option maxRecDepth 100000 in
theorem sitAroundF_any (n : Nat) (l : PL) (A : Option Addr) (c : Nat) (q : List Int) (B : Option Addr) (d : Nat) (w : World) (hp : isP n l = true) (hA : CRead w w.heap.size A (pcells l)) (hB : CRead w w.heap.size B (icells q)) :
    Calls Try.prog 60 #[.agg #[.int .i64 n, .slice A l.length c], .slice B q.length d, .int .i64 3, .func (.func 61) #[] #[]] w fun e w' => e = .returned (.bool (seatB 3 aroundP n l q)) ∧ Below w.heap.size w w' := by
  have hn := isP_range hp
  obtain ⟨rv, hrv⟩ : ∃ r, seatB 3 aroundP n l q = r := ⟨_, rfl⟩
  rw [hrv]
  have RA : CRead (w.alloc (Obj.cells #[.int .i64 n, .slice A l.length c] 31)) (w.alloc (Obj.cells #[.int .i64 n, .slice A l.length c] 31)).heap.size A (pcells l) := (hA.below (B' := w.heap.size) (by go_grown) (Nat.le_refl _)).more (by go_size)
  have RB : CRead (w.alloc (Obj.cells #[.int .i64 n, .slice A l.length c] 31)) (w.alloc (Obj.cells #[.int .i64 n, .slice A l.length c] 31)).heap.size B (icells q) := (hB.below (B' := w.heap.size) (by go_grown) (Nat.le_refl _)).more (by go_size)
  by_cases h3 : 3 ≤ q.length
  · have h3i : (3 : Int) ≤ (q.length : Int) := by omega
    cases hnam : isNamingI n q with
    | false =>
      rw [seatB_none hnam] at hrv
      subst hrv
      have Hnam := Lib.hid hnam
      clear hp hnam
      go_enter Try.func60, Try.ntmps60
      go_wp2_with fail
      refine (isNaming_any n q A B l.length c d _ hn RB).mono ?_
      rw [Hnam.out]
      rintro e w2 ⟨rfl, hb2⟩
      simp only [World.size_alloc] at hb2
      go_wp2
      go_ret
      exact ⟨rfl, Below.trans (b := _) (by go_grown) (hb2.mono (by omega))⟩
    | true =>
      rw [seatB_at h3 hnam] at hrv
      obtain ⟨hql, hmem, _⟩ := isNamingI_parts hnam
      have cala := fun (X : World) hX => around_any q B d X (by omega) (by omega) hX
      have hlen : (aroundP q).length ≤ 12 := by rw [aroundP_length (by omega)]; omega
      have hpin := aroundP_in (n := (n : Int)) hmem (by omega)
      have cals := fun (A' : Option Addr) (c' : Nat) (X : World) hX => strangersAmong_any hp (aroundP q) A' c' X (by omega) hpin hX
      obtain ⟨L, hL⟩ : ∃ L, aroundP q = L := ⟨_, rfl⟩
      simp only [hL] at cala hlen cals hrv
      obtain ⟨R, hR⟩ : ∃ R, strangeN (adj l) L = R := ⟨_, rfl⟩
      simp only [hR] at cals hrv
      unfold tcells at cals
      have calf := fun X hX => friendsIn_any n l A c X hp hX
      unfold tcells at calf
      have Hnam := Lib.hid hnam
      have Cala := Lib.hid cala
      have Cals := Lib.hid cals
      have Calf := Lib.hid calf
      have Hrv := Lib.hid hrv
      clear hp hnam hR cala cals calf hmem hql hrv hL hpin
      go_enter Try.func60, Try.ntmps60
      go_wp2_with fail
      refine (isNaming_any n q A B l.length c d _ hn RB).mono ?_
      rw [Hnam.out]
      rintro e w2 ⟨rfl, hb2⟩
      have c0 : w2.cell? ⟨w.heap.size, 0, none⟩ = some (.int .i64 n) := carry hb2 (by simp) (by simp)
      have c1 : w2.cell? ⟨w.heap.size, 1, none⟩ = some (.slice A l.length c) := carry hb2 (by simp) (by simp)
      have s2 := hb2.size
      simp only [World.size_alloc] at hb2 s2
      have k2 : Below w.heap.size w w2 := Below.trans (b := _) (by go_grown) (hb2.mono (by omega))
      go_wp2_with fail
      refine (Calf.out _ ((hA.below k2 (Nat.le_refl _)).more k2.size)).mono ?_
      rintro e w3 ⟨rfl, _, hb3⟩
      have k3 := k2.trans (hb3.mono k2.size)
      clear c0 c1 hb2
      go_wp2_with fail
      refine (Cala.out _ ((hB.below k3 (Nat.le_refl _)).more k3.size)).mono ?_
      rintro e w4 ⟨A4, c4, rfl, own4, hb4⟩
      have k4 := k3.trans (hb4.mono k3.size)
      have R4 := Lib.hid (CRead.of_own own4)
      clear own4 hb3
      go_wp2_with fail
      refine (Cals.out A4 c4 _ R4.out).mono ?_
      rintro e w5 ⟨rfl, hb5⟩
      have k5 := k4.trans (hb5.mono k4.size)
      have hrv := Hrv.out
      by_cases h0 : R = 0
      · subst h0
        rw [decide_eq_true rfl] at hrv
        subst hrv
        go_wp2
        go_ret
        exact ⟨rfl, k5⟩
      · rw [decide_eq_false h0] at hrv
        subst hrv
        have hne : ((R : Int) == 0) = false := by simp only [beq_eq_false_iff_ne, ne_eq]; omega
        go_wp2
        go_ret
        exact ⟨by simp <;> omega, k5⟩
  · have h3i : ¬ ((3 : Int) ≤ (q.length : Int)) := by omega
    rw [seatB_few h3] at hrv
    subst hrv
    clear hp
    go_enter Try.func60, Try.ntmps60
    go_wp2
    go_ret
    exact ⟨by simp <;> omega, by go_grown⟩
set_option maxHeartbeats 1000000 in
set_option maxRecDepth 100000 in
theorem sitAlongF_any (n : Nat) (l : PL) (A : Option Addr) (c : Nat) (q : List Int) (B : Option Addr) (d : Nat) (w : World) (hp : isP n l = true) (hA : CRead w w.heap.size A (pcells l)) (hB : CRead w w.heap.size B (icells q)) :
    Calls Try.prog 60 #[.agg #[.int .i64 n, .slice A l.length c], .slice B q.length d, .int .i64 1, .func (.func 62) #[] #[]] w fun e w' => e = .returned (.bool (seatB 1 alongP n l q)) ∧ Below w.heap.size w w' := by
  have hn := isP_range hp
  obtain ⟨rv, hrv⟩ : ∃ r, seatB 1 alongP n l q = r := ⟨_, rfl⟩
  rw [hrv]
  have RA : CRead (w.alloc (Obj.cells #[.int .i64 n, .slice A l.length c] 31)) (w.alloc (Obj.cells #[.int .i64 n, .slice A l.length c] 31)).heap.size A (pcells l) := (hA.below (B' := w.heap.size) (by go_grown) (Nat.le_refl _)).more (by go_size)
  have RB : CRead (w.alloc (Obj.cells #[.int .i64 n, .slice A l.length c] 31)) (w.alloc (Obj.cells #[.int .i64 n, .slice A l.length c] 31)).heap.size B (icells q) := (hB.below (B' := w.heap.size) (by go_grown) (Nat.le_refl _)).more (by go_size)
  by_cases h3 : 1 ≤ q.length
  · have h3i : (1 : Int) ≤ (q.length : Int) := by omega
    cases hnam : isNamingI n q with
    | false =>
      rw [seatB_none hnam] at hrv
      subst hrv
      have Hnam := Lib.hid hnam
      clear hp hnam
      go_enter Try.func60, Try.ntmps60
      go_wp2_with fail
      refine (isNaming_any n q A B l.length c d _ hn RB).mono ?_
      rw [Hnam.out]
      rintro e w2 ⟨rfl, hb2⟩
      simp only [World.size_alloc] at hb2
      go_wp2
      go_ret
      exact ⟨rfl, Below.trans (b := _) (by go_grown) (hb2.mono (by omega))⟩
    | true =>
      rw [seatB_at h3 hnam] at hrv
      obtain ⟨hql, hmem, _⟩ := isNamingI_parts hnam
      have cala := fun (X : World) hX => along_any q B d X (by omega) hX
      have hlen : (alongP q).length ≤ 12 := by rw [alongP_length]; omega
      have hpin := alongP_in (n := (n : Int)) hmem
      have cals := fun (A' : Option Addr) (c' : Nat) (X : World) hX => strangersAmong_any hp (alongP q) A' c' X (by omega) hpin hX
      obtain ⟨L, hL⟩ : ∃ L, alongP q = L := ⟨_, rfl⟩
      simp only [hL] at cala hlen cals hrv
      obtain ⟨R, hR⟩ : ∃ R, strangeN (adj l) L = R := ⟨_, rfl⟩
      simp only [hR] at cals hrv
      unfold tcells at cals
      have calf := fun X hX => friendsIn_any n l A c X hp hX
      unfold tcells at calf
      have Hnam := Lib.hid hnam
      have Cala := Lib.hid cala
      have Cals := Lib.hid cals
      have Calf := Lib.hid calf
      have Hrv := Lib.hid hrv
      clear hp hnam hR cala cals calf hmem hql hrv hL hpin
      go_enter Try.func60, Try.ntmps60
      go_wp2_with fail
      refine (isNaming_any n q A B l.length c d _ hn RB).mono ?_
      rw [Hnam.out]
      rintro e w2 ⟨rfl, hb2⟩
      have c0 : w2.cell? ⟨w.heap.size, 0, none⟩ = some (.int .i64 n) := carry hb2 (by simp) (by simp)
      have c1 : w2.cell? ⟨w.heap.size, 1, none⟩ = some (.slice A l.length c) := carry hb2 (by simp) (by simp)
      have s2 := hb2.size
      simp only [World.size_alloc] at hb2 s2
      have k2 : Below w.heap.size w w2 := Below.trans (b := _) (by go_grown) (hb2.mono (by omega))
      go_wp2_with fail
      refine (Calf.out _ ((hA.below k2 (Nat.le_refl _)).more k2.size)).mono ?_
      rintro e w3 ⟨rfl, _, hb3⟩
      have k3 := k2.trans (hb3.mono k2.size)
      clear c0 c1 hb2
      go_wp2_with fail
      refine (Cala.out _ ((hB.below k3 (Nat.le_refl _)).more k3.size)).mono ?_
      rintro e w4 ⟨A4, c4, rfl, own4, hb4⟩
      have k4 := k3.trans (hb4.mono k3.size)
      have R4 := Lib.hid (CRead.of_own own4)
      clear own4 hb3
      go_wp2_with fail
      refine (Cals.out A4 c4 _ R4.out).mono ?_
      rintro e w5 ⟨rfl, hb5⟩
      have k5 := k4.trans (hb5.mono k4.size)
      have hrv := Hrv.out
      by_cases h0 : R = 0
      · subst h0
        rw [decide_eq_true rfl] at hrv
        subst hrv
        go_wp2
        go_ret
        exact ⟨rfl, k5⟩
      · rw [decide_eq_false h0] at hrv
        subst hrv
        have hne : ((R : Int) == 0) = false := by simp only [beq_eq_false_iff_ne, ne_eq]; omega
        go_wp2
        go_ret
        exact ⟨by simp <;> omega, k5⟩
  · have h3i : ¬ ((1 : Int) ≤ (q.length : Int)) := by omega
    rw [seatB_few h3] at hrv
    subst hrv
    clear hp
    go_enter Try.func60, Try.ntmps60
    go_wp2
    go_ret
    exact ⟨by simp <;> omega, by go_grown⟩
set_option maxHeartbeats 1000000 in
set_option maxRecDepth 100000 in
theorem implIsSeating_any (p : Int) (l : PL) (A : Option Addr) (c : Nat) (q : List Int) (B : Option Addr) (d : Nat) (w : World) (hl : l.length ≤ 1048576) (hA : CRead w w.heap.size A (pcells l)) (_hq : q.length ≤ 1048576) (hB : CRead w w.heap.size B (icells q)) :
    Calls Try.prog 19 #[.agg #[.int .i64 p, .slice A l.length c], .slice B q.length d] w fun e w' => e = .returned (.tuple #[.bool (resIsSeating p l q).1, .bool (resIsSeating p l q).2]) ∧ Below w.heap.size w w' := by
  have hr : CRead (w.alloc (Obj.cells #[.int .i64 p, .slice A l.length c] 31)) (w.alloc (Obj.cells #[.int .i64 p, .slice A l.length c] 31)).heap.size A (pcells l) := (hA.below (B' := w.heap.size) (by go_grown) (Nat.le_refl _)).more (by go_size)
  obtain ⟨⟨rv, rok⟩, hres⟩ : ∃ x, resIsSeating p l q = x := ⟨_, rfl⟩
  rw [hres]
  cases hp : isP p l with
  | false =>
    have e : (rv, rok) = (false, false) := by rw [← hres]; unfold resIsSeating; rw [hp]; rfl
    simp only [Prod.mk.injEq] at e
    obtain ⟨rfl, rfl⟩ := e
    have Hp := Lib.hid hp
    clear hp hres
    go_enter Try.func19, Try.ntmps19
    go_wp2_with fail
    refine (isParty_any _ _ _ _ _ hl hr).mono ?_
    rw [Hp.out]
    rintro e w2 ⟨rfl, hb2⟩
    simp only [World.size_alloc] at hb2
    go_wp2
    go_ret2
    exact ⟨rfl, Below.trans (b := _) (by go_grown) (hb2.mono (by omega))⟩
  | true =>
    obtain ⟨n, rfl⟩ : ∃ n : Nat, p = n := ⟨p.toNat, by have := isP_range hp; omega⟩
    have hn := isP_range hp
    have e : (rv, rok) = (seatB 3 aroundP n l q, true) := by rw [← hres]; unfold resIsSeating; rw [hp]; rfl
    simp only [Prod.mk.injEq] at e
    obtain ⟨rfl, rfl⟩ := e
    have call := fun (X : World) hX hY => sitAroundF_any n l A c q B d X hp hX hY
    obtain ⟨R, hR⟩ : ∃ R, seatB 3 aroundP n l q = R := ⟨_, rfl⟩
    simp only [hR] at call ⊢
    have Call := Lib.hid call
    have Hp := Lib.hid hp
    clear hp hres call hR
    go_enter Try.func19, Try.ntmps19
    go_wp2_with fail
    refine (isParty_any _ _ _ _ _ hl hr).mono ?_
    rw [Hp.out]
    rintro e w2 ⟨rfl, hb2⟩
    have c0 : w2.cell? ⟨w.heap.size, 0, none⟩ = some (.int .i64 n) := carry hb2 (by simp) (by simp)
    have c1 : w2.cell? ⟨w.heap.size, 1, none⟩ = some (.slice A l.length c) := carry hb2 (by simp) (by simp)
    have s2 := hb2.size
    simp only [World.size_alloc] at hb2 s2
    have k2 : Below w.heap.size w w2 := Below.trans (b := _) (by go_grown) (hb2.mono (by omega))
    go_wp2_with fail
    refine (Call.out _ ((hA.below k2 (Nat.le_refl _)).more k2.size) ((hB.below k2 (Nat.le_refl _)).more k2.size)).mono ?_
    rintro e w3 ⟨rfl, hb3⟩
    go_wp2
    go_ret2
    exact ⟨rfl, k2.trans (hb3.mono k2.size)⟩
set_option maxHeartbeats 1000000 in
set_option maxRecDepth 100000 in
theorem implIsRow_any (p : Int) (l : PL) (A : Option Addr) (c : Nat) (q : List Int) (B : Option Addr) (d : Nat) (w : World) (hl : l.length ≤ 1048576) (hA : CRead w w.heap.size A (pcells l)) (_hq : q.length ≤ 1048576) (hB : CRead w w.heap.size B (icells q)) :
    Calls Try.prog 23 #[.agg #[.int .i64 p, .slice A l.length c], .slice B q.length d] w fun e w' => e = .returned (.tuple #[.bool (resIsRow p l q).1, .bool (resIsRow p l q).2]) ∧ Below w.heap.size w w' := by
  have hr : CRead (w.alloc (Obj.cells #[.int .i64 p, .slice A l.length c] 31)) (w.alloc (Obj.cells #[.int .i64 p, .slice A l.length c] 31)).heap.size A (pcells l) := (hA.below (B' := w.heap.size) (by go_grown) (Nat.le_refl _)).more (by go_size)
  obtain ⟨⟨rv, rok⟩, hres⟩ : ∃ x, resIsRow p l q = x := ⟨_, rfl⟩
  rw [hres]
  cases hp : isP p l with
  | false =>
    have e : (rv, rok) = (false, false) := by rw [← hres]; unfold resIsRow; rw [hp]; rfl
    simp only [Prod.mk.injEq] at e
    obtain ⟨rfl, rfl⟩ := e
    have Hp := Lib.hid hp
    clear hp hres
    go_enter Try.func23, Try.ntmps23
    go_wp2_with fail
    refine (isParty_any _ _ _ _ _ hl hr).mono ?_
    rw [Hp.out]
    rintro e w2 ⟨rfl, hb2⟩
    simp only [World.size_alloc] at hb2
    go_wp2
    go_ret2
    exact ⟨rfl, Below.trans (b := _) (by go_grown) (hb2.mono (by omega))⟩
  | true =>
    obtain ⟨n, rfl⟩ : ∃ n : Nat, p = n := ⟨p.toNat, by have := isP_range hp; omega⟩
    have hn := isP_range hp
    have e : (rv, rok) = (seatB 1 alongP n l q, true) := by rw [← hres]; unfold resIsRow; rw [hp]; rfl
    simp only [Prod.mk.injEq] at e
    obtain ⟨rfl, rfl⟩ := e
    have call := fun (X : World) hX hY => sitAlongF_any n l A c q B d X hp hX hY
    obtain ⟨R, hR⟩ : ∃ R, seatB 1 alongP n l q = R := ⟨_, rfl⟩
    simp only [hR] at call ⊢
    have Call := Lib.hid call
    have Hp := Lib.hid hp
    clear hp hres call hR
    go_enter Try.func23, Try.ntmps23
    go_wp2_with fail
    refine (isParty_any _ _ _ _ _ hl hr).mono ?_
    rw [Hp.out]
    rintro e w2 ⟨rfl, hb2⟩
    have c0 : w2.cell? ⟨w.heap.size, 0, none⟩ = some (.int .i64 n) := carry hb2 (by simp) (by simp)
    have c1 : w2.cell? ⟨w.heap.size, 1, none⟩ = some (.slice A l.length c) := carry hb2 (by simp) (by simp)
    have s2 := hb2.size
    simp only [World.size_alloc] at hb2 s2
    have k2 : Below w.heap.size w w2 := Below.trans (b := _) (by go_grown) (hb2.mono (by omega))
    go_wp2_with fail
    refine (Call.out _ ((hA.below k2 (Nat.le_refl _)).more k2.size) ((hB.below k2 (Nat.le_refl _)).more k2.size)).mono ?_
    rintro e w3 ⟨rfl, hb3⟩
    go_wp2
    go_ret2
    exact ⟨rfl, k2.trans (hb3.mono k2.size)⟩
set_option maxHeartbeats 1000000 in
set_option maxRecDepth 100000 in
theorem taSeats_any (p : Int) (l : PL) (A : Option Addr) (c : Nat) (q : List Int) (B : Option Addr) (d : Nat) (w : World) (hl : l.length ≤ 1048576) (hA : CRead w w.heap.size A (pcells l)) (hq : q.length ≤ 1048576) (hB : CRead w w.heap.size B (icells q)) (hd : q.length ≤ d) :
    Calls Try.prog 63 #[.agg #[.int .i64 p, .slice A l.length c], .slice B q.length d] w fun e w' => e = .returned (.bool (isP p l && isNamingI p q)) ∧ Below w.heap.size w w' := by
  have hr : CRead (w.alloc (Obj.cells #[.int .i64 p, .slice A l.length c] 31)) (w.alloc (Obj.cells #[.int .i64 p, .slice A l.length c] 31)).heap.size A (pcells l) := (hA.below (B' := w.heap.size) (by go_grown) (Nat.le_refl _)).more (by go_size)
  cases hp : isP p l with
  | false =>
    rw [Bool.false_and]
    have Hp := Lib.hid hp
    clear hp
    go_enter Try.func63, Try.ntmps63
    go_wp2_with fail
    refine (paGood_any _ _ _ _ _ hl hr).mono ?_
    rw [Hp.out]
    rintro e w2 ⟨rfl, hb2⟩
    simp only [World.size_alloc] at hb2
    go_wp2
    go_ret
    exact ⟨rfl, Below.trans (b := _) (by go_grown) (hb2.mono (by omega))⟩
  | true =>
    rw [Bool.true_and]
    obtain ⟨n, rfl⟩ : ∃ n : Nat, p = n := ⟨p.toNat, by have := isP_range hp; omega⟩
    have hn := isP_range hp
    obtain ⟨r, hr2⟩ : ∃ r, isNamingI n q = r := ⟨_, rfl⟩
    rw [hr2]
    have Hr2 := Lib.hid hr2
    have Hp := Lib.hid hp
    clear hp hr2
    go_enter Try.func63, Try.ntmps63
    go_wp2_with fail
    refine (paGood_any _ _ _ _ _ hl hr).mono ?_
    rw [Hp.out]
    rintro e w2 ⟨rfl, hb2⟩
    have c0 : w2.cell? ⟨w.heap.size, 0, none⟩ = some (.int .i64 n) := carry hb2 (by simp) (by simp)
    have c1 : w2.cell? ⟨w.heap.size, 1, none⟩ = some (.slice A l.length c) := carry hb2 (by simp) (by simp)
    have s2 := hb2.size
    simp only [World.size_alloc] at hb2 s2
    have k2 : Below w.heap.size w w2 := Below.trans (b := _) (by go_grown) (hb2.mono (by omega))
    go_wp2_with fail
    refine (grOrder_any n q B d _ (by omega) hq hd ((hB.below k2 (Nat.le_refl _)).more k2.size)).mono ?_
    rw [Hr2.out]
    rintro e w3 ⟨rfl, rfl⟩
    go_wp2
    go_ret
    exact ⟨rfl, k2⟩
set_option maxHeartbeats 1000000 in
set_option maxRecDepth 100000 in
theorem sitAround_any (p : Int) (l : PL) (A : Option Addr) (c : Nat) (q : List Int) (B : Option Addr) (d : Nat) (w : World) (hl : l.length ≤ 1048576) (hA : CRead w w.heap.size A (pcells l)) (hB : CRead w w.heap.size B (icells q)) :
    Calls Try.prog 64 #[.agg #[.int .i64 p, .slice A l.length c], .slice B q.length d] w fun e w' => e = .returned (.bool (isP p l && decide (3 ≤ p) && isNamingI p q)) ∧ Below w.heap.size w w' := by
  have hr : CRead (w.alloc (Obj.cells #[.int .i64 p, .slice A l.length c] 31)) (w.alloc (Obj.cells #[.int .i64 p, .slice A l.length c] 31)).heap.size A (pcells l) := (hA.below (B' := w.heap.size) (by go_grown) (Nat.le_refl _)).more (by go_size)
  cases hp : isP p l with
  | false =>
    rw [Bool.false_and, Bool.false_and]
    have Hp := Lib.hid hp
    clear hp
    go_enter Try.func64, Try.ntmps64
    go_wp2_with fail
    refine (isParty_any _ _ _ _ _ hl hr).mono ?_
    rw [Hp.out]
    rintro e w2 ⟨rfl, hb2⟩
    simp only [World.size_alloc] at hb2
    go_wp2
    go_ret
    exact ⟨rfl, Below.trans (b := _) (by go_grown) (hb2.mono (by omega))⟩
  | true =>
    rw [Bool.true_and]
    obtain ⟨n, rfl⟩ : ∃ n : Nat, p = n := ⟨p.toNat, by have := isP_range hp; omega⟩
    have hn := isP_range hp
    have Hp := Lib.hid hp
    clear hp
    by_cases h3 : (3 : Int) ≤ n
    · rw [decide_eq_true h3, Bool.true_and]
      obtain ⟨r, hr2⟩ : ∃ r, isNamingI n q = r := ⟨_, rfl⟩
      rw [hr2]
      have Hr2 := Lib.hid hr2
      clear hr2
      go_enter Try.func64, Try.ntmps64
      go_wp2_with fail
      refine (isParty_any _ _ _ _ _ hl hr).mono ?_
      rw [Hp.out]
      rintro e w2 ⟨rfl, hb2⟩
      have c0 : w2.cell? ⟨w.heap.size, 0, none⟩ = some (.int .i64 n) := carry hb2 (by simp) (by simp)
      have c1 : w2.cell? ⟨w.heap.size, 1, none⟩ = some (.slice A l.length c) := carry hb2 (by simp) (by simp)
      have s2 := hb2.size
      simp only [World.size_alloc] at hb2 s2
      have k2 : Below w.heap.size w w2 := Below.trans (b := _) (by go_grown) (hb2.mono (by omega))
      go_wp2_with fail
      refine (isNaming_any n q A B l.length c d _ hn ((hB.below k2 (Nat.le_refl _)).more k2.size)).mono ?_
      rw [Hr2.out]
      rintro e w3 ⟨rfl, hb3⟩
      go_wp2
      go_ret
      exact ⟨rfl, k2.trans (hb3.mono k2.size)⟩
    · rw [decide_eq_false h3, Bool.false_and]
      go_enter Try.func64, Try.ntmps64
      go_wp2_with fail
      refine (isParty_any _ _ _ _ _ hl hr).mono ?_
      rw [Hp.out]
      rintro e w2 ⟨rfl, hb2⟩
      have c0 : w2.cell? ⟨w.heap.size, 0, none⟩ = some (.int .i64 n) := carry hb2 (by simp) (by simp)
      have c1 : w2.cell? ⟨w.heap.size, 1, none⟩ = some (.slice A l.length c) := carry hb2 (by simp) (by simp)
      have s2 := hb2.size
      simp only [World.size_alloc] at hb2 s2
      have k2 : Below w.heap.size w w2 := Below.trans (b := _) (by go_grown) (hb2.mono (by omega))
      go_wp2
      go_ret
      exact ⟨by simp <;> omega, k2⟩
theorem strB_no {p : Int} {l : PL} {q : List Int} (h : (isP p l && decide (3 ≤ p) && isNamingI p q) = false) : resStrangersBeside p l q = (0, false) := by unfold resStrangersBeside; rw [h]; rfl
theorem strB_yes {p : Int} {l : PL} {q : List Int} (h : (isP p l && decide (3 ≤ p) && isNamingI p q) = true) : resStrangersBeside p l q = ((strangeN (adj l) (aroundP q) : Int), true) := by unfold resStrangersBeside; rw [h]; rfl
set_option maxHeartbeats 1000000 in
set_option maxRecDepth 100000 in
theorem implStrangersBeside_any (p : Int) (l : PL) (A : Option Addr) (c : Nat) (q : List Int) (B : Option Addr) (d : Nat) (w : World) (hl : l.length ≤ 1048576) (hA : CRead w w.heap.size A (pcells l)) (_hq : q.length ≤ 1048576) (hB : CRead w w.heap.size B (icells q)) :
    Calls Try.prog 25 #[.agg #[.int .i64 p, .slice A l.length c], .slice B q.length d] w fun e w' => e = .returned (.tuple #[.int .i64 (resStrangersBeside p l q).1, .bool (resStrangersBeside p l q).2]) ∧ Below w.heap.size w w' := by
  have hr : CRead (w.alloc (Obj.cells #[.int .i64 p, .slice A l.length c] 31)) (w.alloc (Obj.cells #[.int .i64 p, .slice A l.length c] 31)).heap.size A (pcells l) := (hA.below (B' := w.heap.size) (by go_grown) (Nat.le_refl _)).more (by go_size)
  have RB : CRead (w.alloc (Obj.cells #[.int .i64 p, .slice A l.length c] 31)) (w.alloc (Obj.cells #[.int .i64 p, .slice A l.length c] 31)).heap.size B (icells q) := (hB.below (B' := w.heap.size) (by go_grown) (Nat.le_refl _)).more (by go_size)
  cases hs : (isP p l && decide (3 ≤ p) && isNamingI p q) with
  | false =>
    rw [strB_no hs]
    have Hs := Lib.hid hs
    clear hs
    go_enter Try.func25, Try.ntmps25
    go_wp2_with fail
    refine (sitAround_any _ _ _ _ _ _ _ _ hl hr RB).mono ?_
    rw [Hs.out]
    rintro e w2 ⟨rfl, hb2⟩
    simp only [World.size_alloc] at hb2
    go_wp2
    go_ret2
    exact ⟨rfl, Below.trans (b := _) (by go_grown) (hb2.mono (by omega))⟩
  | true =>
    rw [strB_yes hs]
    have Hs := Lib.hid hs
    rw [Bool.and_eq_true, Bool.and_eq_true] at hs
    obtain ⟨⟨hp, h3⟩, hnam⟩ := hs
    have h3 := of_decide_eq_true h3
    obtain ⟨n, rfl⟩ : ∃ n : Nat, p = n := ⟨p.toNat, by omega⟩
    have hn := isP_range hp
    obtain ⟨hql, hmem, _⟩ := isNamingI_parts hnam
    have cala := fun (X : World) hX => around_any q B d X (by omega) (by omega) hX
    have hlen : (aroundP q).length ≤ 12 := by rw [aroundP_length (by omega)]; omega
    have hpin := aroundP_in (n := (n : Int)) hmem (by omega)
    have cals := fun (A' : Option Addr) (c' : Nat) (X : World) hX => strangersAmong_any hp (aroundP q) A' c' X (by omega) hpin hX
    obtain ⟨L, hL⟩ : ∃ L, aroundP q = L := ⟨_, rfl⟩
    simp only [hL] at cala hlen cals ⊢
    obtain ⟨R, hR⟩ : ∃ R, strangeN (adj l) L = R := ⟨_, rfl⟩
    simp only [hR] at cals ⊢
    have calf := fun X hX => friendsIn_any n l A c X hp hX
    unfold tcells at cals calf
    have Cala := Lib.hid cala
    have Cals := Lib.hid cals
    have Calf := Lib.hid calf
    clear hp hnam hR cala cals calf hmem hql hL hpin
    go_enter Try.func25, Try.ntmps25
    go_wp2_with fail
    refine (sitAround_any _ _ _ _ _ _ _ _ hl hr RB).mono ?_
    rw [Hs.out]
    rintro e w2 ⟨rfl, hb2⟩
    have c0 : w2.cell? ⟨w.heap.size, 0, none⟩ = some (.int .i64 n) := carry hb2 (by simp) (by simp)
    have c1 : w2.cell? ⟨w.heap.size, 1, none⟩ = some (.slice A l.length c) := carry hb2 (by simp) (by simp)
    have s2 := hb2.size
    simp only [World.size_alloc] at hb2 s2
    have k2 : Below w.heap.size w w2 := Below.trans (b := _) (by go_grown) (hb2.mono (by omega))
    go_wp2_with fail
    refine (Calf.out _ ((hA.below k2 (Nat.le_refl _)).more k2.size)).mono ?_
    rintro e w3 ⟨rfl, _, hb3⟩
    have k3 := k2.trans (hb3.mono k2.size)
    clear c0 c1 hb2
    go_wp2_with fail
    refine (Cala.out _ ((hB.below k3 (Nat.le_refl _)).more k3.size)).mono ?_
    rintro e w4 ⟨A4, c4, rfl, own4, hb4⟩
    have k4 := k3.trans (hb4.mono k3.size)
    have R4 := Lib.hid (CRead.of_own own4)
    clear own4 hb3
    go_wp2_with fail
    refine (Cals.out A4 c4 _ R4.out).mono ?_
    rintro e w5 ⟨rfl, hb5⟩
    go_wp2
    go_ret2
    exact ⟨rfl, k4.trans (hb5.mono k4.size)⟩
set_option maxHeartbeats 1000000 in
set_option maxRecDepth 100000 in
theorem specStrangersBeside_any (p : Int) (l : PL) (A : Option Addr) (c : Nat) (q : List Int) (B : Option Addr) (d : Nat) (w : World) (hl : l.length ≤ 1048576) (hA : CRead w w.heap.size A (pcells l)) (hq : q.length ≤ 1048576) (hB : CRead w w.heap.size B (icells q)) (hd : q.length ≤ d) :
    Calls Try.prog 24 #[.agg #[.int .i64 p, .slice A l.length c], .slice B q.length d] w fun e w' => e = .returned (.tuple #[.int .i64 (resStrangersBeside p l q).1, .bool (resStrangersBeside p l q).2]) ∧ Below w.heap.size w w' := by
  have hr : CRead (w.alloc (Obj.cells #[.int .i64 p, .slice A l.length c] 31)) (w.alloc (Obj.cells #[.int .i64 p, .slice A l.length c] 31)).heap.size A (pcells l) := (hA.below (B' := w.heap.size) (by go_grown) (Nat.le_refl _)).more (by go_size)
  have RB : CRead (w.alloc (Obj.cells #[.int .i64 p, .slice A l.length c] 31)) (w.alloc (Obj.cells #[.int .i64 p, .slice A l.length c] 31)).heap.size B (icells q) := (hB.below (B' := w.heap.size) (by go_grown) (Nat.le_refl _)).more (by go_size)
  cases hs : (isP p l && isNamingI p q) with
  | false =>
    have hs2 : (isP p l && decide (3 ≤ p) && isNamingI p q) = false := by
      cases h1 : isP p l with
      | false => rfl
      | true => rw [h1, Bool.true_and] at hs; rw [hs, Bool.and_false]
    rw [strB_no hs2]
    have Hs := Lib.hid hs
    clear hs hs2
    go_enter Try.func24, Try.ntmps24
    go_wp2_with fail
    refine (taSeats_any _ _ _ _ _ _ _ _ hl hr hq RB hd).mono ?_
    rw [Hs.out]
    rintro e w2 ⟨rfl, hb2⟩
    simp only [World.size_alloc] at hb2
    go_wp2
    go_ret2
    exact ⟨rfl, Below.trans (b := _) (by go_grown) (hb2.mono (by omega))⟩
  | true =>
    have Hs := Lib.hid hs
    rw [Bool.and_eq_true] at hs
    obtain ⟨hp, hnam⟩ := hs
    have hn := isP_range hp
    obtain ⟨n, rfl⟩ : ∃ n : Nat, p = n := ⟨p.toNat, by omega⟩
    obtain ⟨hql, hmem, _⟩ := isNamingI_parts hnam
    by_cases h3 : 3 ≤ n
    · have h3i : ¬ ((q.length : Int) < 3) := by omega
      rw [strB_yes (by rw [hp, hnam, decide_eq_true (show (3 : Int) ≤ n by omega)]; rfl)]
      have cals := fun (A' : Option Addr) (c' : Nat) (G : Nat → Nat) (B0 : Nat) (X : World) t hX => taStrange_any n l q A' B c' d G B0 X (by omega) (by omega) hmem t hX
      rw [if_neg (show ¬ q.length = 0 by omega)] at cals
      obtain ⟨R, hR⟩ : ∃ R, strangeN (adj l) (aroundP q) = R := ⟨_, rfl⟩
      simp only [hR] at cals ⊢
      have calt := fun X hX => paTable_any n l A c X hp hX
      simp only [Int.toNat_natCast] at calt
      have Cals := Lib.hid cals
      have Calt := Lib.hid calt
      clear hp hnam hR cals calt hmem hql
      go_enter Try.func24, Try.ntmps24
      go_wp2_with fail
      refine (taSeats_any _ _ _ _ _ _ _ _ hl hr hq RB hd).mono ?_
      rw [Hs.out]
      rintro e w2 ⟨rfl, hb2⟩
      have c0 : w2.cell? ⟨w.heap.size, 0, none⟩ = some (.int .i64 n) := carry hb2 (by simp) (by simp)
      have c1 : w2.cell? ⟨w.heap.size, 1, none⟩ = some (.slice A l.length c) := carry hb2 (by simp) (by simp)
      have s2 := hb2.size
      simp only [World.size_alloc] at hb2 s2
      have k2 : Below w.heap.size w w2 := Below.trans (b := _) (by go_grown) (hb2.mono (by omega))
      go_wp2_with fail
      refine (Calt.out _ ((hA.below k2 (Nat.le_refl _)).more k2.size)).mono ?_
      rintro e w4 ⟨A4, c4, G, rfl, tab, hb4⟩
      have k4 := k2.trans (hb4.mono k2.size)
      have Tab := Lib.hid tab
      clear tab c0 c1 hb2
      go_wp2_with fail
      refine (Cals.out A4 c4 G _ _ Tab.out ((hB.below k4 (Nat.le_refl _)).more k4.size)).mono ?_
      rintro e w5 ⟨rfl, hb5⟩
      go_wp2
      go_ret2
      exact ⟨rfl, k4.trans (hb5.mono k4.size)⟩
    · have h3i : (q.length : Int) < 3 := by omega
      rw [strB_no (by rw [decide_eq_false (show ¬ ((3 : Int) ≤ n) by omega), Bool.and_false]; rfl)]
      clear hp hnam hmem hql
      go_enter Try.func24, Try.ntmps24
      go_wp2_with fail
      refine (taSeats_any _ _ _ _ _ _ _ _ hl hr hq RB hd).mono ?_
      rw [Hs.out]
      rintro e w2 ⟨rfl, hb2⟩
      simp only [World.size_alloc] at hb2
      go_wp2
      go_ret2
      exact ⟨rfl, Below.trans (b := _) (by go_grown) (hb2.mono (by omega))⟩
end Go.Proofs.Ytmiecebdkadhbaa
/-
  A CALL THAT RUNS ALONE, AT A ROW THAT WOULD LET OTHERS BE LEAVING: what holds of it alone holds there, too.
-/
namespace Go.Proofs.Ytmiecebdkadhbaa
open Go.Conc

theorem leaving_of_handed {a : Assume} {C : Checked} {os : Os} {f : FuncId} {r : Reach} {Pre : World → Array Value → Prop} {Post : World → Array Value → Value → World → Prop}
    (h : ReturnsInHanded a C os f r Pre Post) : ReturnsInLeavingWide a C os f r Pre Post :=
  fun enter => ReturnsInOpen.mono (fun _ _ _ x => ⟨x.2.1, onlyLeaving_of_quiet x.1, x.2.2⟩) (fun _ x => x) (h enter)
end Go.Proofs.Ytmiecebdkadhbaa
/-
  THE PROGRAM's HEAD, LOOKED AT ONCE: which make it is, and that a call may enter it. (The head's text is long: the kernel must not read it twice.)
-/
namespace Go.Proofs.Ytmiecebdkadhbaa

theorem make_of {P : Program} {rest : List (List Char)} (h : behindMainWord (wordsSigns P.initOrder.toList) = "cut".toList :: rest) : P.make = some .cut := by
  unfold Program.make
  rw [h]
  rfl
theorem strip_cut (rest : List (List Char)) : stripLifts liftWords ("cut".toList :: rest) = ([], "cut".toList :: rest) := rfl
theorem lifts_of {P : Program} {rest : List (List Char)} (h : behindMainWord (wordsSigns P.initOrder.toList) = "cut".toList :: rest) : P.headLifts = [] := by
  unfold Program.headLifts
  rw [h, strip_cut]
  rfl
theorem final_of {P : Program} {rest : List (List Char)} (h : behindMainWord (wordsSigns P.initOrder.toList) = "cut".toList :: rest) : P.liftsFinal = false := by
  unfold Program.liftsFinal
  rw [lifts_of h, h]
  rfl
theorem enter_of {P : Program} {rest : List (List Char)} (h : behindMainWord (wordsSigns P.initOrder.toList) = "cut".toList :: rest) (h1 : P.laysLater = false) (h2 : P.bearsReflect = false) (h3 : P.doorFits [] = true) : P.mayEnter = true := by
  unfold Program.mayEnter
  rw [h]
  show (_ || _ || _) = true
  rw [strip_cut, h1, h2, h3]
  rfl
end Go.Proofs.Ytmiecebdkadhbaa
/-
  THE PROGRAM's CLOSED FACTS, EACH ONCE; and how a row's facts are put together out of them.
-/
namespace Go.Proofs.Ytmiecebdkadhbaa
open Go.ChangeShapes Go.WideShapes Go.ChangeAt Go.RowKit

def headSigns : List Char := ([104, 97, 114, 110, 101, 115, 115, 32, 54, 102, 102, 55, 50, 102, 50, 99, 54, 54, 57, 57, 102, 97, 54, 54, 50, 101, 49, 54, 99, 49, 55, 56, 57, 98, 53, 98, 48, 50, 97, 51, 55, 97, 49, 54, 102, 57, 56, 99, 54, 99, 54, 98, 100, 57, 102, 52, 53, 56, 51, 50, 48, 53, 51, 57, 101, 101, 97, 56, 102, 50, 100, 56, 32, 99, 117, 116, 32, 97, 116, 32, 108, 111, 111, 112, 46, 101, 120, 97, 109, 112, 108, 101, 47, 103, 48, 49, 50, 53, 55, 47, 108, 97, 119, 115, 46, 70, 110, 69, 120, 97, 99, 116, 73, 115, 83, 101, 97, 116, 105, 110, 103, 32, 108, 111, 111, 112, 46, 101, 120, 97, 109, 112, 108, 101, 47, 103, 48, 49, 50, 53, 55, 47, 108, 97, 119, 115, 46, 70, 110, 69, 120, 97, 99, 116, 73, 115, 82, 111, 119, 32, 108, 111, 111, 112, 46, 101, 120, 97, 109, 112, 108, 101, 47, 103, 48, 49, 50, 53, 55, 47, 108, 97, 119, 115, 46, 70, 110, 69, 120, 97, 99, 116, 83, 116, 114, 97, 110, 103, 101, 114, 115, 66, 101, 115, 105, 100, 101, 32, 108, 111, 111, 112, 46, 101, 120, 97, 109, 112, 108, 101, 47, 103, 48, 49, 50, 53, 55, 47, 108, 97, 119, 115, 46, 70, 110, 69, 120, 97, 99, 116, 84, 117, 114, 110, 83, 101, 97, 116, 115, 32, 108, 111, 111, 112, 46, 101, 120, 97, 109, 112, 108, 101, 47, 103, 48, 49, 50, 53, 55, 47, 108, 97, 119, 115, 46, 70, 110, 69, 120, 97, 99, 116, 77, 101, 110, 100, 83, 101, 97, 116, 115, 32, 108, 111, 111, 112, 46, 101, 120, 97, 109, 112, 108, 101, 47, 103, 48, 49, 50, 53, 55, 47, 108, 97, 119, 115, 46, 70, 110, 69, 120, 97, 99, 116, 77, 101, 110, 100, 65, 108, 108, 32, 108, 111, 111, 112, 46, 101, 120, 97, 109, 112, 108, 101, 47, 103, 48, 49, 50, 53, 55, 47, 108, 97, 119, 115, 46, 70, 110, 69, 120, 97, 99, 116, 69, 110, 111, 117, 103, 104, 70, 114, 105, 101, 110, 100, 115, 32, 108, 111, 111, 112, 46, 101, 120, 97, 109, 112, 108, 101, 47, 103, 48, 49, 50, 53, 55, 47, 108, 97, 119, 115, 46, 70, 110, 69, 120, 97, 99, 116, 69, 110, 111, 117, 103, 104, 84, 111, 103, 101, 116, 104, 101, 114, 32, 108, 111, 111, 112, 46, 101, 120, 97, 109, 112, 108, 101, 47, 103, 48, 49, 50, 53, 55, 47, 108, 97, 119, 115, 46, 70, 110, 69, 120, 97, 99, 116, 70, 105, 114, 115, 116, 80, 97, 105, 114, 105, 110, 103, 32, 108, 111, 111, 112, 46, 101, 120, 97, 109, 112, 108, 101, 47, 103, 48, 49, 50, 53, 55, 47, 108, 97, 119, 115, 46, 70, 110, 69, 120, 97, 99, 116, 67, 111, 117, 110, 116, 80, 97, 105, 114, 105, 110, 103, 115, 32, 108, 111, 111, 112, 46, 101, 120, 97, 109, 112, 108, 101, 47, 103, 48, 49, 50, 53, 55, 47, 108, 97, 119, 115, 46, 70, 110, 69, 120, 97, 99, 116, 77, 111, 115, 116, 73, 110, 80, 97, 105, 114, 115, 32, 108, 111, 111, 112, 46, 101, 120, 97, 109, 112, 108, 101, 47, 103, 48, 49, 50, 53, 55, 47, 108, 97, 119, 115, 46, 70, 110, 69, 120, 97, 99, 116, 80, 97, 114, 116, 115, 79, 102, 80, 97, 114, 116, 121] : List Nat).map Char.ofNat
set_option maxRecDepth 100000 in
theorem Try.initOrder_is : Try.prog.initOrder = String.ofList headSigns := by kernel_rfl
theorem Try.initOrder_signs : Try.prog.initOrder.toList = headSigns := by rw [Try.initOrder_is]; exact String.toList_ofList
set_option maxRecDepth 100000 in
theorem head_words : (behindMainWord (wordsSigns headSigns)).take 1 = ["cut".toList] := by kernel_rfl
theorem Try.words : ∃ rest, behindMainWord (wordsSigns Try.prog.initOrder.toList) = "cut".toList :: rest := by
  rw [Try.initOrder_signs]
  have h := List.take_append_drop 1 (behindMainWord (wordsSigns headSigns))
  rw [head_words] at h
  exact ⟨_, h.symm⟩
theorem Try.make : Try.prog.make = some .cut := by obtain ⟨_, h⟩ := Try.words; exact make_of h
theorem Try.liftsFinal : Try.prog.liftsFinal = false := by obtain ⟨_, h⟩ := Try.words; exact final_of h
theorem Try.laysLater : Try.prog.laysLater = false := by kernel_rfl
theorem Try.bearsReflect : Try.prog.bearsReflect = false := by kernel_rfl
theorem Try.doorFits : Try.prog.doorFits [] = true := by kernel_rfl
theorem Try.mayEnter : Try.prog.mayEnter = true := by obtain ⟨_, h⟩ := Try.words; exact enter_of h Try.laysLater Try.bearsReflect Try.doorFits
theorem Try.mapsRowed : mapsRowed Try.prog = true := by kernel_rfl
theorem Try.stops : (Try.prog.stops == []) = true := by kernel_rfl
theorem Try.stopKnobs : (Try.prog.stopKnobs == []) = true := by kernel_rfl
theorem Try.plainKeys : Try.prog.plainKeys = true := by kernel_rfl
theorem Try.stopsHeard : Try.prog.stopsHeard = true := by kernel_rfl

/-- What the types of one law give: closed facts on its parameters and its result. -/
def typeFacts (P : Program) (fn : Func) (s : ChangeSpec) (c : OpenClaim) : Bool :=
  fn.params.all (P.readableRec ·) && namedTie P c.named s.vars && (c.stops == []) && (c.knobs == []) &&
  (c.maps == (fn.params.toList ++ s.plain.varTypes P).any (P.mapsRec ·)) && (c.ifaces == (fn.params.toList ++ s.plain.varTypes P).any (P.ifacesRec ·)) && (c.mapsOut == P.mapsAmong fn.resultTypes.toList) &&
  (c.loops == (fn.params.toList ++ s.plain.varTypes P).any (P.loopsFrom ·)) && (c.wideKeys == (fn.params.toList ++ s.plain.varTypes P ++ fn.resultTypes.toList).any (P.wideKeysFrom ·)) &&
  s.vars.all (P.varReadable ·) && fn.resultTypes.all (fun t => P.readableRec t && decide (t < P.types.size)) && (c.ifacesOut == fn.resultTypes.toList.any (P.ifacesRec ·)) && (c.loopsOut == fn.resultTypes.toList.any (P.loopsFrom ·)) && c.shortTexts.isNone &&
  (c.kinds == (if c.domain.isEmpty then [] else fn.params.toList.map fun t => match P.underlying t with | some (.int k) => some k | _ => none)) && (c.pinned == c.pinnedBy) &&
  (c.veiled == (fn.params.toList ++ s.plain.varTypes P ++ fn.resultTypes.toList).any (P.veiledRec ·)) && c.veiledFits P fn.params.toList (fn.params.toList ++ s.plain.varTypes P ++ fn.resultTypes.toList)
theorem joined_all {P : Program} {f : FuncId} {fn : Func} {s : ChangeSpec} {c : OpenClaim} (k1 : c.wf (OpenSpec.ofChange s) = true) (kt : typeFacts P fn s c = true)
    (k10 : (c.inPlace == P.inPlace f) = true) (k11 : (c.unfollowed == P.unfollowed f) = true) (k12 : (c.recurses == P.recurses f) = true) (k13 : (c.named == P.varsNamed f) = true)
    (e2 : laidOutB P = true) (e3 : mapsRowed P = true) (e7 : (P.stops == []) = true) (e9 : (P.stopKnobs == []) = true) (e22 : (c.plainKeys == P.plainKeys) = true) (e23 : P.stopsHeard = true) (e24 : P.mayEnter = true)
    (e24b : (c.lifted == P.liftsFinal) = true) (e24c : (P.make == some c.make) = true) : joinedFacts P f fn s c = true := by
  unfold typeFacts at kt
  unfold joinedFacts
  simp only [Bool.and_eq_true] at kt ⊢
  obtain ⟨⟨⟨⟨⟨⟨⟨⟨⟨⟨⟨⟨⟨⟨⟨⟨⟨t1, t2⟩, t3⟩, t4⟩, t5⟩, t6⟩, t7⟩, t8⟩, t9⟩, t10⟩, t11⟩, t12⟩, t13⟩, t14⟩, t15⟩, t16⟩, t17⟩, t18⟩ := kt
  exact ⟨⟨⟨⟨⟨⟨⟨⟨⟨⟨⟨⟨⟨⟨⟨⟨⟨⟨⟨⟨⟨⟨⟨⟨⟨⟨⟨⟨⟨⟨⟨k1, e2⟩, e3⟩, t1⟩, t2⟩, t3⟩, e7⟩, t4⟩, e9⟩, k10⟩, k11⟩, k12⟩, k13⟩, t5⟩, t6⟩, t7⟩, t8⟩, t9⟩, t10⟩, t11⟩, t12⟩, t13⟩, e22⟩, t14⟩, e23⟩, e24⟩, e24b⟩, e24c⟩, t15⟩, t16⟩, t17⟩, t18⟩
theorem joined_of {f : FuncId} {fn : Func} {s : ChangeSpec} {c : OpenClaim} (k1 : c.wf (OpenSpec.ofChange s) = true) (kt : typeFacts Try.prog fn s c = true)
    (k10 : (c.inPlace == Try.prog.inPlace f) = true) (k11 : (c.unfollowed == Try.prog.unfollowed f) = true) (k12 : (c.recurses == Try.prog.recurses f) = true) (k13 : (c.named == Try.prog.varsNamed f) = true)
    (k22 : c.plainKeys = true) (k24b : c.lifted = false) (k24c : c.make = .cut) : joinedFacts Try.prog f fn s c = true :=
  joined_all k1 kt k10 k11 k12 k13 Try.laidOut Try.mapsRowed Try.stops Try.stopKnobs (by rw [k22, Try.plainKeys]; rfl) Try.stopsHeard Try.mayEnter (by rw [k24b, Try.liftsFinal]; rfl) (by rw [k24c, Try.make]; rfl)
end Go.Proofs.Ytmiecebdkadhbaa
