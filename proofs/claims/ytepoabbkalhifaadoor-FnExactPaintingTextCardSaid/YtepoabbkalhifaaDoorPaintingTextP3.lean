/-
  Texts put together for the claim of 'PaintingText' (pack 3): PaintG, PText, LawPaintingText, Said, OpenX, Head, Facts, TiedP, Tz, Door, DoorT.
-/
import Derived.Test.YtepoabbkalhifaaDoorPaintingTextP1
import Derived.Test.YtepoabbkalhifaaDoorPaintingTextP2
import Derived.BigQuiet
import Derived.Laws.IdiomStrings
import Derived.Deep.RegionHeld3
import Derived.Test.YtepoabbkalhifaaDoorRows
import Derived.ProofKit
import Derived.OpenShut
import Derived.Deep.SlicePairs
import Derived.Lib.SmallJoins
import Derived.Deep.Slices
import Derived.Laws.BitsAllLaws
import Derived.Lib.TrailingZeros
import Derived.Test.YtepoabbkalhifaaDoorTie
import Derived.Test.YtepoabbkalhifaaDoorCards
import Derived.Lib.LaidTab
import Derived.LaidHandle
import Derived.SevenTiedAt
/-
  'IsPainting': the model's and the program's, by their contracts.
-/
namespace Go.Proofs.YtepoabbkalhifaaDoor
open Go.RowKit

theorem isX_p {p k : Int} {l : List Int} (h : ¬ (0 ≤ p ∧ p ≤ 8)) : isX p k l = false := by simp [isX, h]
theorem isX_k {p k : Int} {l : List Int} (h : ¬ (1 ≤ k ∧ k ≤ 3)) : isX p k l = false := by simp [isX, h]
theorem isX_l {p k : Int} {l : List Int} (h : ¬ ((l.length : Int) = (p * (p - 1)).tdiv 2)) : isX p k l = false := by simp [isX, h]
theorem isX_else {p k : Int} {l : List Int} (h : 0 ≤ p ∧ p ≤ 8) (h1 : 1 ≤ k ∧ k ≤ 3) (h2 : (l.length : Int) = (p * (p - 1)).tdiv 2) : isX p k l = l1AllB l 0 (k - 1) := by simp [isX, h, h1, h2]
theorem sq_in {p : Int} (h : 0 ≤ p ∧ p ≤ 8) : 0 ≤ p * (p - 1) ∧ p * (p - 1) ≤ 1000 ∧ 0 ≤ (p * (p - 1)).tdiv 2 ∧ (p * (p - 1)).tdiv 2 ≤ 1000 := by
  have all : ∀ n : Fin 9, 0 ≤ (n.val : Int) * ((n.val : Int) - 1) ∧ (n.val : Int) * ((n.val : Int) - 1) ≤ 1000 ∧ 0 ≤ ((n.val : Int) * ((n.val : Int) - 1)).tdiv 2 ∧ ((n.val : Int) * ((n.val : Int) - 1)).tdiv 2 ≤ 1000 := by decide +kernel
  have := all ⟨p.toNat, by omega⟩
  simpa only [show ((p.toNat : Nat) : Int) = p from by omega] using this

set_option maxHeartbeats 2000000 in
set_option maxRecDepth 100000 in
theorem ptGood_any (p k : Int) (l : List Int) (A : Option Addr) (c : Nat) (w : World) (hl : l.length ≤ 1048576) (hA : CRead w w.heap.size A (icells l)) :
    Calls Tryd.prog 34 #[.agg #[.int .i64 p, .int .i64 k, .slice A l.length c]] w fun e w' => e = .returned (.bool (isX p k l)) ∧ Below w.heap.size w w' := by
  by_cases hp : 0 ≤ p ∧ p ≤ 8
  · obtain ⟨hp0, hp1⟩ := hp
    by_cases hk : 1 ≤ k ∧ k ≤ 3
    · obtain ⟨hk0, hk1⟩ := hk
      obtain ⟨q0, q1, r0, r1⟩ := sq_in ⟨hp0, hp1⟩
      have w1 : IntKind.i64.wrap (p * (p - 1)) = p * (p - 1) := wrap_small (by omega)
      have w2 : IntKind.i64.wrap ((p * (p - 1)).tdiv 2) = (p * (p - 1)).tdiv 2 := wrap_small (by omega)
      by_cases hlen : (l.length : Int) = (p * (p - 1)).tdiv 2
      · rw [isX_else ⟨hp0, hp1⟩ ⟨hk0, hk1⟩ hlen]
        have hb : ((l.length : Int) == (p * (p - 1)).tdiv 2) = true := beq_iff_eq.2 hlen
        clear hlen
        go_enter Tryd.func34, Tryd.ntmps34
        go_wp2_with fail
        refine (l1In_yes p 0 8 hp0 hp1 _).mono ?_
        rintro e w' ⟨rfl, rfl⟩
        go_wp2_with fail
        refine (l1In_yes k 1 3 hk0 hk1 _).mono ?_
        rintro e w' ⟨rfl, rfl⟩
        go_wp2_with fail
        refine (l1All_any l A c 0 (k - 1) _ hl ((hA.below (B' := w.heap.size) (by go_grown) (Nat.le_refl _)).more (by go_size))).mono ?_
        rintro e w2 ⟨rfl, rfl⟩
        go_wp2
        go_ret
        exact ⟨rfl, by go_grown⟩
      · rw [isX_l hlen]
        have hb : ((l.length : Int) == (p * (p - 1)).tdiv 2) = false := by simp [hlen]
        clear hlen
        go_enter Tryd.func34, Tryd.ntmps34
        go_wp2_with fail
        refine (l1In_yes p 0 8 hp0 hp1 _).mono ?_
        rintro e w' ⟨rfl, rfl⟩
        go_wp2_with fail
        refine (l1In_yes k 1 3 hk0 hk1 _).mono ?_
        rintro e w' ⟨rfl, rfl⟩
        go_wp2
        go_ret
        exact ⟨rfl, by go_grown⟩
    · rw [isX_k hk]
      go_enter Tryd.func34, Tryd.ntmps34
      go_wp2_with fail
      refine (l1In_yes p 0 8 hp0 hp1 _).mono ?_
      rintro e w' ⟨rfl, rfl⟩
      go_wp2_with fail
      refine (l1In_no k 1 3 (by omega) _).mono ?_
      rintro e w' ⟨rfl, rfl⟩
      go_wp2
      go_ret
      exact ⟨rfl, by go_grown⟩
  · rw [isX_p hp]
    go_enter Tryd.func34, Tryd.ntmps34
    go_wp2_with fail
    refine (l1In_no p 0 8 (by omega) _).mono ?_
    rintro e w' ⟨rfl, rfl⟩
    go_wp2
    go_ret
    exact ⟨rfl, by go_grown⟩
def resIsPainting (p k : Int) (l : List Int) : Bool := isX p k l

/-- what the program asks of a colour -/
def isColB (k x : Int) : Bool := decide (0 ≤ x) && decide (x < k)
set_option maxHeartbeats 1000000 in
theorem isColour_any (p k : Int) (l : List Int) (A : Option Addr) (c : Nat) (x : Int) (w : World) :
    Calls Tryd.prog 69 #[.agg #[.int .i64 p, .int .i64 k, .slice A l.length c], .int .i64 x] w fun e w' => e = .returned (.bool (isColB k x)) ∧ Below w.heap.size w w' := by
  by_cases h0 : 0 ≤ x
  · by_cases h1 : x < k
    · have e : isColB k x = true := by simp [isColB, h0, h1]
      rw [e]
      clear e
      go_enter Tryd.func69, Tryd.ntmps69
      go_wp2
      go_ret
      exact ⟨rfl, by go_grown⟩
    · have e : isColB k x = false := by simp [isColB, h1]
      rw [e]
      clear e
      go_enter Tryd.func69, Tryd.ntmps69
      go_wp2
      go_ret
      exact ⟨rfl, by go_grown⟩
  · have e : isColB k x = false := by simp [isColB, h0]
    rw [e]
    clear e
    go_enter Tryd.func69, Tryd.ntmps69
    go_wp2
    go_ret
    exact ⟨rfl, by go_grown⟩
set_option maxHeartbeats 1000000 in
theorem isNone_any (p k : Int) (l : List Int) (A : Option Addr) (c g : Nat) (x : Int) (w : World) (g0 : w.cell? ⟨g, 0, none⟩ = some (.int .i64 p)) (g1 : w.cell? ⟨g, 1, none⟩ = some (.int .i64 k)) (g2 : w.cell? ⟨g, 2, none⟩ = some (.slice A l.length c)) :
    Calls Tryd.prog 68 #[.int .i64 x, .pointer (some ⟨g, 0, none⟩)] w fun e w' => e = .returned (.bool (!isColB k x)) ∧ Below w.heap.size w w' := by
  go_enter Tryd.func68, Tryd.ntmps68
  go_wp2_with fail
  refine (isColour_any p k l A c x _).mono ?_
  rintro e w2 ⟨rfl, hb2⟩
  go_wp2
  go_ret
  exact ⟨rfl, hb2⟩
theorem any_noI {l : List Int} {f : Int → Bool} (h : ∀ (j : Nat) (x : Int), j < l.length → l[j]? = some x → f x = false) : l.any f = false := by
  rw [List.any_eq_false]
  intro x hx
  obtain ⟨j, hj, e⟩ := List.getElem_of_mem hx
  rw [h j x hj (by rw [List.getElem?_eq_getElem hj, e])]
  simp
set_option maxHeartbeats 4000000 in
set_option maxRecDepth 100000 in
theorem indexNone_any (p k : Int) (l : List Int) (A : Option Addr) (c g : Nat) (w : World) (hl : l.length ≤ 1048576) (hg : g < w.heap.size) (g0 : w.cell? ⟨g, 0, none⟩ = some (.int .i64 p)) (g1 : w.cell? ⟨g, 1, none⟩ = some (.int .i64 k)) (g2 : w.cell? ⟨g, 2, none⟩ = some (.slice A l.length c)) (hA : CRead w w.heap.size A (icells l)) :
    Calls Tryd.prog 93 #[.slice A l.length c, .func (.func 68) #[] #[.pointer (some ⟨g, 0, none⟩)]] w fun e w' => ∃ i : Int, e = .returned (.int .i64 i) ∧ decide (0 ≤ i) = l.any (fun x => !isColB k x) ∧ Below w.heap.size w w' := by
  go_enter Tryd.func93, Tryd.ntmps93
  go_wp2
  go_loopw [8] (fun i wr => ∃ j : Nat, j ≤ l.length ∧ i = .int .i64 j ∧ Below w.heap.size w wr ∧ ∀ (m : Nat) (x : Int), m < j → l[m]? = some x → (!isColB k x) = false) (fun i _ => l.length - (intOf i).toNat)
  case atStart => exact ⟨0, Nat.zero_le _, rfl, Below.refl _ _, fun m x hm => by omega⟩
  case round =>
    obtain ⟨j, hj, rfl, hb, hall⟩ := hrel
    have Hall := Lib.hid hall
    clear hall
    have s0 := hb.size
    have g0' := carry hb g0 hg
    have g1' := carry hb g1 hg
    have g2' := carry hb g2 hg
    by_cases hlt : j < l.length
    · obtain ⟨x, hx⟩ := getSome l j hlt
      obtain ⟨bb, off, rfl, hbb, c0⟩ := (hA.below hb (Nat.le_refl _)).int hx
      have call := isNone_any p k l (some ⟨bb, off, none⟩) c g x wr g0' g1' g2'
      obtain ⟨r, hr⟩ : ∃ r, (!isColB k x) = r := ⟨_, rfl⟩
      rw [hr] at call
      have hki : (j : Int) < (l.length : Int) := by omega
      have Hx := Lib.hid hx
      have Hr := Lib.hid hr
      have Call := Lib.hid call
      clear hx hr call
      go_wp2_with fail
      refine Call.out.mono ?_
      rintro e w2 ⟨rfl, hb2⟩
      have k2 := hb.trans (hb2.mono s0)
      cases r with
      | true =>
        have Hf := Lib.hid (show l.any (fun x => !isColB k x) = true from List.any_eq_true.2 ⟨_, List.mem_of_getElem? Hx.out, Hr.out⟩)
        go_wp2
        go_ret
        exact ⟨(j : Int), rfl, by rw [Hf.out]; exact decide_eq_true (by omega), k2⟩
      | false =>
        go_wp2
        go_roundw
        case rel => exact ⟨j + 1, by omega, by go_num, k2, fun m y hm hy => by
                      by_cases hmj : m = j
                      · subst hmj
                        rw [Hx.out] at hy
                        rw [← Option.some.inj hy]
                        exact Hr.out
                      · exact Hall.out m y (by omega) hy⟩
        case measure => simp [intOf]; omega
    · have hjl : j = l.length := by omega
      have hge : ¬ ((j : Int) < (l.length : Int)) := by omega
      have Hf := Lib.hid (any_noI (l := l) (f := fun x => !isColB k x) fun m x hm hx => Hall.out m x (by omega) hx)
      go_wp2
      go_ret
      exact ⟨-1, rfl, by rw [Hf.out]; rfl, hb⟩
set_option maxHeartbeats 1000000 in
theorem hasNone_any (p k : Int) (l : List Int) (A : Option Addr) (c g : Nat) (w : World) (hl : l.length ≤ 1048576) (hg : g < w.heap.size) (g0 : w.cell? ⟨g, 0, none⟩ = some (.int .i64 p)) (g1 : w.cell? ⟨g, 1, none⟩ = some (.int .i64 k)) (g2 : w.cell? ⟨g, 2, none⟩ = some (.slice A l.length c)) (hA : CRead w w.heap.size A (icells l)) :
    Calls Tryd.prog 71 #[.slice A l.length c, .func (.func 68) #[] #[.pointer (some ⟨g, 0, none⟩)]] w fun e w' => e = .returned (.bool (l.any (fun x => !isColB k x))) ∧ Below w.heap.size w w' := by
  obtain ⟨r, hr⟩ : ∃ r, (l.any fun x => !isColB k x) = r := ⟨_, rfl⟩
  rw [hr]
  have Hr := Lib.hid hr
  clear hr
  go_enter Tryd.func71, Tryd.ntmps71
  go_wp2_with fail
  refine (indexNone_any p k l A c g _ hl hg g0 g1 g2 hA).mono ?_
  rintro e w2 ⟨i, rfl, hi, hb2⟩
  rw [Hr.out] at hi
  by_cases h : 0 ≤ i
  · rw [decide_eq_true h] at hi
    subst hi
    go_wp2
    go_ret
    exact ⟨rfl, hb2⟩
  · rw [decide_eq_false h] at hi
    subst hi
    go_wp2
    go_ret
    exact ⟨by show Ending.returned (Value.bool (decide (0 ≤ i))) = _; rw [decide_eq_false (by omega)], hb2⟩
theorem none_all {k : Int} {l : List Int} : (!l.any fun x => !isColB k x) = l1AllB l 0 (k - 1) := by
  unfold l1AllB
  induction l with
  | nil => rfl
  | cons x l ih =>
    rw [List.any_cons, List.all_cons, ← ih]
    have : decide (0 ≤ x ∧ x ≤ k - 1) = isColB k x := by
      unfold isColB
      by_cases h0 : 0 ≤ x <;> by_cases h1 : x < k <;> simp [h0, h1] <;> omega
    rw [this]
    cases isColB k x <;> simp
set_option maxHeartbeats 4000000 in
set_option maxRecDepth 100000 in
theorem isPainting_any (p k : Int) (l : List Int) (A : Option Addr) (c : Nat) (w : World) (hl : l.length ≤ 1048576) (hA : CRead w w.heap.size A (icells l)) :
    Calls Tryd.prog 38 #[.agg #[.int .i64 p, .int .i64 k, .slice A l.length c]] w fun e w' => e = .returned (.bool (isX p k l)) ∧ Below w.heap.size w w' := by
  have hmf : ∀ (fn : Fn) (first cap : Array Value) (w : World), (Instr.makeFunc fn first cap).run Tryd.prog w = .ok (.func fn first cap) w := fun _ _ _ _ => rfl
  by_cases hp0 : p < 0
  · rw [isX_p (by omega)]
    go_enter Tryd.func38, Tryd.ntmps38
    go_wp2
    go_ret
    exact ⟨rfl, by go_grown⟩
  · by_cases hp1 : 8 < p
    · rw [isX_p (by omega)]
      go_enter Tryd.func38, Tryd.ntmps38
      go_wp2
      go_ret
      exact ⟨rfl, by go_grown⟩
    · by_cases hk0 : k < 1
      · rw [isX_k (by omega)]
        go_enter Tryd.func38, Tryd.ntmps38
        go_wp2
        go_ret
        exact ⟨rfl, by go_grown⟩
      · by_cases hk1 : 3 < k
        · rw [isX_k (by omega)]
          go_enter Tryd.func38, Tryd.ntmps38
          go_wp2
          go_ret
          exact ⟨rfl, by go_grown⟩
        · have hp : 0 ≤ p ∧ p ≤ 8 := by omega
          have hiw : InWays p 2 := .inr (by omega)
          obtain ⟨M, hM⟩ : ∃ M, waysI p 2 = M := ⟨_, rfl⟩
          have hcnt := (count_of hp).2.2
          have ways := fun X : World => waysToChoose_any p 2 X hiw
          simp only [hM] at hcnt ways
          obtain ⟨X, hX⟩ : ∃ X, w.alloc (Obj.cells #[.int .i64 p, .int .i64 k, .slice A l.length c] 28) = X := ⟨_, rfl⟩
          have x0 : X.cell? ⟨w.heap.size, 0, none⟩ = some (.int .i64 p) := by rw [← hX]; simp
          have x1 : X.cell? ⟨w.heap.size, 1, none⟩ = some (.int .i64 k) := by rw [← hX]; simp
          have x2 : X.cell? ⟨w.heap.size, 2, none⟩ = some (.slice A l.length c) := by rw [← hX]; simp
          have kX : Below w.heap.size w X := by rw [← hX]; go_grown
          have sX : w.heap.size < X.heap.size := by rw [← hX]; simp
          have RA : CRead X X.heap.size A (icells l) := (hA.below kX (Nat.le_refl _)).more kX.size
          have e0 : ∀ z : Ext X.heap.size X, z.val.cell? ⟨w.heap.size, 0, none⟩ = some (.int .i64 p) := fun z => z.cell x0 sX
          have e1 : ∀ z : Ext X.heap.size X, z.val.cell? ⟨w.heap.size, 1, none⟩ = some (.int .i64 k) := fun z => z.cell x1 sX
          have e2 : ∀ z : Ext X.heap.size X, z.val.cell? ⟨w.heap.size, 2, none⟩ = some (.slice A l.length c) := fun z => z.cell x2 sX
          obtain ⟨r, hr⟩ : ∃ r, (l.any fun x => !isColB k x) = r := ⟨_, rfl⟩
          have call := fun z : Ext X.heap.size X => hasNone_any p k l A c w.heap.size z.val hl (Nat.lt_of_lt_of_le sX z.2.size) (e0 z) (e1 z) (e2 z) ((RA.below z.2 (Nat.le_refl _)).more z.2.size)
          simp only [hr] at call
          have Ways := Lib.hid ways
          have Call := Lib.hid call
          have HX := Lib.hid hX
          have Hcnt := Lib.hid hcnt
          clear hX ways hM hcnt call RA
          by_cases hlen : (l.length : Int) = M
          · have e : isX p k l = !r := by rw [isX_else hp (by omega) (by rw [hlen, Hcnt.out]), ← none_all, hr]
            have hb : ((l.length : Int) == M) = true := beq_iff_eq.2 hlen
            rw [e]
            clear hlen e hr
            go_enter Tryd.func38, Tryd.ntmps38
            go_wp2_with fail
            rw [HX.out]
            refine wp_region_ext X.heap.size (by kernel_rfl) (by kernel_rfl) ?_
            repeat (go_big_quiet_step ((first | (go_at_call 70; exact Calls.ext_of ((Ways.out _).mono fun _ _ h => ⟨h.1, h.2 ▸ Below.refl _ _⟩)) | (go_at_call 71; exact Calls.ext_of ((Call.out _).mono fun _ _ h => ⟨h.1, h.2.mono (Ext.size _)⟩)))))
            refine wpQuiet_nil ?_
            rintro w1 ⟨⟨_, hb1⟩, rfl⟩
            clear e0 e1 e2
            go_wp2
            go_ret
            exact ⟨rfl, kX.trans (hb1.mono kX.size)⟩
          · have e : isX p k l = false := isX_l (by rw [← Hcnt.out]; exact hlen)
            have hb : ((l.length : Int) == M) = false := by simp [hlen]
            rw [e]
            clear hlen e hr
            go_enter Tryd.func38, Tryd.ntmps38
            go_wp2_with fail
            rw [HX.out]
            refine wp_region_ext X.heap.size (by kernel_rfl) (by kernel_rfl) ?_
            repeat (go_big_quiet_step ((first | (go_at_call 70; exact Calls.ext_of ((Ways.out _).mono fun _ _ h => ⟨h.1, h.2 ▸ Below.refl _ _⟩)) | (go_at_call 71; exact Calls.ext_of ((Call.out _).mono fun _ _ h => ⟨h.1, h.2.mono (Ext.size _)⟩)))))
            refine wpQuiet_nil ?_
            rintro w1 ⟨⟨_, hb1⟩, rfl⟩
            clear e0 e1 e2
            go_wp2
            go_ret
            exact ⟨rfl, kX.trans (hb1.mono kX.size)⟩
theorem implIsPainting_any (p k : Int) (l : List Int) (A : Option Addr) (c : Nat) (w : World) (hl : l.length ≤ 1048576) (hA : CRead w w.heap.size A (icells l)) :
    Calls Tryd.prog 38 #[.agg #[.int .i64 p, .int .i64 k, .slice A l.length c]] w fun e w' => e = .returned (.bool (resIsPainting p k l)) ∧ Below w.heap.size w w' := isPainting_any p k l A c w hl hA
end Go.Proofs.YtepoabbkalhifaaDoor
/-
  'PaintingText': the text of a painting, pure; the model's and the program's, by their contracts.
-/
namespace Go.Proofs.YtepoabbkalhifaaDoor
open Go.RowKit

/-- a digit's byte -/
def dg (x : Int) : UInt8 := UInt8.ofNat (48 + x.toNat)
theorem dg_nat {x : Int} (h0 : 0 ≤ x) (h1 : x ≤ 9) : ((dg x).toNat : Int) = 48 + x := by
  have all : ∀ i : Fin 10, ((dg (i.val : Int)).toNat : Int) = 48 + (i.val : Int) := by decide +kernel
  have := all ⟨x.toNat, by omega⟩
  rwa [show ((x.toNat : Nat) : Int) = x from by omega] at this
/-- the head of a text -/
def headT (p k : Int) : ByteArray := (⟨#[dg p]⟩ ++ ⟨#[58]⟩) ++ ⟨#[dg k]⟩ ++ ⟨#[58]⟩
def textT (p k : Int) (l : List Int) : ByteArray := headT p k ++ ⟨(l.map dg).toArray⟩
theorem textT_nil (p k : Int) : textT p k [] = headT p k := by
  unfold textT
  apply ByteArray.ext
  simp
theorem textT_snoc (p k : Int) (l : List Int) (x : Int) : textT p k (l ++ [x]) = textT p k l ++ ⟨#[dg x]⟩ := by
  unfold textT
  rw [ByteArray.append_assoc]
  congr 1
  apply ByteArray.ext
  simp
theorem textT_size (p k : Int) (l : List Int) : (textT p k l).size = 4 + l.length := by
  unfold textT headT
  simp only [ByteArray.size_append]
  have h : ∀ a : Array UInt8, (ByteArray.mk a).size = a.size := fun _ => rfl
  simp only [h]
  simp
set_option maxHeartbeats 2000000 in
set_option maxRecDepth 100000 in
theorem l1Num_any (x : Int) (h0 : 0 ≤ x) (h1 : x ≤ 9) (w : World) : Calls Tryd.prog 78 #[.int .i64 x] w fun e w' => e = .returned (.string ⟨#[dg x]⟩) ∧ Below w.heap.size w w' := by
  have hlt : x < 10 := by omega
  have hcv : ∀ X : World, X.cell? ⟨w.heap.size, 0, none⟩ = some (.int .u8 (48 + x)) → (convert 76 9 (.slice (some ⟨w.heap.size, 0, none⟩) 1 1)).run Tryd.prog X = .ok (.string ⟨#[dg x]⟩) X := fun X hX =>
    run_convert_bytes_back X 76 9 5 ⟨w.heap.size, 0, none⟩ 1 [dg x] Tryd.underlying76 Tryd.underlying5 Tryd.underlying9 (fun j hj => by
      have hj0 : j = 0 := by simp at hj; omega
      subst hj0
      rw [Addr.add_lit]
      simp only [List.getElem_cons_zero, Nat.zero_add]
      rw [dg_nat h0 h1]
      exact hX)
  have hc2 := hcv (w.alloc (Obj.cells #[.int .u8 (48 + x)] 5)) (by simp)
  clear hcv
  go_enter Tryd.func78, Tryd.ntmps78
  go_wp2
  go_ret
  exact ⟨rfl, by go_grown⟩
set_option maxHeartbeats 2000000 in
theorem itoa_any (x : Int) (h0 : 0 ≤ x) (h1 : x ≤ 9) (w : World) : Calls Tryd.prog 51 #[.int .i64 x] w fun e w' => e = .returned (.string ⟨#[dg x]⟩) ∧ w' = w := by
  have all : ∀ i : Fin 10, (Lib.decDigits i.val).toArray = #[dg (i.val : Int)] := by decide +kernel
  obtain ⟨i, rfl⟩ : ∃ i : Nat, x = i := ⟨x.toNat, by omega⟩
  have h := Any.strconv_Itoa_small Tryd.itoa i (by omega) w
  rw [all ⟨i, by omega⟩] at h
  exact h
set_option maxHeartbeats 4000000 in
set_option maxRecDepth 100000 in
theorem ptText_any (p k : Int) (l : List Int) (A : Option Addr) (c : Nat) (w : World) (hx : isX p k l = true) (hA : CRead w w.heap.size A (icells l)) :
    Calls Tryd.prog 50 #[.agg #[.int .i64 p, .int .i64 k, .slice A l.length c]] w fun e w' => e = .returned (.string (textT p k l)) ∧ Below w.heap.size w w' := by
  obtain ⟨⟨hp0, hp1⟩, ⟨hk0, hk1⟩, hrest⟩ := isX_parts hx
  clear hrest
  have hat := fun i x (h : l[i]? = some x) => isX_at hx h
  have hsm := isX_small hx
  obtain ⟨F, hF⟩ : ∃ F, textT p k l = F := ⟨_, rfl⟩
  rw [hF]
  have HF := Lib.hid hF
  have Hat := Lib.hid hat
  clear hF hat hx
  obtain ⟨W, hW⟩ : ∃ W, w.alloc (Obj.cells #[.int .i64 p, .int .i64 k, .slice A l.length c] 28) = W := ⟨_, rfl⟩
  have a0 : W.cell? ⟨w.heap.size, 0, none⟩ = some (.int .i64 p) := by rw [← hW]; simp
  have a1 : W.cell? ⟨w.heap.size, 1, none⟩ = some (.int .i64 k) := by rw [← hW]; simp
  have a2 : W.cell? ⟨w.heap.size, 2, none⟩ = some (.slice A l.length c) := by rw [← hW]; simp
  have kW : Below w.heap.size w W := by rw [← hW]; go_grown
  have sW : w.heap.size < W.heap.size := by rw [← hW]; simp
  have p0 : ∀ z : Ext W.heap.size W, z.val.cell? ⟨w.heap.size, 0, none⟩ = some (.int .i64 p) := fun z => z.cell a0 sW
  have p1 : ∀ z : Ext W.heap.size W, z.val.cell? ⟨w.heap.size, 1, none⟩ = some (.int .i64 k) := fun z => z.cell a1 sW
  have call : ∀ (z : Ext W.heap.size W) (x : Int), 0 ≤ x → x ≤ 9 → Calls Tryd.prog 78 #[.int .i64 x] z.val fun e w' => e = .returned (.string ⟨#[dg x]⟩) ∧ Below z.val.heap.size z.val w' := fun z x h0 h1 => l1Num_any x h0 h1 z.val
  have Call := Lib.hid call
  have HW := Lib.hid hW
  clear hW call
  go_enter Tryd.func50, Tryd.ntmps50
  go_wp2_with fail
  rw [HW.out]
  refine wp_region_ext W.heap.size (by kernel_rfl) (by kernel_rfl) ?_
  repeat (go_big_quiet_step ((first | (go_at_call 78; exact Calls.ext_of ((Call.out _ _ (by omega) (by omega)).mono fun _ _ h => ⟨h.1, h.2.mono (Ext.size _)⟩)))))
  refine wpQuiet_nil ?_
  rintro w1 ⟨⟨_, hb1⟩, rfl⟩
  clear p0 p1
  have b2 := carry hb1 a2 sW
  have k1 := kW.trans (hb1.mono kW.size)
  have s1 := hb1.size
  have ht0 : (⟨#[dg p]⟩ ++ ⟨#[58]⟩) ++ ⟨#[dg k]⟩ ++ ⟨#[58]⟩ = textT p k (l.take 0) := by rw [List.take_zero, textT_nil]; rfl
  obtain ⟨H0, hH0⟩ : ∃ H, (⟨#[dg p]⟩ ++ ⟨#[58]⟩ : ByteArray) ++ ⟨#[dg k]⟩ ++ ⟨#[58]⟩ = H := ⟨_, rfl⟩
  rw [hH0] at ht0 ⊢
  have Ht0 := Lib.hid ht0
  clear a0 a1 a2 ht0 hb1 hH0
  go_wp2_with fail
  go_loopw [3, 18] (fun v i wr => ∃ j : Nat, j ≤ l.length ∧ i = .int .i64 j ∧ v = .string (textT p k (l.take j)) ∧ Below w1.heap.size w1 wr) (fun _ i _ => l.length - (intOf i).toNat)
  case atStart => exact ⟨0, Nat.zero_le _, rfl, by rw [Ht0.out], Below.refl _ _⟩
  case round =>
    obtain ⟨j, hj, rfl, rfl, hb⟩ := hrel
    have kX := k1.trans (hb.mono k1.size)
    by_cases hlt : j < l.length
    · obtain ⟨y, hy⟩ := getSome l j hlt
      obtain ⟨bb, off, rfl, hbb, c0⟩ := (hA.below kX (Nat.le_refl _)).int hy
      have hyk := Hat.out j y hy
      have hji : (j : Int) < (l.length : Int) := by omega
      have hnext : textT p k (l.take (j + 1)) = textT p k (l.take j) ++ ⟨#[dg y]⟩ := by rw [List.take_add_one, hy, Option.toList_some, textT_snoc]
      have call := l1Num_any y (by omega) (by omega) wr
      obtain ⟨S, hS⟩ : ∃ S, textT p k (l.take j) = S := ⟨_, rfl⟩
      have hsz : S.size + (ByteArray.mk #[dg y]).size ≤ 9223372036854775807 := by
        rw [← hS, textT_size, List.length_take]
        have h1 : (ByteArray.mk #[dg y]).size = 1 := rfl
        omega
      rw [hS] at hnext ⊢
      have Hnext := Lib.hid hnext
      have Cl := Lib.hid call
      have Hsz := Lib.hid hsz
      have sb := hb.size
      clear hy hnext hS call hsz
      go_wp2_with fail
      refine Cl.out.mono ?_
      rintro e w2 ⟨rfl, hb2⟩
      have hb3 := hb.trans (hb2.mono sb)
      have hadd := run_string_add_sum (P := Tryd.prog) w2 S ⟨#[dg y]⟩ Hsz.out
      clear c0 hb2
      go_wp2
      clear hadd
      go_roundw
      case rel => exact ⟨j + 1, by omega, by go_num, by rw [Hnext.out], hb3⟩
      case measure => simp [intOf]; omega
    · have hjl : j = l.length := by omega
      subst hjl
      have hge : ¬ ((l.length : Int) < (l.length : Int)) := by omega
      have hfin : textT p k (l.take l.length) = F := by rw [List.take_length, HF.out]
      rw [hfin]
      clear hfin
      go_wp2
      go_ret
      exact ⟨rfl, kX⟩
/-- the text of a painting -/
def resPaintingText (p k : Int) (l : List Int) : ByteArray × Bool := if isX p k l then (textT p k l, true) else (⟨#[]⟩, false)
set_option maxHeartbeats 2000000 in
set_option maxRecDepth 100000 in
theorem specPaintingText_any (p k : Int) (l : List Int) (A : Option Addr) (c : Nat) (w : World) (hl : l.length ≤ 1048576) (hA : CRead w w.heap.size A (icells l)) :
    Calls Tryd.prog 20 #[.agg #[.int .i64 p, .int .i64 k, .slice A l.length c]] w fun e w' => e = .returned (.tuple #[.string (resPaintingText p k l).1, .bool (resPaintingText p k l).2]) ∧ Below w.heap.size w w' := by
  have RA : CRead (w.alloc (Obj.cells #[.int .i64 p, .int .i64 k, .slice A l.length c] 28)) (w.alloc (Obj.cells #[.int .i64 p, .int .i64 k, .slice A l.length c] 28)).heap.size A (icells l) := (hA.below (B' := w.heap.size) (by go_grown) (Nat.le_refl _)).more (by go_size)
  cases hp : isX p k l with
  | false =>
    have e : resPaintingText p k l = (⟨#[]⟩, false) := by simp [resPaintingText, hp]
    rw [e]
    have Hp := Lib.hid hp
    clear hp e
    go_enter Tryd.func20, Tryd.ntmps20
    go_wp2_with fail
    refine (ptGood_any _ _ _ _ _ _ hl RA).mono ?_
    rw [Hp.out]
    rintro e w2 ⟨rfl, hb2⟩
    simp only [World.size_alloc] at hb2
    go_wp2
    go_ret2
    exact ⟨rfl, Below.trans (b := _) (by go_grown) (hb2.mono (by omega))⟩
  | true =>
    have e : resPaintingText p k l = (textT p k l, true) := by simp [resPaintingText, hp]
    rw [e]
    have call := fun (X : World) (hR : CRead X X.heap.size A (icells l)) => ptText_any p k l A c X hp hR
    obtain ⟨F, hF⟩ : ∃ F, textT p k l = F := ⟨_, rfl⟩
    simp only [hF] at call ⊢
    have Call := Lib.hid call
    have Hp := Lib.hid hp
    clear hp e hF call
    go_enter Tryd.func20, Tryd.ntmps20
    go_wp2_with fail
    refine (ptGood_any _ _ _ _ _ _ hl RA).mono ?_
    rw [Hp.out]
    rintro e w2 ⟨rfl, hb2⟩
    have k2 : Below w.heap.size w w2 := Below.trans (b := _) (by go_grown) (hb2.mono (by simp))
    have c0 : w2.cell? ⟨w.heap.size, 0, none⟩ = some (.int .i64 p) := carry hb2 (by simp) (by simp)
    have c1 : w2.cell? ⟨w.heap.size, 1, none⟩ = some (.int .i64 k) := carry hb2 (by simp) (by simp)
    have c2 : w2.cell? ⟨w.heap.size, 2, none⟩ = some (.slice A l.length c) := carry hb2 (by simp) (by simp)
    go_wp2_with fail
    refine (Call.out _ ((hA.below k2 (Nat.le_refl _)).more k2.size)).mono ?_
    rintro e w3 ⟨rfl, hb3⟩
    have k3 := k2.trans (hb3.mono k2.size)
    clear c0 c1 c2 hb2 hb3
    go_wp2
    go_ret2
    exact ⟨rfl, k3⟩
theorem Tryd.infoByte : (Tryd.prog.info? 5).map (fun i => (i.zero, i.size, i.bytes)) = some (some (.int .u8 0), 1, 1) := by kernel_rfl
set_option maxHeartbeats 4000000 in
set_option maxRecDepth 100000 in
theorem implPaintingText_any (p k : Int) (l : List Int) (A : Option Addr) (c : Nat) (w : World) (hl : l.length ≤ 1048576) (hA : CRead w w.heap.size A (icells l)) :
    Calls Tryd.prog 21 #[.agg #[.int .i64 p, .int .i64 k, .slice A l.length c]] w fun e w' => e = .returned (.tuple #[.string (resPaintingText p k l).1, .bool (resPaintingText p k l).2]) ∧ Below w.heap.size w w' := by
  have RA : CRead (w.alloc (Obj.cells #[.int .i64 p, .int .i64 k, .slice A l.length c] 28)) (w.alloc (Obj.cells #[.int .i64 p, .int .i64 k, .slice A l.length c] 28)).heap.size A (icells l) := (hA.below (B' := w.heap.size) (by go_grown) (Nat.le_refl _)).more (by go_size)
  cases hp : isX p k l with
  | false =>
    have e : resPaintingText p k l = (⟨#[]⟩, false) := by simp [resPaintingText, hp]
    rw [e]
    have Hp := Lib.hid hp
    clear hp e
    go_enter Tryd.func21, Tryd.ntmps21
    go_wp2_with fail
    refine (isPainting_any _ _ _ _ _ _ hl RA).mono ?_
    rw [Hp.out]
    rintro e w2 ⟨rfl, hb2⟩
    simp only [World.size_alloc] at hb2
    go_wp2
    go_ret2
    exact ⟨rfl, Below.trans (b := _) (by go_grown) (hb2.mono (by omega))⟩
  | true =>
    have e : resPaintingText p k l = (textT p k l, true) := by simp [resPaintingText, hp]
    rw [e]
    obtain ⟨i0, hi, hz0, hz1, hz2⟩ := info_parts Tryd.infoByte
    obtain ⟨⟨hp0, hp1⟩, ⟨hk0, hk1⟩, hrest⟩ := isX_parts hp
    clear hrest
    have hat := fun i x (h : l[i]? = some x) => isX_at hp h
    have hsm := isX_small hp
    obtain ⟨F, hF⟩ : ∃ F, textT p k l = F := ⟨_, rfl⟩
    rw [hF]
    have HF := Lib.hid hF
    have Hat := Lib.hid hat
    have Hp := Lib.hid hp
    clear hp e hF hat
    go_enter Tryd.func21, Tryd.ntmps21
    go_wp2_with fail
    refine (isPainting_any _ _ _ _ _ _ hl RA).mono ?_
    rw [Hp.out]
    rintro e w2 ⟨rfl, hb2⟩
    have k2 : Below w.heap.size w w2 := Below.trans (b := _) (by go_grown) (hb2.mono (by simp))
    have c0 : w2.cell? ⟨w.heap.size, 0, none⟩ = some (.int .i64 p) := carry hb2 (by simp) (by simp)
    have c1 : w2.cell? ⟨w.heap.size, 1, none⟩ = some (.int .i64 k) := carry hb2 (by simp) (by simp)
    have c2 : w2.cell? ⟨w.heap.size, 2, none⟩ = some (.slice A l.length c) := carry hb2 (by simp) (by simp)
    have sP : w.heap.size < w2.heap.size := by have := hb2.size; simp at this; omega
    clear hb2
    go_wp2_with (at_make; refine wpList_make_full _ rfl _ _ 76 rfl w2.heap.size 5 i0 _ 1 Tryd.underlying76 hi hz0 hz1 _ _ _ _ l.length rfl rfl (by omega) (by omega) (by rw [hz2]; omega) (by unfold maxLen; omega) (Nat.le_refl _) ?_; intro w3 hown3 hgr3; have hb3 := below_of_gb hgr3 (Nat.le_refl _); have d0 := carry hb3 c0 sP; have d1 := carry hb3 c1 sP; have d2 := carry hb3 c2 sP; clear c0 c1 c2 hgr3)
    have own0 : w3.ownsRow w2.heap.size 5 1 (.slice (some ⟨w2.heap.size, 0, none⟩) l.length l.length) l.length ((List.replicate l.length (0 : Int)).map (Value.int .u8)) := by
      have h := hown3
      rw [show Value.cells (.int .u8 0) = #[.int .u8 0] from rfl, Nat.mul_one, toList_madeCells_one] at h
      rw [List.map_replicate]
      exact h
    have D0 := Lib.hid d0
    have D1 := Lib.hid d1
    have D2 := Lib.hid d2
    have k3 := k2.trans (hb3.mono k2.size)
    have Own0 := Lib.hid own0
    clear own0 hown3 d0 d1 d2
    obtain ⟨G, hG⟩ : ∃ G, w2.heap.size = G := ⟨_, rfl⟩
    have own0 := Own0.out
    rw [hG] at own0 sP
    rw [hG]
    have Own1 := Lib.hid own0
    have hsG : G ≤ w3.heap.size := by have := hb3.size; omega
    clear Own0 own0 hb3 hG
    go_loopw [17] (fun i wr => ∃ j : Nat, j ≤ l.length ∧ i = .int .i64 j ∧ wr.ownsRow G 5 1 (.slice (some ⟨G, 0, none⟩) l.length l.length) l.length (((l.take j).map (fun x => 48 + x) ++ List.replicate (l.length - j) 0).map (Value.int .u8)) ∧ Below G w3 wr) (fun i _ => l.length - (intOf i).toNat)
    case atStart => exact ⟨0, Nat.zero_le _, rfl, Own1.out, Below.refl _ _⟩
    case round =>
      clear Own1
      obtain ⟨j, hj, rfl, own, hb⟩ := hrel
      have kX := k3.trans (hb.mono (by omega))
      by_cases hlt : j < l.length
      · obtain ⟨y, hy⟩ := getSome l j hlt
        obtain ⟨bb, off, rfl, hbb, c0⟩ := (hA.below kX (Nat.le_refl _)).int hy
        obtain ⟨hy0, hy1⟩ := Hat.out j y hy
        have hji : (j : Int) < (l.length : Int) := by omega
        have wy : IntKind.u8.wrap y = y := by rw [IntKind.wrap_u8]; omega
        have wy2 : IntKind.u8.wrap (48 + y) = 48 + y := by rw [IntKind.wrap_u8]; omega
        have hlen : ((l.take j).map (fun x => 48 + x) ++ List.replicate (l.length - j) (0 : Int)).length = l.length := by
          rw [List.length_append, List.length_map, List.length_take, List.length_replicate]; omega
        have hset : ((l.take j).map (fun x => 48 + x) ++ List.replicate (l.length - j) (0 : Int)).set j (48 + y) = (l.take (j + 1)).map (fun x => 48 + x) ++ List.replicate (l.length - (j + 1)) 0 := by
          rw [List.set_append_right _ _ (by simp; omega), show j - ((l.take j).map (fun x => 48 + x)).length = 0 from by simp; omega, show l.length - j = (l.length - (j + 1)) + 1 by omega, List.replicate_succ, List.set_cons_zero, List.take_add_one, hy, List.map_append, List.append_assoc]
          rfl
        obtain ⟨M, hM⟩ : ∃ M, (l.take j).map (fun x => 48 + x) ++ List.replicate (l.length - j) (0 : Int) = M := ⟨_, rfl⟩
        rw [hM] at own hlen hset
        obtain ⟨z, hz⟩ := getSome M j (by omega)
        have fz := own.frozenAt j
        have ce := own.cellAt j (by omega)
        rw [List.getElem?_map, hz] at ce
        have own2 := (own.stored j (.int .u8 (48 + y))).1
        have gb2 := (own.stored j (.int .u8 (48 + y))).2
        rw [show (M.map (Value.int .u8)).set j (.int .u8 (48 + y)) = (M.set j (48 + y)).map (Value.int .u8) by rw [List.map_set], hset] at own2
        have Own2 := Lib.hid own2
        have bb2 := hb.setCell (p := ⟨G, j, none⟩) (Nat.le_refl _) (.int .u8 (48 + y))
        have Bb2 := Lib.hid bb2
        clear hy hlen hset hM hz own own2 gb2 bb2
        go_wp2
        go_roundw
        case rel => exact ⟨j + 1, by omega, by go_num, Own2.out, Bb2.out⟩
        case measure => simp [intOf]; omega
      · have hjl : j = l.length := by omega
        subst hjl
        have hge : ¬ ((l.length : Int) < (l.length : Int)) := by omega
        have hfin : ((l.take l.length).map (fun x => 48 + x) ++ List.replicate (l.length - l.length) (0 : Int)).map (Value.int .u8) = (l.map dg).map fun b : UInt8 => Value.int .u8 (b.toNat : Int) := by
          rw [List.take_length, Nat.sub_self, List.replicate_zero, List.append_nil, List.map_map, List.map_map]
          apply List.map_congr_left
          intro x hx
          obtain ⟨m, hm, e⟩ := List.getElem_of_mem hx
          have h3 := Hat.out m x (by rw [List.getElem?_eq_getElem hm, e])
          simp only [Function.comp_apply]
          rw [dg_nat (by omega) (by omega)]
        rw [hfin] at own
        have hcv : ∀ X : World, (∀ i, X.cell? ⟨G, i, none⟩ = wr.cell? ⟨G, i, none⟩) → (convert 76 9 (.slice (some ⟨G, 0, none⟩) l.length l.length)).run Tryd.prog X = .ok (.string ⟨(l.map dg).toArray⟩) X := fun X hX => by
          have h := run_convert_bytes_back (P := Tryd.prog) X 76 9 5 ⟨G, 0, none⟩ l.length (l.map dg) Tryd.underlying76 Tryd.underlying5 Tryd.underlying9 (fun i hi => by
            rw [Addr.add_lit]
            simp only [Nat.zero_add]
            rw [hX i, own.cellAt i (by simpa using hi)]
            rw [List.length_map] at hi
            simp [List.getElem?_map, List.getElem?_eq_getElem hi])
          rw [List.length_map] at h
          exact h
        have hitoa := itoa_any p (by omega) (by omega)
        have hitoa2 := itoa_any k (by omega) (by omega)
        have e0 := carry hb D0.out sP
        have e1 := carry hb D1.out sP
        have hcv1 := fun n => hcv (wr.drewN n) fun _ => rfl
        have hF : ((⟨#[dg p]⟩ ++ ⟨#[58]⟩ : ByteArray) ++ ⟨#[dg k]⟩ ++ ⟨#[58]⟩) ++ ⟨(l.map dg).toArray⟩ = F := HF.out
        have HFF := Lib.hid hF
        have It := Lib.hid hitoa
        have It2 := Lib.hid hitoa2
        clear own hfin hcv hF hitoa hitoa2
        go_wp2_with fail
        go_quiet (first | (go_at_call 51; refine Calls.quiet_of_same (itoa_any _ (by omega) (by omega) _)))
        rw [HFF.out]
        go_wp2
        go_ret2
        exact ⟨rfl, ⟨kX.os, kX.tape, kX.output, kX.size, kX.block⟩⟩
end Go.Proofs.YtepoabbkalhifaaDoor
/-
  'laws.FnExactPaintingText' returns true, whatever its arguments: out of the contracts of the model's function and of the program's.
-/
namespace Go.Proofs.YtepoabbkalhifaaDoor
open Go.RowKit

set_option maxHeartbeats 4000000 in
set_option maxRecDepth 100000 in
theorem lawPaintingText_any (p0 k0 : Int) (l0 : List Int) (A0 : Option Addr) (c0 : Nat) (W : World) (hl0 : l0.length ≤ maxLen) (hA0 : CRead W W.heap.size A0 (icells l0)) :
    Calls Tryd.prog 5 #[.agg #[.int .i64 p0, .int .i64 k0, .slice A0 l0.length c0]] W fun e w' => e = .returned (.bool true) ∧ Below W.heap.size W w' := by
  have hone : (0 : Int) ≤ 1 ∧ (1 : Int) ≤ 16777216 := by omega
  by_cases hz0 : szI (1048576) l0.length < 0
  · go_enter Tryd.func5, Tryd.ntmps5
    go_wp2_with fail
    refine (szPainting_any _ _ _ _ _ _ hl0 (by omega) (by omega) _).mono ?_
    rintro e w1 ⟨rfl, hb1⟩
    simp only [World.size_alloc] at hb1
    have g1 : Below W.heap.size W w1 := Below.trans (b := _) (by go_grown) (hb1.mono (by omega))
    have s1 := hb1.size
    simp only [World.size_alloc] at s1
    have f1_0 : w1.cell? ⟨W.heap.size, 0, none⟩ = some (.int .i64 p0) := carry hb1 (by simp) (by omega)
    have f1_1 : w1.cell? ⟨W.heap.size, 1, none⟩ = some (.int .i64 k0) := carry hb1 (by simp) (by omega)
    have f1_2 : w1.cell? ⟨W.heap.size, 2, none⟩ = some (.slice A0 l0.length c0) := carry hb1 (by simp) (by omega)
    have k1 : Below W.heap.size W w1 := g1
    go_wp2
    go_ret
    exact ⟨rfl, k1⟩
  have hn0 : l0.length ≤ 1048576 := by have h1 := szI_len _ _ hz0; have h2 := szI_hi (1048576) l0.length (by omega); omega
  have hz0' : 0 ≤ szI (1048576) l0.length := by omega
  have hz0'' : szI (1048576) l0.length ≤ 1048576 := by have h2 := szI_hi (1048576) l0.length (by omega); omega
  obtain ⟨⟨rb, rok⟩, hres⟩ : ∃ r, resPaintingText p0 k0 l0 = r := ⟨_, rfl⟩
  have Hres := Lib.hid hres
  clear hres
  go_enter Tryd.func5, Tryd.ntmps5
  go_wp2_with fail
  refine (szPainting_any _ _ _ _ _ _ hl0 (by omega) (by omega) _).mono ?_
  rintro e w1 ⟨rfl, hb1⟩
  simp only [World.size_alloc] at hb1
  have g1 : Below W.heap.size W w1 := Below.trans (b := _) (by go_grown) (hb1.mono (by omega))
  have s1 := hb1.size
  simp only [World.size_alloc] at s1
  have f1_0 : w1.cell? ⟨W.heap.size, 0, none⟩ = some (.int .i64 p0) := carry hb1 (by simp) (by omega)
  have f1_1 : w1.cell? ⟨W.heap.size, 1, none⟩ = some (.int .i64 k0) := carry hb1 (by simp) (by omega)
  have f1_2 : w1.cell? ⟨W.heap.size, 2, none⟩ = some (.slice A0 l0.length c0) := carry hb1 (by simp) (by omega)
  have k1 : Below W.heap.size W w1 := g1
  go_wp2_with fail
  refine (toPainting_any p0 k0 l0 A0 c0 _ hn0 ((hA0.below k1 (Nat.le_refl _)).more k1.size)).mono ?_
  rintro e w2 ⟨T2, d2, rfl, n2, hb2⟩
  have g2 : Below w1.heap.size w1 w2 := hb2
  have s2 := hb2.size
  have f2_0 := carry g2 f1_0 (by omega)
  have f2_1 := carry g2 f1_1 (by omega)
  have f2_2 := carry g2 f1_2 (by omega)
  have k2 := k1.trans (g2.mono k1.size)
  clear f1_0 f1_1 f1_2
  have r2 : Lies (.slice T2 l0.length d2) (w1.heap.size) w2.heap.size := own_lies n2
  go_wp2_with fail
  refine (specPaintingText_any p0 k0 l0 _ _ _ hn0 (CRead.of_own n2)).mono ?_
  rw [Hres.out]
  rintro e w3 ⟨rfl, hb3⟩
  have g3 : Below w2.heap.size w2 w3 := hb3
  have s3 := hb3.size
  have f3_0 := carry g3 f2_0 (by omega)
  have f3_1 := carry g3 f2_1 (by omega)
  have f3_2 := carry g3 f2_2 (by omega)
  have o3_0 := own_below n2 g3 (Nat.le_refl _)
  have k3 := k2.trans (g3.mono k2.size)
  clear f2_0 f2_1 f2_2 n2
  clear o3_0 r2
  go_wp2_with fail
  refine (toPainting_any p0 k0 l0 A0 c0 _ hn0 ((hA0.below k3 (Nat.le_refl _)).more k3.size)).mono ?_
  rintro e w4 ⟨T4, d4, rfl, n4, hb4⟩
  have g4 : Below w3.heap.size w3 w4 := hb4
  have s4 := hb4.size
  have f4_0 := carry g4 f3_0 (by omega)
  have f4_1 := carry g4 f3_1 (by omega)
  have f4_2 := carry g4 f3_2 (by omega)
  have k4 := k3.trans (g4.mono k3.size)
  clear f3_0 f3_1 f3_2
  have r4 : Lies (.slice T4 l0.length d4) (w3.heap.size) w4.heap.size := own_lies n4
  have q5_0 : (w4.alloc (Obj.cells #[.int .i64 p0, .int .i64 k0, .slice T4 l0.length d4] 28)).cell? ⟨W.heap.size, 0, none⟩ = some (.int .i64 p0) := (World.cell?_alloc_lt _ _ _ (show W.heap.size < w4.heap.size by omega)).trans f4_0
  have q5_1 : (w4.alloc (Obj.cells #[.int .i64 p0, .int .i64 k0, .slice T4 l0.length d4] 28)).cell? ⟨W.heap.size, 1, none⟩ = some (.int .i64 k0) := (World.cell?_alloc_lt _ _ _ (show W.heap.size < w4.heap.size by omega)).trans f4_1
  have q5_2 : (w4.alloc (Obj.cells #[.int .i64 p0, .int .i64 k0, .slice T4 l0.length d4] 28)).cell? ⟨W.heap.size, 2, none⟩ = some (.slice A0 l0.length c0) := (World.cell?_alloc_lt _ _ _ (show W.heap.size < w4.heap.size by omega)).trans f4_2
  go_wp2_with fail
  refine (implPaintingText_any p0 k0 l0 _ _ _ hn0 (((CRead.of_own n4).below (B' := w4.heap.size) (by go_grown) (Nat.le_refl _)).more (by go_size))).mono ?_
  rw [Hres.out]
  rintro e w6 ⟨rfl, hb6⟩
  simp only [World.size_alloc] at hb6
  have g6 : Below w4.heap.size w4 w6 := Below.trans (b := _) (by go_grown) (hb6.mono (by omega))
  have s6 := hb6.size
  simp only [World.size_alloc] at s6
  have f6_0 := carry g6 f4_0 (by omega)
  have f6_1 := carry g6 f4_1 (by omega)
  have f6_2 := carry g6 f4_2 (by omega)
  have f6_3 : w6.cell? ⟨w4.heap.size, 0, none⟩ = some (.int .i64 p0) := carry hb6 (by simp) (by omega)
  have f6_4 : w6.cell? ⟨w4.heap.size, 1, none⟩ = some (.int .i64 k0) := carry hb6 (by simp) (by omega)
  have f6_5 : w6.cell? ⟨w4.heap.size, 2, none⟩ = some (.slice T4 l0.length d4) := carry hb6 (by simp) (by omega)
  have o6_0 := own_below n4 g6 (Nat.le_refl _)
  have k6 := k4.trans (g6.mono k4.size)
  clear f4_0 f4_1 f4_2 n4 q5_0 q5_1 q5_2
  go_wp2
  go_region_held3 (fun w' => w'.cell? ⟨W.heap.size, 0, none⟩ = some (.int .i64 p0) ∧ w'.cell? ⟨W.heap.size, 1, none⟩ = some (.int .i64 k0) ∧ w'.cell? ⟨W.heap.size, 2, none⟩ = some (.slice A0 l0.length c0) ∧ w'.cell? ⟨w4.heap.size, 0, none⟩ = some (.int .i64 p0) ∧ w'.cell? ⟨w4.heap.size, 1, none⟩ = some (.int .i64 k0) ∧ w'.cell? ⟨w4.heap.size, 2, none⟩ = some (.slice T4 l0.length d4)) (first | exact ⟨f6_0, f6_1, f6_2, f6_3, f6_4, f6_5⟩ | exact ⟨f7_0, f7_1, f7_2, f7_3, f7_4, f7_5⟩ | exact ⟨f8_0, f8_1, f8_2, f8_3, f8_4, f8_5⟩) ((first | (go_at_call 11; refine (toPainting_any p0 k0 l0 A0 c0 _ hn0 ((hA0.below k6.drew (Nat.le_refl _)).more k6.size)).mono ?_; rintro e w7 ⟨T7, d7, rfl, n7, hb7⟩; have g7 : Below w6.heap.size w6 w7 := (Below.refl _ _).drew.trans hb7; have s7 := g7.size; have f7_0 := carry g7 f6_0 (by omega); have f7_1 := carry g7 f6_1 (by omega); have f7_2 := carry g7 f6_2 (by omega); have f7_3 := carry g7 f6_3 (by omega); have f7_4 := carry g7 f6_4 (by omega); have f7_5 := carry g7 f6_5 (by omega); have o7_0 := own_below o6_0 g7 (Nat.le_refl _); have k7 := k6.trans (g7.mono k6.size)) | (go_at_call 14; refine (eqPainting_any p0 p0 k0 k0 l0 l0 _ _ _ _ _ hl0 hl0 (CRead.of_own o7_0) (CRead.of_own n7)).mono ?_; rw [decide_eq_true ⟨rfl, rfl, rfl⟩]; rintro e w8 ⟨rfl, hb8⟩; have g8 : Below w7.heap.size w7 w8 := hb8; have s8 := g8.size; have f8_0 := carry g8 f7_0 (by omega); have f8_1 := carry g8 f7_1 (by omega); have f8_2 := carry g8 f7_2 (by omega); have f8_3 := carry g8 f7_3 (by omega); have f8_4 := carry g8 f7_4 (by omega); have f8_5 := carry g8 f7_5 (by omega); have o8_0 := own_below o7_0 g8 (Nat.le_refl _); have k8 := k7.trans (g8.mono k7.size))))
  clear f6_0 f6_1 f6_2 f6_3 f6_4 f6_5 o6_0 f7_0 f7_1 f7_2 f7_3 f7_4 f7_5 o7_0 n7
  go_wp2
  go_ret
  exact ⟨rfl, k8⟩
end Go.Proofs.YtepoabbkalhifaaDoor
/-
  FROM A LAW's WALK TO ITS STATEMENT: arguments opened (numbers, lists of numbers, parties), and what every law's post asks.
-/
namespace Go.Proofs.YtepoabbkalhifaaDoor
open Go.ChangeShapes Go.WideShapes Go.ChangeAt Go.RowKit Go.Deep

theorem Tryd.own : ownKnob Tryd.prog.godebug = none := by kernel_rfl
theorem Tryd.laidOut : laidOutB Tryd.prog = true := by kernel_rfl
theorem Tryd.cellsPair : Tryd.prog.cellsOf 112 = 2 := by kernel_rfl
theorem Tryd.cellsParty : Tryd.prog.cellsOf 45 = 2 := by kernel_rfl
theorem Tryd.cellsInt : Tryd.prog.cellsOf 3 = 1 := by kernel_rfl

section
variable {H : Type} {enc : TypeId × Value → H} {P : Program}
theorem below_trodAll (hl : laidOutB P = true) : ∀ (ts : List TypeId), (ts.all fun t => P.readableRec t && decide (t < P.types.size)) = true → ∀ {vs : List Value} {ds : List (DataW H)} {ps : List MemPlace} {W W' : World},
    DataW.TrodAll enc P W 0 (fun _ => true) true ts vs ds ps → Below W.heap.size W W' → (∀ x ∈ ps, x.block < W.heap.size) → DataW.TrodAll enc P W' 0 (fun b => decide (b < W.heap.size)) true ts vs ds ps
  | [], _, vs, ds, ps, W, W', h, _, _ => by
    obtain ⟨rfl, rfl, rfl⟩ := trodAll_nil h
    exact trodAll_mk0
  | t :: ts, hr, vs, ds, ps, W, W', h, hb, hlt => by
    obtain ⟨v, vs', d, ds', p, q, rfl, rfl, rfl, h0, h1⟩ := trodAll_cons h
    simp only [List.all_cons, Bool.and_eq_true, decide_eq_true_eq] at hr
    refine trodAll_cons_mk (Below.trod hl hr.1.1 hr.1.2 h0 hb (fun x hx => hlt x (List.mem_append_left _ hx))) (below_trodAll hl ts (by simpa using hr.2) h1 hb (fun x hx => hlt x (List.mem_append_right _ hx)))

theorem law_post {f : Func} {s : ChangeSpec} {W W' : World} {args : Array Value} {ds gs : List (DataW H)} {before : List MemPlace} {tb : TypeId} (hl : laidOutB P = true)
    (hr : (f.params.toList.all fun t => P.readableRec t && decide (t < P.types.size)) = true) (hres : f.resultTypes = #[tb]) (htb : P.underlying tb = some .bool) (hsv : s.vars = [])
    (hspec : s.fn H (ds ++ gs) = { results := [.lit (.bool true)], args := ds })
    (hW : DataW.Whole enc P f.params.toList s.vars false W args.toList ds gs before) (hb : Below W.heap.size W W') : s.post enc P f false true false false W args (.bool true) W' := by
  have hW' := hW
  obtain ⟨p, q, hA, hV, rfl, _, _⟩ := hW
  rw [hsv] at hV
  obtain ⟨rfl, rfl⟩ := trodVars_none hV
  have hlt : ∀ x ∈ p, x.block < W.heap.size := fun x hx => by simpa using hW'.lt x (by simpa using hx)
  refine ⟨ds, _, _, [] ++ [], p, [], hW', ?_, ?_, ?_, hb.frame _, fun h => by cases h⟩
  · rw [hspec, hres]
    exact trodAll_mk1 (shut_bool htb _)
  · rw [hspec]
    exact below_trodAll hl _ hr hA hb hlt
  · rw [hspec, hsv]
    rfl
end

section
variable {H : Type} {enc : TypeId × Value → H} {W : World}
set_option maxRecDepth 100000 in
/-- A party that came in. -/
theorem open_party {v : Value} {d : DataW H} {p : List MemPlace} {r : Reach} {b0 : Nat} (hv : Value.okWide Tryd.prog W r b0 45 v) (h : DataW.Trod enc Tryd.prog W 0 (fun _ => true) true 45 v d p) :
    ∃ (x : Int) (l : PL) (A : Option Addr) (c : Nat), v = .agg #[.int .i64 x, .slice A l.length c] ∧ l.length ≤ maxLen ∧ CRead W W.heap.size A (pcells l) := by
  obtain ⟨v0, v1, y0, y1, n, rfl, _, _, h0, h1⟩ := Joins.open_agg2 Tryd.underlying45 (by kernel_rfl) Tryd.cellsParty hv h
  obtain ⟨x, hx, _, _⟩ := DataW.trod_int Tryd.underlying3 h0
  simp only [List.cons.injEq, and_true] at hx
  subst hx
  rcases open_slice_pairs Tryd.underlying43 Tryd.underlying112 Tryd.cellsPair rfl rfl (by kernel_rfl) (by kernel_rfl) h1 with ⟨hcs, _⟩ | ⟨a, len, cap, m, n', V0, V1, D0, D1, P0, P1, hcs, _, hlc, hcm, hm, _, hall⟩
  · simp only [List.cons.injEq, and_true] at hcs
    subst hcs
    exact ⟨x, [], none, 0, rfl, Nat.zero_le _, CRead.nil⟩
  · simp only [List.cons.injEq, and_true] at hcs
    subst hcs
    have hm' : m = cap := by simpa using hm
    subst hm'
    have each : ∀ i, i < len → ∃ a0 a1 : Int, W.cell? (a.add (i * 2)) = some (.int .i64 a0) ∧ W.cell? (a.add (i * 2 + 1)) = some (.int .i64 a1) := by
      intro i hi
      obtain ⟨c0, c1, t0, t1⟩ := hall i (by omega)
      obtain ⟨a0, e0, _, _⟩ := DataW.trod_int Tryd.underlying3 t0
      obtain ⟨a1, e1, _, _⟩ := DataW.trod_int Tryd.underlying3 t1
      simp only [List.cons.injEq, and_true] at e0 e1
      exact ⟨a0, a1, by rw [c0, e0], by rw [c1, e1]⟩
    let num : Option Value → Int := fun | some (.int _ z) => z | _ => 0
    let l : PL := (List.range len).map fun i => (num (W.cell? (a.add (i * 2))), num (W.cell? (a.add (i * 2 + 1))))
    have hll : l.length = len := by simp [l]
    refine ⟨x, l, some a, m, by rw [hll], by rw [hll]; omega, ?_⟩
    intro j u hu
    have hjl : j < (pcells l).length := (List.getElem?_eq_some_iff.1 hu).1
    rw [pcells_length, hll] at hjl
    have hi : j / 2 < len := by omega
    obtain ⟨a0, a1, c0, c1⟩ := each (j / 2) hi
    have hl : l[j / 2]? = some (a0, a1) := by simp [l, hi, c0, c1, num]
    obtain ⟨z0, _, cz, _⟩ := each 0 (by omega)
    have hspot : a.spot = none := by simpa [Addr.add] using World.cell?_spot cz
    obtain ⟨b, off, sp⟩ := a
    simp only at hspot
    subst hspot
    have hb : b < W.heap.size := by
      have := World.block_lt_of_cell? W _ cz
      simpa [Addr.add] using this
    refine ⟨b, off, rfl, hb, ?_⟩
    rw [add_plain] at c0 c1
    rcases Nat.mod_two_eq_zero_or_one j with h2 | h2
    · have e : j = j / 2 * 2 := by omega
      have e2 := pcells_fst hl
      rw [← e] at e2 c0
      rw [hu] at e2
      rw [c0, e2]
    · have e : j = j / 2 * 2 + 1 := by omega
      have e2 := pcells_snd hl
      rw [← e] at e2 c1
      rw [hu] at e2
      rw [c1, e2]
end
end Go.Proofs.YtepoabbkalhifaaDoor
/-
  A PAINTING THAT CAME IN, opened.
-/
namespace Go.Proofs.YtepoabbkalhifaaDoor
open Go.ChangeShapes Go.WideShapes Go.ChangeAt Go.RowKit Go.Deep

theorem Tryd.cellsPainting : Tryd.prog.cellsOf 24 = 3 := by kernel_rfl
section
variable {H : Type} {enc : TypeId × Value → H} {W : World}
set_option maxRecDepth 100000 in
/-- A painting that came in. -/
theorem open_painting {v : Value} {d : DataW H} {p : List MemPlace} {r : Reach} {b0 : Nat} (hv : Value.okWide Tryd.prog W r b0 24 v) (h : DataW.Trod enc Tryd.prog W 0 (fun _ => true) true 24 v d p) :
    ∃ (x k : Int) (l : List Int) (A : Option Addr) (c : Nat), v = .agg #[.int .i64 x, .int .i64 k, .slice A l.length c] ∧ l.length ≤ maxLen ∧ CRead W W.heap.size A (icells l) := by
  obtain ⟨v0, v1, v2, y0, y1, y2, n, rfl, _, _, h0, h1, h2⟩ := Joins.open_agg3 Tryd.underlying24 (by kernel_rfl) Tryd.cellsPainting hv h
  obtain ⟨x, hx, _, _⟩ := DataW.trod_int Tryd.underlying3 h0
  obtain ⟨y, hy, _, _⟩ := DataW.trod_int Tryd.underlying3 h1
  simp only [List.cons.injEq, and_true] at hx hy
  subst hx hy
  rcases open_slice1 Tryd.underlying22 Tryd.cellsInt h2 with ⟨hcs, _⟩ | ⟨a, len0, cap0, m, n, V, D, Pl, hcs, _, hlc, hcm, hm, _, hall⟩
  · simp only [List.cons.injEq, and_true] at hcs
    subst hcs
    exact ⟨x, y, [], none, 0, rfl, Nat.zero_le _, CRead.nil⟩
  · simp only [List.cons.injEq, and_true] at hcs
    subst hcs
    have hm' : m = cap0 := by simpa using hm
    subst hm'
    have each : ∀ i, i < len0 → ∃ z : Int, W.cell? (a.add i) = some (.int .i64 z) := by
      intro i hi
      obtain ⟨c0, t0⟩ := hall i (by omega)
      obtain ⟨z, e0, _, _⟩ := DataW.trod_int Tryd.underlying3 t0
      simp only [List.cons.injEq, and_true] at e0
      exact ⟨z, by rw [c0, e0]⟩
    let num : Option Value → Int := fun | some (.int _ z) => z | _ => 0
    let l : List Int := (List.range len0).map fun i => num (W.cell? (a.add i))
    have hll : l.length = len0 := by simp [l]
    refine ⟨x, y, l, some a, m, by rw [hll], by rw [hll]; omega, ?_⟩
    intro j u hu
    have hjl : j < (icells l).length := (List.getElem?_eq_some_iff.1 hu).1
    rw [icells_length, hll] at hjl
    obtain ⟨z, cx⟩ := each j hjl
    have hl : l[j]? = some z := by simp [l, hjl, cx, num]
    obtain ⟨z0, cz⟩ := each 0 (by omega)
    have hspot : a.spot = none := by simpa [Addr.add] using World.cell?_spot cz
    obtain ⟨b, off, sp⟩ := a
    simp only at hspot
    subst hspot
    have hb : b < W.heap.size := by
      have := World.block_lt_of_cell? W _ cz
      simpa [Addr.add] using this
    refine ⟨b, off, rfl, hb, ?_⟩
    rw [add_plain] at cx
    have e2 := icells_at hl
    rw [hu] at e2
    rw [cx, e2]
end
end Go.Proofs.YtepoabbkalhifaaDoor
/-
  THE PROGRAM's HEAD, LOOKED AT ONCE: which make it is, and that a call may enter it. (The head's text is long: the kernel must not read it twice.)
-/
namespace Go.Proofs.YtepoabbkalhifaaDoor

theorem make_of {P : Program} {rest : List (List Char)} (h : behindMainWord (wordsSigns P.initOrder.toList) = "cut".toList :: rest) : P.make = some .cut := by
  unfold Program.make
  rw [h]
  rfl
theorem strip_cut (rest : List (List Char)) : stripLifts liftWords ("cut".toList :: rest) = ([], "cut".toList :: rest) := rfl
theorem lifts_of {P : Program} {rest : List (List Char)} (h : behindMainWord (wordsSigns P.initOrder.toList) = "cut".toList :: rest) : P.headLifts = [] := by
  unfold Program.headLifts
  rw [h, strip_cut]
  rfl
theorem final_of {P : Program} {rest : List (List Char)} (h : behindMainWord (wordsSigns P.initOrder.toList) = "cut".toList :: rest) : P.liftsFinal = false := by
  unfold Program.liftsFinal
  rw [lifts_of h, h]
  rfl
theorem enter_of {P : Program} {rest : List (List Char)} (h : behindMainWord (wordsSigns P.initOrder.toList) = "cut".toList :: rest) (h1 : P.laysLater = false) (h2 : P.bearsReflect = false) (h3 : P.doorFits [] = true) : P.mayEnter = true := by
  unfold Program.mayEnter
  rw [h]
  show (_ || _ || _) = true
  rw [strip_cut, h1, h2, h3]
  rfl
end Go.Proofs.YtepoabbkalhifaaDoor
/-
  THE PROGRAM's CLOSED FACTS, EACH ONCE; and how a row's facts are put together out of them.
-/
namespace Go.Proofs.YtepoabbkalhifaaDoor
open Go.ChangeShapes Go.WideShapes Go.ChangeAt Go.RowKit

def headSigns : List Char := ([104, 97, 114, 110, 101, 115, 115, 32, 102, 53, 57, 98, 53, 52, 50, 57, 100, 48, 51, 54, 101, 53, 50, 52, 53, 49, 97, 57, 56, 54, 52, 54, 99, 50, 101, 52, 98, 53, 100, 48, 53, 99, 50, 99, 99, 98, 51, 54, 48, 56, 101, 50, 100, 102, 52, 101, 98, 56, 101, 53, 99, 49, 48, 102, 101, 99, 53, 97, 99, 49, 52, 100, 32, 99, 117, 116, 32, 97, 116, 32, 108, 111, 111, 112, 46, 101, 120, 97, 109, 112, 108, 101, 47, 103, 48, 49, 50, 53, 55, 47, 108, 97, 119, 115, 46, 70, 110, 69, 120, 97, 99, 116, 79, 110, 101, 67, 111, 108, 111, 117, 114, 71, 114, 111, 117, 112, 32, 108, 111, 111, 112, 46, 101, 120, 97, 109, 112, 108, 101, 47, 103, 48, 49, 50, 53, 55, 47, 108, 97, 119, 115, 46, 70, 110, 69, 120, 97, 99, 116, 77, 111, 115, 116, 79, 110, 101, 67, 111, 108, 111, 117, 114, 32, 108, 111, 111, 112, 46, 101, 120, 97, 109, 112, 108, 101, 47, 103, 48, 49, 50, 53, 55, 47, 108, 97, 119, 115, 46, 70, 110, 69, 120, 97, 99, 116, 80, 97, 105, 110, 116, 105, 110, 103, 84, 101, 120, 116, 32, 108, 111, 111, 112, 46, 101, 120, 97, 109, 112, 108, 101, 47, 103, 48, 49, 50, 53, 55, 47, 108, 97, 119, 115, 46, 70, 110, 69, 120, 97, 99, 116, 80, 97, 114, 115, 101, 80, 97, 105, 110, 116, 105, 110, 103, 32, 108, 111, 111, 112, 46, 101, 120, 97, 109, 112, 108, 101, 47, 103, 48, 49, 50, 53, 55, 47, 108, 97, 119, 115, 46, 70, 110, 69, 120, 97, 99, 116, 71, 114, 101, 97, 116, 101, 115, 116, 71, 114, 111, 117, 112, 32, 108, 111, 111, 112, 46, 101, 120, 97, 109, 112, 108, 101, 47, 103, 48, 49, 50, 53, 55, 47, 108, 97, 119, 115, 46, 70, 110, 69, 120, 97, 99, 116, 71, 114, 101, 97, 116, 101, 115, 116, 83, 116, 114, 97, 110, 103, 101] : List Nat).map Char.ofNat
set_option maxRecDepth 100000 in
theorem Tryd.initOrder_is : Tryd.prog.initOrder = String.ofList headSigns := by kernel_rfl
theorem Tryd.initOrder_signs : Tryd.prog.initOrder.toList = headSigns := by rw [Tryd.initOrder_is]; exact String.toList_ofList
set_option maxRecDepth 100000 in
theorem head_words : (behindMainWord (wordsSigns headSigns)).take 1 = ["cut".toList] := by kernel_rfl
theorem Tryd.words : ∃ rest, behindMainWord (wordsSigns Tryd.prog.initOrder.toList) = "cut".toList :: rest := by
  rw [Tryd.initOrder_signs]
  have h := List.take_append_drop 1 (behindMainWord (wordsSigns headSigns))
  rw [head_words] at h
  exact ⟨_, h.symm⟩
theorem Tryd.make : Tryd.prog.make = some .cut := by obtain ⟨_, h⟩ := Tryd.words; exact make_of h
theorem Tryd.liftsFinal : Tryd.prog.liftsFinal = false := by obtain ⟨_, h⟩ := Tryd.words; exact final_of h
theorem Tryd.laysLater : Tryd.prog.laysLater = false := by kernel_rfl
theorem Tryd.bearsReflect : Tryd.prog.bearsReflect = false := by kernel_rfl
theorem Tryd.doorFits : Tryd.prog.doorFits [] = true := by kernel_rfl
theorem Tryd.mayEnter : Tryd.prog.mayEnter = true := by obtain ⟨_, h⟩ := Tryd.words; exact enter_of h Tryd.laysLater Tryd.bearsReflect Tryd.doorFits
theorem Tryd.mapsRowed : mapsRowed Tryd.prog = true := by kernel_rfl
theorem Tryd.stops : (Tryd.prog.stops == []) = true := by kernel_rfl
theorem Tryd.stopKnobs : (Tryd.prog.stopKnobs == []) = true := by kernel_rfl
theorem Tryd.plainKeys : Tryd.prog.plainKeys = true := by kernel_rfl
theorem Tryd.stopsHeard : Tryd.prog.stopsHeard = true := by kernel_rfl

/-- What the types of one law give: closed facts on its parameters and its result. -/
def typeFacts (P : Program) (fn : Func) (s : ChangeSpec) (c : OpenClaim) : Bool :=
  fn.params.all (P.readableRec ·) && namedTie P c.named s.vars && (c.stops == []) && (c.knobs == []) &&
  (c.maps == (fn.params.toList ++ s.plain.varTypes P).any (P.mapsRec ·)) && (c.ifaces == (fn.params.toList ++ s.plain.varTypes P).any (P.ifacesRec ·)) && (c.mapsOut == P.mapsAmong fn.resultTypes.toList) &&
  (c.loops == (fn.params.toList ++ s.plain.varTypes P).any (P.loopsFrom ·)) && (c.wideKeys == (fn.params.toList ++ s.plain.varTypes P ++ fn.resultTypes.toList).any (P.wideKeysFrom ·)) &&
  s.vars.all (P.varReadable ·) && fn.resultTypes.all (fun t => P.readableRec t && decide (t < P.types.size)) && (c.ifacesOut == fn.resultTypes.toList.any (P.ifacesRec ·)) && (c.loopsOut == fn.resultTypes.toList.any (P.loopsFrom ·)) && c.shortTexts.isNone &&
  (c.kinds == (if c.domain.isEmpty then [] else fn.params.toList.map fun t => match P.underlying t with | some (.int k) => some k | _ => none)) && (c.pinned == c.pinnedBy) &&
  (c.veiled == (fn.params.toList ++ s.plain.varTypes P ++ fn.resultTypes.toList).any (P.veiledRec ·)) && c.veiledFits P fn.params.toList (fn.params.toList ++ s.plain.varTypes P ++ fn.resultTypes.toList)
theorem joined_all {P : Program} {f : FuncId} {fn : Func} {s : ChangeSpec} {c : OpenClaim} (k1 : c.wf (OpenSpec.ofChange s) = true) (kt : typeFacts P fn s c = true)
    (k10 : (c.inPlace == P.inPlace f) = true) (k11 : (c.unfollowed == P.unfollowed f) = true) (k12 : (c.recurses == P.recurses f) = true) (k13 : (c.named == P.varsNamed f) = true)
    (e2 : laidOutB P = true) (e3 : mapsRowed P = true) (e7 : (P.stops == []) = true) (e9 : (P.stopKnobs == []) = true) (e22 : (c.plainKeys == P.plainKeys) = true) (e23 : P.stopsHeard = true) (e24 : P.mayEnter = true)
    (e24b : (c.lifted == P.liftsFinal) = true) (e24c : (P.make == some c.make) = true) : joinedFacts P f fn s c = true := by
  unfold typeFacts at kt
  unfold joinedFacts
  simp only [Bool.and_eq_true] at kt ⊢
  obtain ⟨⟨⟨⟨⟨⟨⟨⟨⟨⟨⟨⟨⟨⟨⟨⟨⟨t1, t2⟩, t3⟩, t4⟩, t5⟩, t6⟩, t7⟩, t8⟩, t9⟩, t10⟩, t11⟩, t12⟩, t13⟩, t14⟩, t15⟩, t16⟩, t17⟩, t18⟩ := kt
  exact ⟨⟨⟨⟨⟨⟨⟨⟨⟨⟨⟨⟨⟨⟨⟨⟨⟨⟨⟨⟨⟨⟨⟨⟨⟨⟨⟨⟨⟨⟨⟨k1, e2⟩, e3⟩, t1⟩, t2⟩, t3⟩, e7⟩, t4⟩, e9⟩, k10⟩, k11⟩, k12⟩, k13⟩, t5⟩, t6⟩, t7⟩, t8⟩, t9⟩, t10⟩, t11⟩, t12⟩, t13⟩, e22⟩, t14⟩, e23⟩, e24⟩, e24b⟩, e24c⟩, t15⟩, t16⟩, t17⟩, t18⟩
theorem joined_of {f : FuncId} {fn : Func} {s : ChangeSpec} {c : OpenClaim} (k1 : c.wf (OpenSpec.ofChange s) = true) (kt : typeFacts Tryd.prog fn s c = true)
    (k10 : (c.inPlace == Tryd.prog.inPlace f) = true) (k11 : (c.unfollowed == Tryd.prog.unfollowed f) = true) (k12 : (c.recurses == Tryd.prog.recurses f) = true) (k13 : (c.named == Tryd.prog.varsNamed f) = true)
    (k22 : c.plainKeys = true) (k24b : c.lifted = false) (k24c : c.make = .cut) : joinedFacts Tryd.prog f fn s c = true :=
  joined_all k1 kt k10 k11 k12 k13 Tryd.laidOut Tryd.mapsRowed Tryd.stops Tryd.stopKnobs (by rw [k22, Tryd.plainKeys]; rfl) Tryd.stopsHeard Tryd.mayEnter (by rw [k24b, Tryd.liftsFinal]; rfl) (by rw [k24c, Tryd.make]; rfl)
end Go.Proofs.YtepoabbkalhifaaDoor
/-
  LISTS OF PEOPLE WHO ARE TIED, TWO AND TWO, as plain lists; sets of people as numbers of sixteen bits. Nothing here speaks of the program.
-/
namespace Go.Proofs.YtepoabbkalhifaaDoor
open Go.RowKit

/-- the lists of so many more of the candidates behind those told, in order; every candidate is tied to all told -/
def listsC (t : Nat → Nat → Bool) : Nat → List Int → List Nat → List (List Int)
  | 0, told, _ => [told]
  | _ + 1, _, [] => []
  | k + 1, told, a :: cs => listsC t k (told ++ [(a : Int)]) (cs.filter (t a)) ++ listsC t (k + 1) told cs
termination_by k _ cs => (k, cs.length)
theorem listsC_zero (t : Nat → Nat → Bool) (told : List Int) (cs : List Nat) : listsC t 0 told cs = [told] := by cases cs <;> simp [listsC]
theorem listsC_nil (t : Nat → Nat → Bool) (k : Nat) (told : List Int) : listsC t (k + 1) told [] = [] := by simp [listsC]
theorem listsC_cons (t : Nat → Nat → Bool) (k : Nat) (told : List Int) (a : Nat) (cs : List Nat) :
    listsC t (k + 1) told (a :: cs) = listsC t k (told ++ [(a : Int)]) (cs.filter (t a)) ++ listsC t (k + 1) told cs := by rw [listsC]

/-- a number's bits are those of a rising list -/
structure IsSet (J : Nat) (cs : List Nat) : Prop where
  up : cs.Pairwise (· < ·)
  lt : ∀ b ∈ cs, b < 16
  mem : ∀ b, J.testBit b = true ↔ b ∈ cs
theorem IsSet.small {J : Nat} {cs : List Nat} (h : IsSet J cs) : J < 65536 := by
  refine Nat.lt_pow_two_of_testBit (n := 16) J fun i hi => ?_
  cases e : J.testBit i with
  | false => rfl
  | true => have := h.lt i ((h.mem i).1 e); omega
theorem IsSet.zero {J : Nat} (h : IsSet J []) : J = 0 := by
  refine Nat.eq_of_testBit_eq fun i => ?_
  rw [Nat.zero_testBit]
  cases e : J.testBit i with
  | false => rfl
  | true => have := (h.mem i).1 e; simp at this
theorem IsSet.pos {J a : Nat} {cs : List Nat} (h : IsSet J (a :: cs)) : J ≠ 0 := by
  intro e
  have := (h.mem a).2 List.mem_cons_self
  rw [e, Nat.zero_testBit] at this
  cases this
theorem IsSet.least {J a : Nat} {cs : List Nat} (h : IsSet J (a :: cs)) : Lib.ctz 16 J = a := by
  have hp := h.pos
  have hs := h.small
  obtain ⟨m, hm, hk⟩ := Lib.ctzFrom_spec 16 J (by omega) hs
  have e : Lib.ctz 16 J = Lib.ctzFrom 16 J := by simp [Lib.ctz, hp]
  rw [e]
  generalize Lib.ctzFrom 16 J = c at *
  have hb : ∀ b, J.testBit b = (decide (c ≤ b) && (2 * m + 1).testBit (b - c)) := fun b => by rw [hm, Nat.testBit_two_pow_mul]
  have h1 : J.testBit c = true := by rw [hb]; simp
  have h2 := (h.mem c).1 h1
  have h3 := (h.mem a).2 List.mem_cons_self
  rw [hb] at h3
  have h4 : c ≤ a := by simp only [Bool.and_eq_true, decide_eq_true_eq] at h3; exact h3.1
  rcases List.mem_cons.1 h2 with h5 | h5
  · exact h5
  · have := (List.pairwise_cons.1 h.up).1 c h5
    omega
theorem bit_off : ∀ a : Fin 16, ∀ b : Fin 16, (65535 - 2 ^ a.val).testBit b.val = decide (b.val ≠ a.val) := by decide
theorem IsSet.tail {J a : Nat} {cs : List Nat} (h : IsSet J (a :: cs)) : IsSet (J &&& (65535 - 2 ^ a)) cs := by
  have ha := h.lt a List.mem_cons_self
  have hp := List.pairwise_cons.1 h.up
  refine ⟨hp.2, fun b hb => h.lt b (List.mem_cons_of_mem _ hb), fun b => ?_⟩
  rw [Nat.testBit_and, Bool.and_eq_true, h.mem, List.mem_cons]
  constructor
  · rintro ⟨h1, h2⟩
    rcases h1 with rfl | h1
    · have := bit_off ⟨b, ha⟩ ⟨b, ha⟩
      simp only [ne_eq, not_true_eq_false, decide_false] at this
      rw [this] at h2
      cases h2
    · exact h1
  · intro hb
    have hb16 := h.lt b (List.mem_cons_of_mem _ hb)
    have := hp.1 b hb
    refine ⟨.inr hb, ?_⟩
    rw [bit_off ⟨a, ha⟩ ⟨b, hb16⟩]
    simp only [ne_eq, decide_eq_true_eq]
    omega
theorem IsSet.inter {J T : Nat} {cs : List Nat} {f : Nat → Bool} (h : IsSet J cs) (hT : ∀ b, b < 16 → T.testBit b = f b) : IsSet (J &&& T) (cs.filter f) := by
  refine ⟨h.up.filter _, fun b hb => h.lt b (List.mem_filter.1 hb).1, fun b => ?_⟩
  rw [Nat.testBit_and, Bool.and_eq_true, h.mem, List.mem_filter]
  constructor
  · rintro ⟨h1, h2⟩
    rw [hT b (h.lt b h1)] at h2
    exact ⟨h1, h2⟩
  · rintro ⟨h1, h2⟩
    exact ⟨h1, by rw [hT b (h.lt b h1)]; exact h2⟩
theorem IsSet.people {n : Nat} (hn : n ≤ 16) : IsSet (2 ^ n - 1) (List.range n) := by
  refine ⟨List.pairwise_lt_range, fun b hb => by have := List.mem_range.1 hb; omega, fun b => ?_⟩
  rw [Nat.testBit_two_pow_sub_one, decide_eq_true_eq, List.mem_range]
end Go.Proofs.YtepoabbkalhifaaDoor
/-
  math/bits.TrailingZeros16 by its contract, where the library's table lies as its initialiser lays it.
-/
namespace Go.Proofs.YtepoabbkalhifaaDoor
open Go.RowKit

def sliceLen : Value → Nat | .slice _ n _ => n | _ => 0
/-- The table in its variable (block 0). -/
def TabW (w : World) : Prop := ∀ j, j < 32 → w.cell? ⟨0, j, none⟩ = some (.int .u8 (Lib.deBruijn32tab.getD j 0))
theorem TabW.below {B : Nat} {w w' : World} (h : TabW w) (hb : Below B w w') (hB : 0 < B) : TabW w' := fun j hj => (hb.cell (p := ⟨0, j, none⟩) hB).trans (h j hj)
theorem TabW.pos {w : World} (h : TabW w) : 0 < w.heap.size := World.block_lt_of_cell? w _ (h 0 (by omega))

theorem tz16_key (x a : Nat) (hx : x < 65536) (hx0 : x ≠ 0) (hlow : x &&& (65536 - x) = 2 ^ a) (ha : a < 16) :
    bits BinOp.and IntKind.u16 (x : Int) (IntKind.u16.wrap (-(x : Int))) % 4294967296 * 125613361 % 4294967296 / 134217728 = ((2 ^ a * 125613361 % 4294967296 / 134217728 : Nat) : Int) := by
  have e1 : IntKind.u16.wrap (-(x : Int)) = ((65536 - x : Nat) : Int) := by rw [IntKind.wrap_u16]; omega
  have h2 : 2 ^ a < 2 ^ 16 := Nat.pow_lt_pow_right (by omega) ha
  rw [show (2 : Nat) ^ 16 = 65536 from rfl] at h2
  rw [e1, u16_and_nat x _ hx (by omega), hlow]
  omega

set_option maxHeartbeats 1000000 in
theorem tz16_core (x k idx : Nat) (w : World) (hx0 : ((x : Int) == 0) = false)
    (key : bits BinOp.and IntKind.u16 (x : Int) (IntKind.u16.wrap (-(x : Int))) % 4294967296 * 125613361 % 4294967296 / 134217728 = (idx : Int))
    (hi : idx < 32) (hk : k < 32) (hcell : w.cell? ⟨0, idx, none⟩ = some (.int .u8 k)) :
    Calls Tryd.prog 97 #[.int .u16 x] w fun e w' => e = .returned (.int .i64 k) ∧ w = w' := by
  go_enter Tryd.func97, Tryd.ntmps97
  go_wp2_with (simp only [key])
  go_ret
  exact ⟨rfl, rfl⟩
/-- the least person of a set -/
theorem tz16_any {J a : Nat} {cs : List Nat} (h : IsSet J (a :: cs)) (w : World) (hT : TabW w) :
    Calls Tryd.prog 97 #[.int .u16 J] w fun e w' => e = .returned (.int .i64 a) ∧ w = w' := by
  have hp := h.pos
  have hs := h.small
  have ha := h.lt a List.mem_cons_self
  obtain ⟨hlow, _⟩ := Lib.lowest_bit 16 J hp hs
  rw [h.least] at hlow
  obtain ⟨hi, htab⟩ := Lib.deBruijn32_at a (by omega)
  have hcell := hT _ hi
  rw [htab] at hcell
  exact tz16_core J a _ w (by simp; omega) (tz16_key J a hs hp hlow ha) hi (by omega) hcell
end Go.Proofs.YtepoabbkalhifaaDoor
/-
  THE DOOR SEAT's CONDITION: the library's table lies in its variable: what a walk reads of it, and a world that meets it.
-/
namespace Go.Proofs.YtepoabbkalhifaaDoor
open Go.RowKit

def tabInts : List Int := Lib.deBruijn32tab.map fun n : Nat => (n : Int)
theorem Tryd.tabGlobal : Tryd.prog.globalNamed "math/bits.deBruijn32tab" = some 0 := by kernel_rfl
theorem Tryd.tabType : (Tryd.prog.globals[0]?).map (·.type) = some 127 := by kernel_rfl
theorem Tryd.tabCells : Tryd.prog.cellsOf 127 = 32 := by kernel_rfl
theorem Tryd.byteCells : Tryd.prog.cellsOf 5 = 1 := by kernel_rfl
theorem tabInts_at : ∀ i : Fin 32, tabInts.getD i.val 0 = ((Lib.deBruijn32tab.getD i.val 0 : Nat) : Int) := by decide
theorem tab_of_laid {W : World} (h : laidMetH Tryd.prog [("math/bits.deBruijn32tab", Rows.laid_math_bits_deBruijn32tab)] W) : TabW W := by
  have h' : laidMet Tryd.prog (("math/bits.deBruijn32tab", Lib.tabData .u8 tabInts) :: []) W := h
  have ht := Lib.tabIs_of_head Tryd.tabGlobal Tryd.tabType Tryd.underlying127 Tryd.underlying5 Tryd.byteCells Tryd.tabCells h'
  intro j hj
  rw [ht.cell Tryd.tabGlobal j (by simpa [tabInts, Lib.deBruijn32tab] using hj), tabInts_at ⟨j, hj⟩]

/-- A world that meets the condition. -/
noncomputable def laidWorld (os : Os) : World :=
  let w0 := World.holding Tryd.prog os ⟨#[], #[], []⟩
  { w0 with heap := w0.heap.modify 0 fun
      | .cells _ t frozen => .cells (tabInts.map fun z => Value.int .u8 z).toArray t frozen
      | o => o }
theorem laidWorld_met (os : Os) (args : Array Value) : laidMetH Tryd.prog [("math/bits.deBruijn32tab", Rows.laid_math_bits_deBruijn32tab)] ((laidWorld os).forCall (fun _ _ => 0) ⟨#[], args, []⟩).memory :=
  laidMetH_of_parts (laidMet_of_run' 8 (by kernel_rfl) (by kernel_rfl)) (by kernel_rfl)
end Go.Proofs.YtepoabbkalhifaaDoor
/-
  A world that meets the condition of a law of the door seat that makes text of numbers: three tables of the library lie in their variables.
-/
namespace Go.Proofs.YtepoabbkalhifaaDoor
open Go.RowKit

def tab64Ints : List Int := Lib.deBruijn64tab.map fun n : Nat => (n : Int)
def powInts : List Int := (List.range 20).map fun n : Nat => (10 : Int) ^ n
/-- A world that meets the condition. -/
noncomputable def laidWorldT (os : Os) : World :=
  let w0 := laidWorld os
  { w0 with heap := (w0.heap.modify ((Tryd.prog.globalNamed "math/bits.deBruijn64tab").getD 0) fun
      | .cells _ t frozen => .cells (tab64Ints.map fun z => Value.int .u8 z).toArray t frozen
      | o => o).modify ((Tryd.prog.globalNamed "internal/strconv.uint64pow10").getD 0) fun
      | .cells _ t frozen => .cells (powInts.map fun z => Value.int .u64 z).toArray t frozen
      | o => o }
theorem laidWorldT_met (os : Os) (args : Array Value) : laidMetH Tryd.prog Rows.fnExactPaintingTextRow.laid ((laidWorldT os).forCall (fun _ _ => 0) ⟨#[], args, []⟩).memory :=
  laidMetH_of_parts (laidMet_of_run' 8 (by kernel_rfl) (by kernel_rfl)) (by kernel_rfl)
end Go.Proofs.YtepoabbkalhifaaDoor
