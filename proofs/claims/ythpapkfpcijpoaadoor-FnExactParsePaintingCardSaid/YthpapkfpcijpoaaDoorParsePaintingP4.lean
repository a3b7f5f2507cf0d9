/-
  Texts put together for the claim of 'ParsePainting' (pack 4): Said, OpenX, LawParsePainting, Head, Facts, Tz, Door, DoorT.
-/
import Derived.Test.YthpapkfpcijpoaaDoorParsePaintingP1
import Derived.Test.YthpapkfpcijpoaaDoorParsePaintingP3
import Derived.Test.YthpapkfpcijpoaaDoorRows
import Derived.ProofKit
import Derived.OpenShut
import Derived.Deep.SlicePairs
import Derived.Lib.SmallJoins
import Derived.Deep.Slices
import Derived.Deep.RegionHeld3
import Derived.Test.YthpapkfpcijpoaaDoorTie
import Derived.Test.YthpapkfpcijpoaaDoorCards
import Derived.Lib.LaidTab
import Derived.LaidHandle
import Derived.SevenTiedAt
import Derived.Lib.TrailingZeros
/-
  FROM A LAW's WALK TO ITS STATEMENT: arguments opened (numbers, lists of numbers, parties), and what every law's post asks.
-/
namespace Go.Proofs.YthpapkfpcijpoaaDoor
open Go.ChangeShapes Go.WideShapes Go.ChangeAt Go.RowKit Go.Deep

theorem Tryd.own : ownKnob Tryd.prog.godebug = none := by kernel_rfl
theorem Tryd.laidOut : laidOutB Tryd.prog = true := by kernel_rfl
theorem Tryd.cellsPair : Tryd.prog.cellsOf 95 = 2 := by kernel_rfl
theorem Tryd.cellsParty : Tryd.prog.cellsOf 24 = 2 := by kernel_rfl
theorem Tryd.cellsInt : Tryd.prog.cellsOf 3 = 1 := by kernel_rfl

section
variable {H : Type} {enc : TypeId × Value → H} {P : Program}
theorem below_trodAll (hl : laidOutB P = true) : ∀ (ts : List TypeId), (ts.all fun t => P.readableRec t && decide (t < P.types.size)) = true → ∀ {vs : List Value} {ds : List (DataW H)} {ps : List MemPlace} {W W' : World},
    DataW.TrodAll enc P W 0 (fun _ => true) true ts vs ds ps → Below W.heap.size W W' → (∀ x ∈ ps, x.block < W.heap.size) → DataW.TrodAll enc P W' 0 (fun b => decide (b < W.heap.size)) true ts vs ds ps
  | [], _, vs, ds, ps, W, W', h, _, _ => by
    obtain ⟨rfl, rfl, rfl⟩ := trodAll_nil h
    exact trodAll_mk0
  | t :: ts, hr, vs, ds, ps, W, W', h, hb, hlt => by
    obtain ⟨v, vs', d, ds', p, q, rfl, rfl, rfl, h0, h1⟩ := trodAll_cons h
    simp only [List.all_cons, Bool.and_eq_true, decide_eq_true_eq] at hr
    refine trodAll_cons_mk (Below.trod hl hr.1.1 hr.1.2 h0 hb (fun x hx => hlt x (List.mem_append_left _ hx))) (below_trodAll hl ts (by simpa using hr.2) h1 hb (fun x hx => hlt x (List.mem_append_right _ hx)))

theorem law_post {f : Func} {s : ChangeSpec} {W W' : World} {args : Array Value} {ds gs : List (DataW H)} {before : List MemPlace} {tb : TypeId} (hl : laidOutB P = true)
    (hr : (f.params.toList.all fun t => P.readableRec t && decide (t < P.types.size)) = true) (hres : f.resultTypes = #[tb]) (htb : P.underlying tb = some .bool) (hsv : s.vars = [])
    (hspec : s.fn H (ds ++ gs) = { results := [.lit (.bool true)], args := ds })
    (hW : DataW.Whole enc P f.params.toList s.vars false W args.toList ds gs before) (hb : Below W.heap.size W W') : s.post enc P f false true false false W args (.bool true) W' := by
  have hW' := hW
  obtain ⟨p, q, hA, hV, rfl, _, _⟩ := hW
  rw [hsv] at hV
  obtain ⟨rfl, rfl⟩ := trodVars_none hV
  have hlt : ∀ x ∈ p, x.block < W.heap.size := fun x hx => by simpa using hW'.lt x (by simpa using hx)
  refine ⟨ds, _, _, [] ++ [], p, [], hW', ?_, ?_, ?_, hb.frame _, fun h => by cases h⟩
  · rw [hspec, hres]
    exact trodAll_mk1 (shut_bool htb _)
  · rw [hspec]
    exact below_trodAll hl _ hr hA hb hlt
  · rw [hspec, hsv]
    rfl
end

section
variable {H : Type} {enc : TypeId × Value → H} {W : World}
set_option maxRecDepth 100000 in
/-- A party that came in. -/
theorem open_party {v : Value} {d : DataW H} {p : List MemPlace} {r : Reach} {b0 : Nat} (hv : Value.okWide Tryd.prog W r b0 24 v) (h : DataW.Trod enc Tryd.prog W 0 (fun _ => true) true 24 v d p) :
    ∃ (x : Int) (l : PL) (A : Option Addr) (c : Nat), v = .agg #[.int .i64 x, .slice A l.length c] ∧ l.length ≤ maxLen ∧ CRead W W.heap.size A (pcells l) := by
  obtain ⟨v0, v1, y0, y1, n, rfl, _, _, h0, h1⟩ := Joins.open_agg2 Tryd.underlying24 (by kernel_rfl) Tryd.cellsParty hv h
  obtain ⟨x, hx, _, _⟩ := DataW.trod_int Tryd.underlying3 h0
  simp only [List.cons.injEq, and_true] at hx
  subst hx
  rcases open_slice_pairs Tryd.underlying22 Tryd.underlying95 Tryd.cellsPair rfl rfl (by kernel_rfl) (by kernel_rfl) h1 with ⟨hcs, _⟩ | ⟨a, len, cap, m, n', V0, V1, D0, D1, P0, P1, hcs, _, hlc, hcm, hm, _, hall⟩
  · simp only [List.cons.injEq, and_true] at hcs
    subst hcs
    exact ⟨x, [], none, 0, rfl, Nat.zero_le _, CRead.nil⟩
  · simp only [List.cons.injEq, and_true] at hcs
    subst hcs
    have hm' : m = cap := by simpa using hm
    subst hm'
    have each : ∀ i, i < len → ∃ a0 a1 : Int, W.cell? (a.add (i * 2)) = some (.int .i64 a0) ∧ W.cell? (a.add (i * 2 + 1)) = some (.int .i64 a1) := by
      intro i hi
      obtain ⟨c0, c1, t0, t1⟩ := hall i (by omega)
      obtain ⟨a0, e0, _, _⟩ := DataW.trod_int Tryd.underlying3 t0
      obtain ⟨a1, e1, _, _⟩ := DataW.trod_int Tryd.underlying3 t1
      simp only [List.cons.injEq, and_true] at e0 e1
      exact ⟨a0, a1, by rw [c0, e0], by rw [c1, e1]⟩
    let num : Option Value → Int := fun | some (.int _ z) => z | _ => 0
    let l : PL := (List.range len).map fun i => (num (W.cell? (a.add (i * 2))), num (W.cell? (a.add (i * 2 + 1))))
    have hll : l.length = len := by simp [l]
    refine ⟨x, l, some a, m, by rw [hll], by rw [hll]; omega, ?_⟩
    intro j u hu
    have hjl : j < (pcells l).length := (List.getElem?_eq_some_iff.1 hu).1
    rw [pcells_length, hll] at hjl
    have hi : j / 2 < len := by omega
    obtain ⟨a0, a1, c0, c1⟩ := each (j / 2) hi
    have hl : l[j / 2]? = some (a0, a1) := by simp [l, hi, c0, c1, num]
    obtain ⟨z0, _, cz, _⟩ := each 0 (by omega)
    have hspot : a.spot = none := by simpa [Addr.add] using World.cell?_spot cz
    obtain ⟨b, off, sp⟩ := a
    simp only at hspot
    subst hspot
    have hb : b < W.heap.size := by
      have := World.block_lt_of_cell? W _ cz
      simpa [Addr.add] using this
    refine ⟨b, off, rfl, hb, ?_⟩
    rw [add_plain] at c0 c1
    rcases Nat.mod_two_eq_zero_or_one j with h2 | h2
    · have e : j = j / 2 * 2 := by omega
      have e2 := pcells_fst hl
      rw [← e] at e2 c0
      rw [hu] at e2
      rw [c0, e2]
    · have e : j = j / 2 * 2 + 1 := by omega
      have e2 := pcells_snd hl
      rw [← e] at e2 c1
      rw [hu] at e2
      rw [c1, e2]
end
end Go.Proofs.YthpapkfpcijpoaaDoor
/-
  A PAINTING THAT CAME IN, opened.
-/
namespace Go.Proofs.YthpapkfpcijpoaaDoor
open Go.ChangeShapes Go.WideShapes Go.ChangeAt Go.RowKit Go.Deep

section
variable {H : Type} {enc : TypeId × Value → H} {W : World}
end
end Go.Proofs.YthpapkfpcijpoaaDoor
/-
  'laws.FnExactParsePainting' returns true, whatever its arguments: out of the contracts of the model's function and of the program's.
-/
namespace Go.Proofs.YthpapkfpcijpoaaDoor
open Go.RowKit

set_option maxHeartbeats 4000000 in
set_option maxRecDepth 100000 in
theorem lawParsePainting_any (z0 : ByteArray) (W : World) (htab : LibW W) :
    Calls Tryd.prog 9 #[.string z0] W fun e w' => e = .returned (.bool true) ∧ Below W.heap.size W w' := by
  have hone : (0 : Int) ≤ 1 ∧ (1 : Int) ≤ 16777216 := by omega
  have HTab := Lib.hid htab
  clear htab
  by_cases hz0 : (1048576 : Int) < z0.size
  · go_enter Tryd.func9, Tryd.ntmps9
    go_wp2
    go_ret
    exact ⟨rfl, Below.refl _ _⟩
  have hs0 : z0.size ≤ 1048576 := by omega
  obtain ⟨⟨rq, rk, rm, rok⟩, hres⟩ : ∃ r, resParsePainting z0 = r := ⟨_, rfl⟩
  have hrn : rm.length ≤ 1048576 := by have h := resParsePainting_len z0; rw [hres] at h; exact h
  have hrl : rm.length ≤ maxLen := by unfold maxLen; omega
  have Hres := Lib.hid hres
  clear hres
  go_enter Tryd.func9, Tryd.ntmps9
  go_wp2_with fail
  refine (specParsePainting_any z0 _ ).mono ?_
  rw [Hres.out]
  rintro e w1 ⟨T1, d1, rfl, n1, hb1⟩
  have g1 : Below W.heap.size W w1 := hb1
  have s1 := hb1.size
  have k1 : Below W.heap.size W w1 := g1
  have r1 : Lies (.slice T1 rm.length d1) (W.heap.size) w1.heap.size := own_lies n1
  go_wp2_with fail
  refine (implParsePainting_any z0 _ hs0 (by first | exact HTab.out.below (k1.alloc k1.size _) | exact HTab.out.below k1)).mono ?_
  rw [Hres.out]
  rintro e w3 ⟨T3, d3, rfl, n3, hb3⟩
  simp only [World.size_alloc] at n3
  simp only [World.size_alloc] at hb3
  have g3 : Below w1.heap.size w1 w3 := Below.trans (b := _) (by go_grown) (hb3.mono (by omega))
  have s3 := hb3.size
  simp only [World.size_alloc] at s3
  have f3_0 : w3.cell? ⟨w1.heap.size, 0, none⟩ = some (.int .i64 rq) := carry hb3 (by simp) (by omega)
  have f3_1 : w3.cell? ⟨w1.heap.size, 1, none⟩ = some (.int .i64 rk) := carry hb3 (by simp) (by omega)
  have f3_2 : w3.cell? ⟨w1.heap.size, 2, none⟩ = some (.slice T1 rm.length d1) := carry hb3 (by simp) (by omega)
  have o3_0 := own_below n1 g3 (Nat.le_refl _)
  have k3 := k1.trans (g3.mono k1.size)
  clear n1
  have r3 : Lies (.slice T3 rm.length d3) (w1.heap.size + 1) w3.heap.size := own_lies n3
  have q4_0 : (w3.alloc (Obj.cells #[.int .i64 rq, .int .i64 rk, .slice T3 rm.length d3] 47)).cell? ⟨w1.heap.size, 0, none⟩ = some (.int .i64 rq) := (World.cell?_alloc_lt _ _ _ (show w1.heap.size < w3.heap.size by omega)).trans f3_0
  have q4_1 : (w3.alloc (Obj.cells #[.int .i64 rq, .int .i64 rk, .slice T3 rm.length d3] 47)).cell? ⟨w1.heap.size, 1, none⟩ = some (.int .i64 rk) := (World.cell?_alloc_lt _ _ _ (show w1.heap.size < w3.heap.size by omega)).trans f3_1
  have q4_2 : (w3.alloc (Obj.cells #[.int .i64 rq, .int .i64 rk, .slice T3 rm.length d3] 47)).cell? ⟨w1.heap.size, 2, none⟩ = some (.slice T1 rm.length d1) := (World.cell?_alloc_lt _ _ _ (show w1.heap.size < w3.heap.size by omega)).trans f3_2
  go_wp2_with fail
  refine (eqPainting_any rq rq rk rk rm rm _ _ _ _ _ hrl hrl ((((CRead.of_own n3).below (B' := w3.heap.size) (by go_grown) (Nat.le_refl _)).more (by go_size))) ((((CRead.of_own o3_0).below (B' := w3.heap.size) (by go_grown) (Nat.le_refl _)).more (by go_size)))).mono ?_
  rw [decide_eq_true ⟨rfl, rfl, rfl⟩]
  rintro e w5 ⟨rfl, hb5⟩
  simp only [World.size_alloc] at hb5
  have g5 : Below w3.heap.size w3 w5 := Below.trans (b := _) (by go_grown) (hb5.mono (by omega))
  have s5 := hb5.size
  simp only [World.size_alloc] at s5
  have f5_0 := carry g5 f3_0 (by omega)
  have f5_1 := carry g5 f3_1 (by omega)
  have f5_2 := carry g5 f3_2 (by omega)
  have f5_3 : w5.cell? ⟨w3.heap.size, 0, none⟩ = some (.int .i64 rq) := carry hb5 (by simp) (by omega)
  have f5_4 : w5.cell? ⟨w3.heap.size, 1, none⟩ = some (.int .i64 rk) := carry hb5 (by simp) (by omega)
  have f5_5 : w5.cell? ⟨w3.heap.size, 2, none⟩ = some (.slice T3 rm.length d3) := carry hb5 (by simp) (by omega)
  have o5_0 := own_below o3_0 g5 (Nat.le_refl _)
  have o5_1 := own_below n3 g5 (Nat.le_refl _)
  have k5 := k3.trans (g5.mono k3.size)
  clear f3_0 f3_1 f3_2 o3_0 n3 q4_0 q4_1 q4_2
  go_wp2_with fail
  refine (markPainting_any rq rk rm _ _ _ 1 _ _ rfl hrn hone o5_1).mono ?_
  rintro e w6 ⟨rfl, n6, hg6⟩
  have s6 := hg6.size
  have f6_0 := carryG hg6 r3 f5_0 (by omega)
  have f6_1 := carryG hg6 r3 f5_1 (by omega)
  have f6_2 := carryG hg6 r3 f5_2 (by omega)
  have f6_3 := carryG hg6 r3 f5_3 (by omega)
  have f6_4 := carryG hg6 r3 f5_4 (by omega)
  have f6_5 := carryG hg6 r3 f5_5 (by omega)
  have o6_0 := keptG hg6 r3 o5_0 r1 (by omega)
  have k6 := belowG k5 hg6 r3 k5.size (by omega)
  clear f5_0 f5_1 f5_2 f5_3 f5_4 f5_5 o5_0 o5_1
  have hmr : ¬ (1 + (rm.length : Int) < 0) := by omega
  go_wp2_with fail
  refine (heldPainting_any _ _ _ _ _ 1 _ hrn hone (CRead.of_own n6)).mono ?_
  rintro e w7 ⟨rfl, hb7⟩
  have g7 : Below w6.heap.size w6 w7 := hb7
  have s7 := hb7.size
  have f7_0 := carry g7 f6_0 (by omega)
  have f7_1 := carry g7 f6_1 (by omega)
  have f7_2 := carry g7 f6_2 (by omega)
  have f7_3 := carry g7 f6_3 (by omega)
  have f7_4 := carry g7 f6_4 (by omega)
  have f7_5 := carry g7 f6_5 (by omega)
  have o7_0 := own_below o6_0 g7 (Nat.le_refl _)
  have o7_1 := own_below n6 g7 (Nat.le_refl _)
  have k7 := k6.trans (g7.mono k6.size)
  clear f6_0 f6_1 f6_2 f6_3 f6_4 f6_5 o6_0 n6
  go_wp2_with fail
  refine (implParsePainting_any z0 _ hs0 (by first | exact HTab.out.below (k7.alloc k7.size _) | exact HTab.out.below k7)).mono ?_
  rw [Hres.out]
  rintro e w8 ⟨T8, d8, rfl, n8, hb8⟩
  have g8 : Below w7.heap.size w7 w8 := hb8
  have s8 := hb8.size
  have f8_0 := carry g8 f7_0 (by omega)
  have f8_1 := carry g8 f7_1 (by omega)
  have f8_2 := carry g8 f7_2 (by omega)
  have f8_3 := carry g8 f7_3 (by omega)
  have f8_4 := carry g8 f7_4 (by omega)
  have f8_5 := carry g8 f7_5 (by omega)
  have o8_0 := own_below o7_0 g8 (Nat.le_refl _)
  have o8_1 := own_below o7_1 g8 (Nat.le_refl _)
  have k8 := k7.trans (g8.mono k7.size)
  clear f7_0 f7_1 f7_2 f7_3 f7_4 f7_5 o7_0 o7_1
  have r8 : Lies (.slice T8 rm.length d8) (w7.heap.size) w8.heap.size := own_lies n8
  have q9_0 : (w8.alloc (Obj.cells #[.int .i64 rq, .int .i64 rk, .slice T8 rm.length d8] 47)).cell? ⟨w1.heap.size, 0, none⟩ = some (.int .i64 rq) := (World.cell?_alloc_lt _ _ _ (show w1.heap.size < w8.heap.size by omega)).trans f8_0
  have q9_1 : (w8.alloc (Obj.cells #[.int .i64 rq, .int .i64 rk, .slice T8 rm.length d8] 47)).cell? ⟨w1.heap.size, 1, none⟩ = some (.int .i64 rk) := (World.cell?_alloc_lt _ _ _ (show w1.heap.size < w8.heap.size by omega)).trans f8_1
  have q9_2 : (w8.alloc (Obj.cells #[.int .i64 rq, .int .i64 rk, .slice T8 rm.length d8] 47)).cell? ⟨w1.heap.size, 2, none⟩ = some (.slice T1 rm.length d1) := (World.cell?_alloc_lt _ _ _ (show w1.heap.size < w8.heap.size by omega)).trans f8_2
  have q9_3 : (w8.alloc (Obj.cells #[.int .i64 rq, .int .i64 rk, .slice T8 rm.length d8] 47)).cell? ⟨w3.heap.size, 0, none⟩ = some (.int .i64 rq) := (World.cell?_alloc_lt _ _ _ (show w3.heap.size < w8.heap.size by omega)).trans f8_3
  have q9_4 : (w8.alloc (Obj.cells #[.int .i64 rq, .int .i64 rk, .slice T8 rm.length d8] 47)).cell? ⟨w3.heap.size, 1, none⟩ = some (.int .i64 rk) := (World.cell?_alloc_lt _ _ _ (show w3.heap.size < w8.heap.size by omega)).trans f8_4
  have q9_5 : (w8.alloc (Obj.cells #[.int .i64 rq, .int .i64 rk, .slice T8 rm.length d8] 47)).cell? ⟨w3.heap.size, 2, none⟩ = some (.slice T3 rm.length d3) := (World.cell?_alloc_lt _ _ _ (show w3.heap.size < w8.heap.size by omega)).trans f8_5
  go_wp2_with fail
  refine (eqPainting_any rq rq rk rk rm rm _ _ _ _ _ hrl hrl ((((CRead.of_own n8).below (B' := w8.heap.size) (by go_grown) (Nat.le_refl _)).more (by go_size))) ((((CRead.of_own o8_0).below (B' := w8.heap.size) (by go_grown) (Nat.le_refl _)).more (by go_size)))).mono ?_
  rw [decide_eq_true ⟨rfl, rfl, rfl⟩]
  rintro e w10 ⟨rfl, hb10⟩
  simp only [World.size_alloc] at hb10
  have g10 : Below w8.heap.size w8 w10 := Below.trans (b := _) (by go_grown) (hb10.mono (by omega))
  have s10 := hb10.size
  simp only [World.size_alloc] at s10
  have f10_0 := carry g10 f8_0 (by omega)
  have f10_1 := carry g10 f8_1 (by omega)
  have f10_2 := carry g10 f8_2 (by omega)
  have f10_3 := carry g10 f8_3 (by omega)
  have f10_4 := carry g10 f8_4 (by omega)
  have f10_5 := carry g10 f8_5 (by omega)
  have f10_6 : w10.cell? ⟨w8.heap.size, 0, none⟩ = some (.int .i64 rq) := carry hb10 (by simp) (by omega)
  have f10_7 : w10.cell? ⟨w8.heap.size, 1, none⟩ = some (.int .i64 rk) := carry hb10 (by simp) (by omega)
  have f10_8 : w10.cell? ⟨w8.heap.size, 2, none⟩ = some (.slice T8 rm.length d8) := carry hb10 (by simp) (by omega)
  have o10_0 := own_below o8_0 g10 (Nat.le_refl _)
  have o10_1 := own_below o8_1 g10 (Nat.le_refl _)
  have o10_2 := own_below n8 g10 (Nat.le_refl _)
  have k10 := k8.trans (g10.mono k8.size)
  clear f8_0 f8_1 f8_2 f8_3 f8_4 f8_5 o8_0 o8_1 n8 q9_0 q9_1 q9_2 q9_3 q9_4 q9_5
  go_wp2_with fail
  refine (heldPainting_any _ _ _ _ _ 1 _ hrn hone (CRead.of_own o10_1)).mono ?_
  rintro e w11 ⟨rfl, hb11⟩
  have g11 : Below w10.heap.size w10 w11 := hb11
  have s11 := hb11.size
  have f11_0 := carry g11 f10_0 (by omega)
  have f11_1 := carry g11 f10_1 (by omega)
  have f11_2 := carry g11 f10_2 (by omega)
  have f11_3 := carry g11 f10_3 (by omega)
  have f11_4 := carry g11 f10_4 (by omega)
  have f11_5 := carry g11 f10_5 (by omega)
  have f11_6 := carry g11 f10_6 (by omega)
  have f11_7 := carry g11 f10_7 (by omega)
  have f11_8 := carry g11 f10_8 (by omega)
  have o11_0 := own_below o10_0 g11 (Nat.le_refl _)
  have o11_1 := own_below o10_1 g11 (Nat.le_refl _)
  have o11_2 := own_below o10_2 g11 (Nat.le_refl _)
  have k11 := k10.trans (g11.mono k10.size)
  clear f10_0 f10_1 f10_2 f10_3 f10_4 f10_5 f10_6 f10_7 f10_8 o10_0 o10_1 o10_2
  go_wp2
  go_ret
  exact ⟨rfl, k11⟩
end Go.Proofs.YthpapkfpcijpoaaDoor
/-
  THE PROGRAM's HEAD, LOOKED AT ONCE: which make it is, and that a call may enter it. (The head's text is long: the kernel must not read it twice.)
-/
namespace Go.Proofs.YthpapkfpcijpoaaDoor

theorem make_of {P : Program} {rest : List (List Char)} (h : behindMainWord (wordsSigns P.initOrder.toList) = "cut".toList :: rest) : P.make = some .cut := by
  unfold Program.make
  rw [h]
  rfl
theorem strip_cut (rest : List (List Char)) : stripLifts liftWords ("cut".toList :: rest) = ([], "cut".toList :: rest) := rfl
theorem lifts_of {P : Program} {rest : List (List Char)} (h : behindMainWord (wordsSigns P.initOrder.toList) = "cut".toList :: rest) : P.headLifts = [] := by
  unfold Program.headLifts
  rw [h, strip_cut]
  rfl
theorem final_of {P : Program} {rest : List (List Char)} (h : behindMainWord (wordsSigns P.initOrder.toList) = "cut".toList :: rest) : P.liftsFinal = false := by
  unfold Program.liftsFinal
  rw [lifts_of h, h]
  rfl
theorem enter_of {P : Program} {rest : List (List Char)} (h : behindMainWord (wordsSigns P.initOrder.toList) = "cut".toList :: rest) (h1 : P.laysLater = false) (h2 : P.bearsReflect = false) (h3 : P.doorFits [] = true) : P.mayEnter = true := by
  unfold Program.mayEnter
  rw [h]
  show (_ || _ || _) = true
  rw [strip_cut, h1, h2, h3]
  rfl
end Go.Proofs.YthpapkfpcijpoaaDoor
/-
  THE PROGRAM's CLOSED FACTS, EACH ONCE; and how a row's facts are put together out of them.
-/
namespace Go.Proofs.YthpapkfpcijpoaaDoor
open Go.ChangeShapes Go.WideShapes Go.ChangeAt Go.RowKit

def headSigns : List Char := ([104, 97, 114, 110, 101, 115, 115, 32, 54, 51, 48, 54, 101, 97, 48, 55, 52, 97, 48, 49, 102, 55, 97, 52, 49, 97, 55, 101, 101, 52, 52, 56, 56, 54, 51, 101, 57, 52, 54, 51, 102, 49, 97, 97, 49, 50, 55, 57, 49, 52, 99, 52, 57, 98, 50, 54, 100, 52, 49, 99, 101, 54, 49, 97, 48, 49, 97, 101, 99, 99, 54, 100, 32, 99, 117, 116, 32, 97, 116, 32, 108, 111, 111, 112, 46, 101, 120, 97, 109, 112, 108, 101, 47, 103, 48, 49, 50, 53, 55, 47, 108, 97, 119, 115, 46, 70, 110, 69, 120, 97, 99, 116, 67, 111, 109, 109, 111, 110, 70, 114, 105, 101, 110, 100, 115, 32, 108, 111, 111, 112, 46, 101, 120, 97, 109, 112, 108, 101, 47, 103, 48, 49, 50, 53, 55, 47, 108, 97, 119, 115, 46, 70, 110, 69, 120, 97, 99, 116, 67, 111, 117, 110, 116, 87, 97, 108, 107, 115, 32, 108, 111, 111, 112, 46, 101, 120, 97, 109, 112, 108, 101, 47, 103, 48, 49, 50, 53, 55, 47, 108, 97, 119, 115, 46, 70, 110, 69, 120, 97, 99, 116, 67, 111, 117, 110, 116, 82, 111, 117, 110, 100, 87, 97, 108, 107, 115, 32, 108, 111, 111, 112, 46, 101, 120, 97, 109, 112, 108, 101, 47, 103, 48, 49, 50, 53, 55, 47, 108, 97, 119, 115, 46, 70, 110, 69, 120, 97, 99, 116, 68, 105, 115, 116, 97, 110, 99, 101, 79, 102, 32, 108, 111, 111, 112, 46, 101, 120, 97, 109, 112, 108, 101, 47, 103, 48, 49, 50, 53, 55, 47, 108, 97, 119, 115, 46, 70, 110, 69, 120, 97, 99, 116, 87, 105, 100, 101, 115, 116, 68, 105, 115, 116, 97, 110, 99, 101, 32, 108, 111, 111, 112, 46, 101, 120, 97, 109, 112, 108, 101, 47, 103, 48, 49, 50, 53, 55, 47, 108, 97, 119, 115, 46, 70, 110, 69, 120, 97, 99, 116, 83, 104, 111, 114, 116, 101, 115, 116, 82, 111, 117, 110, 100, 32, 108, 111, 111, 112, 46, 101, 120, 97, 109, 112, 108, 101, 47, 103, 48, 49, 50, 53, 55, 47, 108, 97, 119, 115, 46, 70, 110, 69, 120, 97, 99, 116, 80, 97, 114, 115, 101, 80, 97, 105, 110, 116, 105, 110, 103, 32, 108, 111, 111, 112, 46, 101, 120, 97, 109, 112, 108, 101, 47, 103, 48, 49, 50, 53, 55, 47, 108, 97, 119, 115, 46, 70, 110, 69, 120, 97, 99, 116, 80, 97, 114, 116, 121, 84, 101, 120, 116] : List Nat).map Char.ofNat
set_option maxRecDepth 100000 in
theorem Tryd.initOrder_is : Tryd.prog.initOrder = String.ofList headSigns := by kernel_rfl
theorem Tryd.initOrder_signs : Tryd.prog.initOrder.toList = headSigns := by rw [Tryd.initOrder_is]; exact String.toList_ofList
set_option maxRecDepth 100000 in
theorem head_words : (behindMainWord (wordsSigns headSigns)).take 1 = ["cut".toList] := by kernel_rfl
theorem Tryd.words : ∃ rest, behindMainWord (wordsSigns Tryd.prog.initOrder.toList) = "cut".toList :: rest := by
  rw [Tryd.initOrder_signs]
  have h := List.take_append_drop 1 (behindMainWord (wordsSigns headSigns))
  rw [head_words] at h
  exact ⟨_, h.symm⟩
theorem Tryd.make : Tryd.prog.make = some .cut := by obtain ⟨_, h⟩ := Tryd.words; exact make_of h
theorem Tryd.liftsFinal : Tryd.prog.liftsFinal = false := by obtain ⟨_, h⟩ := Tryd.words; exact final_of h
theorem Tryd.laysLater : Tryd.prog.laysLater = false := by kernel_rfl
theorem Tryd.bearsReflect : Tryd.prog.bearsReflect = false := by kernel_rfl
theorem Tryd.doorFits : Tryd.prog.doorFits [] = true := by kernel_rfl
theorem Tryd.mayEnter : Tryd.prog.mayEnter = true := by obtain ⟨_, h⟩ := Tryd.words; exact enter_of h Tryd.laysLater Tryd.bearsReflect Tryd.doorFits
theorem Tryd.mapsRowed : mapsRowed Tryd.prog = true := by kernel_rfl
theorem Tryd.stops : (Tryd.prog.stops == []) = true := by kernel_rfl
theorem Tryd.stopKnobs : (Tryd.prog.stopKnobs == []) = true := by kernel_rfl
theorem Tryd.plainKeys : Tryd.prog.plainKeys = false := by kernel_rfl
theorem Tryd.stopsHeard : Tryd.prog.stopsHeard = true := by kernel_rfl

/-- What the types of one law give: closed facts on its parameters and its result. -/
def typeFacts (P : Program) (fn : Func) (s : ChangeSpec) (c : OpenClaim) : Bool :=
  fn.params.all (P.readableRec ·) && namedTie P c.named s.vars && (c.stops == []) && (c.knobs == []) &&
  (c.maps == (fn.params.toList ++ s.plain.varTypes P).any (P.mapsRec ·)) && (c.ifaces == (fn.params.toList ++ s.plain.varTypes P).any (P.ifacesRec ·)) && (c.mapsOut == P.mapsAmong fn.resultTypes.toList) &&
  (c.loops == (fn.params.toList ++ s.plain.varTypes P).any (P.loopsFrom ·)) && (c.wideKeys == (fn.params.toList ++ s.plain.varTypes P ++ fn.resultTypes.toList).any (P.wideKeysFrom ·)) &&
  s.vars.all (P.varReadable ·) && fn.resultTypes.all (fun t => P.readableRec t && decide (t < P.types.size)) && (c.ifacesOut == fn.resultTypes.toList.any (P.ifacesRec ·)) && (c.loopsOut == fn.resultTypes.toList.any (P.loopsFrom ·)) && c.shortTexts.isNone &&
  (c.kinds == (if c.domain.isEmpty then [] else fn.params.toList.map fun t => match P.underlying t with | some (.int k) => some k | _ => none)) && (c.pinned == c.pinnedBy) &&
  (c.veiled == (fn.params.toList ++ s.plain.varTypes P ++ fn.resultTypes.toList).any (P.veiledRec ·)) && c.veiledFits P fn.params.toList (fn.params.toList ++ s.plain.varTypes P ++ fn.resultTypes.toList)
theorem joined_all {P : Program} {f : FuncId} {fn : Func} {s : ChangeSpec} {c : OpenClaim} (k1 : c.wf (OpenSpec.ofChange s) = true) (kt : typeFacts P fn s c = true)
    (k10 : (c.inPlace == P.inPlace f) = true) (k11 : (c.unfollowed == P.unfollowed f) = true) (k12 : (c.recurses == P.recurses f) = true) (k13 : (c.named == P.varsNamed f) = true)
    (e2 : laidOutB P = true) (e3 : mapsRowed P = true) (e7 : (P.stops == []) = true) (e9 : (P.stopKnobs == []) = true) (e22 : (c.plainKeys == P.plainKeys) = true) (e23 : P.stopsHeard = true) (e24 : P.mayEnter = true)
    (e24b : (c.lifted == P.liftsFinal) = true) (e24c : (P.make == some c.make) = true) : joinedFacts P f fn s c = true := by
  unfold typeFacts at kt
  unfold joinedFacts
  simp only [Bool.and_eq_true] at kt ⊢
  obtain ⟨⟨⟨⟨⟨⟨⟨⟨⟨⟨⟨⟨⟨⟨⟨⟨⟨t1, t2⟩, t3⟩, t4⟩, t5⟩, t6⟩, t7⟩, t8⟩, t9⟩, t10⟩, t11⟩, t12⟩, t13⟩, t14⟩, t15⟩, t16⟩, t17⟩, t18⟩ := kt
  exact ⟨⟨⟨⟨⟨⟨⟨⟨⟨⟨⟨⟨⟨⟨⟨⟨⟨⟨⟨⟨⟨⟨⟨⟨⟨⟨⟨⟨⟨⟨⟨k1, e2⟩, e3⟩, t1⟩, t2⟩, t3⟩, e7⟩, t4⟩, e9⟩, k10⟩, k11⟩, k12⟩, k13⟩, t5⟩, t6⟩, t7⟩, t8⟩, t9⟩, t10⟩, t11⟩, t12⟩, t13⟩, e22⟩, t14⟩, e23⟩, e24⟩, e24b⟩, e24c⟩, t15⟩, t16⟩, t17⟩, t18⟩
theorem joined_of {f : FuncId} {fn : Func} {s : ChangeSpec} {c : OpenClaim} (k1 : c.wf (OpenSpec.ofChange s) = true) (kt : typeFacts Tryd.prog fn s c = true)
    (k10 : (c.inPlace == Tryd.prog.inPlace f) = true) (k11 : (c.unfollowed == Tryd.prog.unfollowed f) = true) (k12 : (c.recurses == Tryd.prog.recurses f) = true) (k13 : (c.named == Tryd.prog.varsNamed f) = true)
    (k22 : c.plainKeys = false) (k24b : c.lifted = false) (k24c : c.make = .cut) : joinedFacts Tryd.prog f fn s c = true :=
  joined_all k1 kt k10 k11 k12 k13 Tryd.laidOut Tryd.mapsRowed Tryd.stops Tryd.stopKnobs (by rw [k22, Tryd.plainKeys]; rfl) Tryd.stopsHeard Tryd.mayEnter (by rw [k24b, Tryd.liftsFinal]; rfl) (by rw [k24c, Tryd.make]; rfl)
end Go.Proofs.YthpapkfpcijpoaaDoor
/-
  math/bits.TrailingZeros16 by its contract, where the library's table lies as its initialiser lays it.
-/
namespace Go.Proofs.YthpapkfpcijpoaaDoor
open Go.RowKit

def sliceLen : Value → Nat | .slice _ n _ => n | _ => 0
/-- The table in its variable (block 0). -/
def TabW (w : World) : Prop := ∀ j, j < 32 → w.cell? ⟨0, j, none⟩ = some (.int .u8 (Lib.deBruijn32tab.getD j 0))
theorem TabW.below {B : Nat} {w w' : World} (h : TabW w) (hb : Below B w w') (hB : 0 < B) : TabW w' := fun j hj => (hb.cell (p := ⟨0, j, none⟩) hB).trans (h j hj)
theorem TabW.pos {w : World} (h : TabW w) : 0 < w.heap.size := World.block_lt_of_cell? w _ (h 0 (by omega))

theorem tz16_key (x a : Nat) (hx : x < 65536) (hx0 : x ≠ 0) (hlow : x &&& (65536 - x) = 2 ^ a) (ha : a < 16) :
    bits BinOp.and IntKind.u16 (x : Int) (IntKind.u16.wrap (-(x : Int))) % 4294967296 * 125613361 % 4294967296 / 134217728 = ((2 ^ a * 125613361 % 4294967296 / 134217728 : Nat) : Int) := by
  have e1 : IntKind.u16.wrap (-(x : Int)) = ((65536 - x : Nat) : Int) := by rw [IntKind.wrap_u16]; omega
  have h2 : 2 ^ a < 2 ^ 16 := Nat.pow_lt_pow_right (by omega) ha
  rw [show (2 : Nat) ^ 16 = 65536 from rfl] at h2
  rw [e1, u16_and_nat x _ hx (by omega), hlow]
  omega

set_option maxHeartbeats 1000000 in
theorem tz16_core (x k idx : Nat) (w : World) (hx0 : ((x : Int) == 0) = false)
    (key : bits BinOp.and IntKind.u16 (x : Int) (IntKind.u16.wrap (-(x : Int))) % 4294967296 * 125613361 % 4294967296 / 134217728 = (idx : Int))
    (hi : idx < 32) (hk : k < 32) (hcell : w.cell? ⟨0, idx, none⟩ = some (.int .u8 k)) :
    Calls Tryd.prog 73 #[.int .u16 x] w fun e w' => e = .returned (.int .i64 k) ∧ w = w' := by
  go_enter Tryd.func73, Tryd.ntmps73
  go_wp2_with (simp only [key])
  go_ret
  exact ⟨rfl, rfl⟩
/-- the least person of a set -/
theorem tz16_any {J a : Nat} {cs : List Nat} (h : IsSet J (a :: cs)) (w : World) (hT : TabW w) :
    Calls Tryd.prog 73 #[.int .u16 J] w fun e w' => e = .returned (.int .i64 a) ∧ w = w' := by
  have hp := h.pos
  have hs := h.small
  have ha := h.lt a List.mem_cons_self
  obtain ⟨hlow, _⟩ := Lib.lowest_bit 16 J hp hs
  rw [h.least] at hlow
  obtain ⟨hi, htab⟩ := Lib.deBruijn32_at a (by omega)
  have hcell := hT _ hi
  rw [htab] at hcell
  exact tz16_core J a _ w (by simp; omega) (tz16_key J a hs hp hlow ha) hi (by omega) hcell
end Go.Proofs.YthpapkfpcijpoaaDoor
/-
  THE DOOR SEAT's CONDITION: the library's table lies in its variable: what a walk reads of it, and a world that meets it.
-/
namespace Go.Proofs.YthpapkfpcijpoaaDoor
open Go.RowKit

def tabInts : List Int := Lib.deBruijn32tab.map fun n : Nat => (n : Int)
theorem Tryd.tabGlobal : Tryd.prog.globalNamed "math/bits.deBruijn32tab" = some 0 := by kernel_rfl
theorem Tryd.tabType : (Tryd.prog.globals[0]?).map (·.type) = some 125 := by kernel_rfl
theorem Tryd.tabCells : Tryd.prog.cellsOf 125 = 32 := by kernel_rfl
theorem Tryd.byteCells : Tryd.prog.cellsOf 5 = 1 := by kernel_rfl
theorem tabInts_at : ∀ i : Fin 32, tabInts.getD i.val 0 = ((Lib.deBruijn32tab.getD i.val 0 : Nat) : Int) := by decide
theorem tab_of_laid {W : World} (h : laidMetH Tryd.prog [("math/bits.deBruijn32tab", Rows.laid_math_bits_deBruijn32tab)] W) : TabW W := by
  have h' : laidMet Tryd.prog (("math/bits.deBruijn32tab", Lib.tabData .u8 tabInts) :: []) W := h
  have ht := Lib.tabIs_of_head Tryd.tabGlobal Tryd.tabType Tryd.underlying125 Tryd.underlying5 Tryd.byteCells Tryd.tabCells h'
  intro j hj
  rw [ht.cell Tryd.tabGlobal j (by simpa [tabInts, Lib.deBruijn32tab] using hj), tabInts_at ⟨j, hj⟩]

/-- A world that meets the condition. -/
noncomputable def laidWorld (os : Os) : World :=
  let w0 := World.holding Tryd.prog os ⟨#[], #[], []⟩
  { w0 with heap := w0.heap.modify 0 fun
      | .cells _ t frozen => .cells (tabInts.map fun z => Value.int .u8 z).toArray t frozen
      | o => o }
theorem laidWorld_met (os : Os) (args : Array Value) : laidMetH Tryd.prog [("math/bits.deBruijn32tab", Rows.laid_math_bits_deBruijn32tab)] ((laidWorld os).forCall (fun _ _ => 0) ⟨#[], args, []⟩).memory :=
  laidMetH_of_parts (laidMet_of_run' 8 (by kernel_rfl) (by kernel_rfl)) (by kernel_rfl)
end Go.Proofs.YthpapkfpcijpoaaDoor
/-
  A world that meets the condition of a law of the door seat that makes text of numbers: three tables of the library lie in their variables.
-/
namespace Go.Proofs.YthpapkfpcijpoaaDoor
open Go.RowKit

end Go.Proofs.YthpapkfpcijpoaaDoor
