/-
  Texts put together for the claims of 'DoesFit' (pack 9): LawDoesFit, Said, OpenU, Head, Facts, Door, CardMDoesFit, CardGDoesFit.
-/
import Derived.Test.YtefkcfkicmfhlaaDoorDoesFitP1
import Derived.Test.YtefkcfkicmfhlaaDoorDoesFitP2
import Derived.Test.YtefkcfkicmfhlaaDoorDoesFitP8
import Derived.Deep.RegionHeld3
import Derived.Test.YtefkcfkicmfhlaaDoorRows
import Derived.ProofKit
import Derived.OpenShut
import Derived.Deep.SlicePairs
import Derived.Lib.SmallJoins
import Derived.Deep.Slices
import Derived.Deep.Strs
import Derived.Test.YtefkcfkicmfhlaaDoorTie
import Derived.Test.YtefkcfkicmfhlaaDoorCards
import Derived.Lib.LaidTab
import Derived.LaidHandle
import Derived.SevenTiedAt
import Derived.WalkKit
/-
  'laws.FnExactDoesFit' returns true, whatever its arguments: out of the contracts of the model's function and of the program's.
-/
namespace Go.Proofs.YtefkcfkicmfhlaaDoor
open Go.RowKit

set_option maxHeartbeats 4000000 in
set_option maxRecDepth 100000 in
theorem lawDoesFit_any (ka0 kb0 kc0 : Int) (p1 : Int) (l1 : PL) (A1 : Option Addr) (c1 : Nat) (W : World) (hl1 : l1.length ≤ maxLen) (hA1 : CRead W W.heap.size A1 (pcells l1)) (htab : TabW W) :
    Calls Tryd.prog 3 #[.agg #[.int .i64 ka0, .int .i64 kb0, .int .i64 kc0], .agg #[.int .i64 p1, .slice A1 l1.length c1]] W fun e w' => e = .returned (.bool true) ∧ Below W.heap.size W w' := by
  have hone : (0 : Int) ≤ 1 ∧ (1 : Int) ≤ 16777216 := by omega
  have HTab := Lib.hid htab
  clear htab
  by_cases hz1 : szI (1048576) l1.length < 0
  · go_enter Tryd.func3, Tryd.ntmps3
    go_wp2_with fail
    refine (szParty_any _ _ _ _ _ hl1 (by omega) (by omega) _).mono ?_
    rintro e w1 ⟨rfl, hb1⟩
    simp only [World.size_alloc] at hb1
    have g1 : Below W.heap.size W w1 := Below.trans (b := _) (by go_grown) (hb1.mono (by omega))
    have s1 := hb1.size
    simp only [World.size_alloc] at s1
    have f1_0 : w1.cell? ⟨W.heap.size, 0, none⟩ = some (.int .i64 ka0) := carry hb1 (by simp) (by omega)
    have f1_1 : w1.cell? ⟨W.heap.size, 1, none⟩ = some (.int .i64 kb0) := carry hb1 (by simp) (by omega)
    have f1_2 : w1.cell? ⟨W.heap.size, 2, none⟩ = some (.int .i64 kc0) := carry hb1 (by simp) (by omega)
    have f1_3 : w1.cell? ⟨W.heap.size + 1, 0, none⟩ = some (.int .i64 p1) := carry hb1 (by simp) (by omega)
    have f1_4 : w1.cell? ⟨W.heap.size + 1, 1, none⟩ = some (.slice A1 l1.length c1) := carry hb1 (by simp) (by omega)
    have k1 : Below W.heap.size W w1 := g1
    go_wp2
    go_ret
    exact ⟨rfl, k1⟩
  have hn1 : l1.length ≤ 1048576 := by have h1 := szI_len _ _ hz1; have h2 := szI_hi (1048576) l1.length (by omega); omega
  have hz1' : 0 ≤ szI (1048576) l1.length := by omega
  have hz1'' : szI (1048576) l1.length ≤ 1048576 := by have h2 := szI_hi (1048576) l1.length (by omega); omega
  obtain ⟨⟨rb, rok⟩, hres⟩ : ∃ r, resDoesFit ka0 kb0 kc0 p1 l1 = r := ⟨_, rfl⟩
  have Hres := Lib.hid hres
  clear hres
  go_enter Tryd.func3, Tryd.ntmps3
  go_wp2_with fail
  refine (szParty_any _ _ _ _ _ hl1 (by omega) (by omega) _).mono ?_
  rintro e w1 ⟨rfl, hb1⟩
  simp only [World.size_alloc] at hb1
  have g1 : Below W.heap.size W w1 := Below.trans (b := _) (by go_grown) (hb1.mono (by omega))
  have s1 := hb1.size
  simp only [World.size_alloc] at s1
  have f1_0 : w1.cell? ⟨W.heap.size, 0, none⟩ = some (.int .i64 ka0) := carry hb1 (by simp) (by omega)
  have f1_1 : w1.cell? ⟨W.heap.size, 1, none⟩ = some (.int .i64 kb0) := carry hb1 (by simp) (by omega)
  have f1_2 : w1.cell? ⟨W.heap.size, 2, none⟩ = some (.int .i64 kc0) := carry hb1 (by simp) (by omega)
  have f1_3 : w1.cell? ⟨W.heap.size + 1, 0, none⟩ = some (.int .i64 p1) := carry hb1 (by simp) (by omega)
  have f1_4 : w1.cell? ⟨W.heap.size + 1, 1, none⟩ = some (.slice A1 l1.length c1) := carry hb1 (by simp) (by omega)
  have k1 : Below W.heap.size W w1 := g1
  go_wp2
  go_region_held3 (fun w' => w'.cell? ⟨W.heap.size, 0, none⟩ = some (.int .i64 ka0) ∧ w'.cell? ⟨W.heap.size, 1, none⟩ = some (.int .i64 kb0) ∧ w'.cell? ⟨W.heap.size, 2, none⟩ = some (.int .i64 kc0) ∧ w'.cell? ⟨W.heap.size + 1, 0, none⟩ = some (.int .i64 p1) ∧ w'.cell? ⟨W.heap.size + 1, 1, none⟩ = some (.slice A1 l1.length c1)) (first | exact ⟨f1_0, f1_1, f1_2, f1_3, f1_4⟩ | exact ⟨f2_0, f2_1, f2_2, f2_3, f2_4⟩ | exact ⟨f3_0, f3_1, f3_2, f3_3, f3_4⟩ | exact ⟨f4_0, f4_1, f4_2, f4_3, f4_4⟩) ((first | (go_at_call 18; refine (toClue_any ka0 kb0 kc0 _).mono ?_; rintro e w2 ⟨rfl, hb2⟩; have g2 : Below w1.heap.size w1 w2 := (Below.refl _ _).drew.trans hb2; have s2 := g2.size; have f2_0 := carry g2 f1_0 (by omega); have f2_1 := carry g2 f1_1 (by omega); have f2_2 := carry g2 f1_2 (by omega); have f2_3 := carry g2 f1_3 (by omega); have f2_4 := carry g2 f1_4 (by omega); have k2 := k1.trans (g2.mono k1.size)) | (go_at_call 19; refine (toParty_any p1 l1 A1 c1 _ hn1 ((hA1.below k2 (Nat.le_refl _)).more k2.size)).mono ?_; rintro e w3 ⟨T3, d3, rfl, n3, hb3⟩; have g3 : Below w2.heap.size w2 w3 := hb3; have s3 := g3.size; have f3_0 := carry g3 f2_0 (by omega); have f3_1 := carry g3 f2_1 (by omega); have f3_2 := carry g3 f2_2 (by omega); have f3_3 := carry g3 f2_3 (by omega); have f3_4 := carry g3 f2_4 (by omega); have k3 := k2.trans (g3.mono k2.size)) | (go_at_call 17; refine (specDoesFit_any ka0 kb0 kc0 p1 l1 _ _ _ hn1 (CRead.of_own n3)).mono ?_; rw [Hres.out]; rintro e w4 ⟨rfl, hb4⟩; have g4 : Below w3.heap.size w3 w4 := hb4; have s4 := g4.size; have f4_0 := carry g4 f3_0 (by omega); have f4_1 := carry g4 f3_1 (by omega); have f4_2 := carry g4 f3_2 (by omega); have f4_3 := carry g4 f3_3 (by omega); have f4_4 := carry g4 f3_4 (by omega); have o4_0 := own_below n3 g4 (Nat.le_refl _); have k4 := k3.trans (g4.mono k3.size))))
  clear f1_0 f1_1 f1_2 f1_3 f1_4 f2_0 f2_1 f2_2 f2_3 f2_4 f3_0 f3_1 f3_2 f3_3 f3_4 n3 o4_0
  go_wp2_with fail
  refine (toParty_any p1 l1 A1 c1 _ hn1 ((hA1.below k4 (Nat.le_refl _)).more k4.size)).mono ?_
  rintro e w5 ⟨T5, d5, rfl, n5, hb5⟩
  have g5 : Below w4.heap.size w4 w5 := hb5
  have s5 := hb5.size
  have f5_0 := carry g5 f4_0 (by omega)
  have f5_1 := carry g5 f4_1 (by omega)
  have f5_2 := carry g5 f4_2 (by omega)
  have f5_3 := carry g5 f4_3 (by omega)
  have f5_4 := carry g5 f4_4 (by omega)
  have k5 := k4.trans (g5.mono k4.size)
  clear f4_0 f4_1 f4_2 f4_3 f4_4
  have r5 : Lies (.slice T5 l1.length d5) (w4.heap.size) w5.heap.size := own_lies n5
  have q6_0 : (w5.alloc (Obj.cells #[.int .i64 p1, .slice T5 l1.length d5] 34)).cell? ⟨W.heap.size, 0, none⟩ = some (.int .i64 ka0) := (World.cell?_alloc_lt _ _ _ (show W.heap.size < w5.heap.size by omega)).trans f5_0
  have q6_1 : (w5.alloc (Obj.cells #[.int .i64 p1, .slice T5 l1.length d5] 34)).cell? ⟨W.heap.size, 1, none⟩ = some (.int .i64 kb0) := (World.cell?_alloc_lt _ _ _ (show W.heap.size < w5.heap.size by omega)).trans f5_1
  have q6_2 : (w5.alloc (Obj.cells #[.int .i64 p1, .slice T5 l1.length d5] 34)).cell? ⟨W.heap.size, 2, none⟩ = some (.int .i64 kc0) := (World.cell?_alloc_lt _ _ _ (show W.heap.size < w5.heap.size by omega)).trans f5_2
  have q6_3 : (w5.alloc (Obj.cells #[.int .i64 p1, .slice T5 l1.length d5] 34)).cell? ⟨W.heap.size + 1, 0, none⟩ = some (.int .i64 p1) := (World.cell?_alloc_lt _ _ _ (show W.heap.size + 1 < w5.heap.size by omega)).trans f5_3
  have q6_4 : (w5.alloc (Obj.cells #[.int .i64 p1, .slice T5 l1.length d5] 34)).cell? ⟨W.heap.size + 1, 1, none⟩ = some (.slice A1 l1.length c1) := (World.cell?_alloc_lt _ _ _ (show W.heap.size + 1 < w5.heap.size by omega)).trans f5_4
  go_wp2
  obtain ⟨w7, hw7⟩ : ∃ x, (w5.alloc (Obj.cells #[.int .i64 p1, .slice T5 l1.length d5] 34)) = x := ⟨_, rfl⟩
  rw [hw7]
  have g7 : Below w5.heap.size w5 w7 := by rw [← hw7]; go_grown
  have s7 : w5.heap.size < w7.heap.size := by rw [← hw7]; simp
  have f7_0 := carry g7 f5_0 (by omega)
  have f7_1 := carry g7 f5_1 (by omega)
  have f7_2 := carry g7 f5_2 (by omega)
  have f7_3 := carry g7 f5_3 (by omega)
  have f7_4 := carry g7 f5_4 (by omega)
  have f7_5 : w7.cell? ⟨w5.heap.size, 0, none⟩ = some (.int .i64 p1) := by rw [← hw7]; simp
  have f7_6 : w7.cell? ⟨w5.heap.size, 1, none⟩ = some (.slice T5 l1.length d5) := by rw [← hw7]; simp
  have o7_0 := own_below n5 g7 (Nat.le_refl _)
  have k7 := k5.trans (g7.mono k5.size)
  clear f5_0 f5_1 f5_2 f5_3 f5_4 n5 q6_0 q6_1 q6_2 q6_3 q6_4 hw7
  go_wp2
  go_region_held3 (fun w' => w'.cell? ⟨W.heap.size, 0, none⟩ = some (.int .i64 ka0) ∧ w'.cell? ⟨W.heap.size, 1, none⟩ = some (.int .i64 kb0) ∧ w'.cell? ⟨W.heap.size, 2, none⟩ = some (.int .i64 kc0) ∧ w'.cell? ⟨W.heap.size + 1, 0, none⟩ = some (.int .i64 p1) ∧ w'.cell? ⟨W.heap.size + 1, 1, none⟩ = some (.slice A1 l1.length c1) ∧ w'.cell? ⟨w5.heap.size, 0, none⟩ = some (.int .i64 p1) ∧ w'.cell? ⟨w5.heap.size, 1, none⟩ = some (.slice T5 l1.length d5)) (first | exact ⟨f7_0, f7_1, f7_2, f7_3, f7_4, f7_5, f7_6⟩ | exact ⟨f8_0, f8_1, f8_2, f8_3, f8_4, f8_5, f8_6⟩ | exact ⟨f9_0, f9_1, f9_2, f9_3, f9_4, f9_5, f9_6⟩) ((first | (go_at_call 18; refine (toClue_any ka0 kb0 kc0 _).mono ?_; rintro e w8 ⟨rfl, hb8⟩; have g8 : Below w7.heap.size w7 w8 := (Below.refl _ _).drew.trans hb8; have s8 := g8.size; have f8_0 := carry g8 f7_0 (by omega); have f8_1 := carry g8 f7_1 (by omega); have f8_2 := carry g8 f7_2 (by omega); have f8_3 := carry g8 f7_3 (by omega); have f8_4 := carry g8 f7_4 (by omega); have f8_5 := carry g8 f7_5 (by omega); have f8_6 := carry g8 f7_6 (by omega); have o8_0 := own_below o7_0 g8 (Nat.le_refl _); have k8 := k7.trans (g8.mono k7.size)) | (go_at_call 20; refine (implDoesFit_any ka0 kb0 kc0 p1 l1 _ _ _ hn1 (CRead.of_own o8_0) (HTab.out.below k8 HTab.out.pos)).mono ?_; rw [Hres.out]; rintro e w9 ⟨rfl, hb9⟩; have g9 : Below w8.heap.size w8 w9 := hb9; have s9 := g9.size; have f9_0 := carry g9 f8_0 (by omega); have f9_1 := carry g9 f8_1 (by omega); have f9_2 := carry g9 f8_2 (by omega); have f9_3 := carry g9 f8_3 (by omega); have f9_4 := carry g9 f8_4 (by omega); have f9_5 := carry g9 f8_5 (by omega); have f9_6 := carry g9 f8_6 (by omega); have o9_0 := own_below o8_0 g9 (Nat.le_refl _); have k9 := k8.trans (g9.mono k8.size))))
  clear f7_0 f7_1 f7_2 f7_3 f7_4 f7_5 f7_6 o7_0 f8_0 f8_1 f8_2 f8_3 f8_4 f8_5 f8_6 o8_0
  go_wp2
  go_region_held3 (fun w' => w'.cell? ⟨W.heap.size + 1, 0, none⟩ = some (.int .i64 p1) ∧ w'.cell? ⟨W.heap.size + 1, 1, none⟩ = some (.slice A1 l1.length c1) ∧ w'.cell? ⟨w5.heap.size, 0, none⟩ = some (.int .i64 p1) ∧ w'.cell? ⟨w5.heap.size, 1, none⟩ = some (.slice T5 l1.length d5) ∧ w'.cell? ⟨W.heap.size, 0, none⟩ = some (.int .i64 ka0) ∧ w'.cell? ⟨W.heap.size, 1, none⟩ = some (.int .i64 kb0) ∧ w'.cell? ⟨W.heap.size, 2, none⟩ = some (.int .i64 kc0)) (first | exact ⟨f9_3, f9_4, f9_5, f9_6, f9_0, f9_1, f9_2⟩ | exact ⟨f10_0, f10_1, f10_2, f10_3, f10_4, f10_5, f10_6⟩ | exact ⟨f11_0, f11_1, f11_2, f11_3, f11_4, f11_5, f11_6⟩) ((first | (go_at_call 19; refine (toParty_any p1 l1 A1 c1 _ hn1 ((hA1.below k9.drew (Nat.le_refl _)).more k9.size)).mono ?_; rintro e w10 ⟨T10, d10, rfl, n10, hb10⟩; have g10 : Below w9.heap.size w9 w10 := (Below.refl _ _).drew.trans hb10; have s10 := g10.size; have f10_0 := carry g10 f9_3 (by omega); have f10_1 := carry g10 f9_4 (by omega); have f10_2 := carry g10 f9_5 (by omega); have f10_3 := carry g10 f9_6 (by omega); have f10_4 := carry g10 f9_0 (by omega); have f10_5 := carry g10 f9_1 (by omega); have f10_6 := carry g10 f9_2 (by omega); have o10_0 := own_below o9_0 g10 (Nat.le_refl _); have k10 := k9.trans (g10.mono k9.size)) | (go_at_call 21; refine (eqParty_any p1 p1 l1 l1 _ _ _ _ _ hl1 hl1 (CRead.of_own o10_0) (CRead.of_own n10)).mono ?_; rw [decide_eq_true ⟨rfl, rfl⟩]; rintro e w11 ⟨rfl, hb11⟩; have g11 : Below w10.heap.size w10 w11 := hb11; have s11 := g11.size; have f11_0 := carry g11 f10_0 (by omega); have f11_1 := carry g11 f10_1 (by omega); have f11_2 := carry g11 f10_2 (by omega); have f11_3 := carry g11 f10_3 (by omega); have f11_4 := carry g11 f10_4 (by omega); have f11_5 := carry g11 f10_5 (by omega); have f11_6 := carry g11 f10_6 (by omega); have o11_0 := own_below o10_0 g11 (Nat.le_refl _); have k11 := k10.trans (g11.mono k10.size))))
  clear f9_0 f9_1 f9_2 f9_3 f9_4 f9_5 f9_6 o9_0 f10_0 f10_1 f10_2 f10_3 f10_4 f10_5 f10_6 o10_0 n10
  go_wp2
  go_ret
  exact ⟨rfl, k11⟩
end Go.Proofs.YtefkcfkicmfhlaaDoor
/-
  FROM A LAW's WALK TO ITS STATEMENT: arguments opened (numbers, lists of numbers, parties), and what every law's post asks.
-/
namespace Go.Proofs.YtefkcfkicmfhlaaDoor
open Go.ChangeShapes Go.WideShapes Go.ChangeAt Go.RowKit Go.Deep

theorem Tryd.own : ownKnob Tryd.prog.godebug = none := by kernel_rfl
theorem Tryd.laidOut : laidOutB Tryd.prog = true := by kernel_rfl
theorem Tryd.cellsPair : Tryd.prog.cellsOf 123 = 2 := by kernel_rfl
theorem Tryd.cellsParty : Tryd.prog.cellsOf 26 = 2 := by kernel_rfl
theorem Tryd.cellsInt : Tryd.prog.cellsOf 3 = 1 := by kernel_rfl

section
variable {H : Type} {enc : TypeId × Value → H} {P : Program}
theorem below_trodAll (hl : laidOutB P = true) : ∀ (ts : List TypeId), (ts.all fun t => P.readableRec t && decide (t < P.types.size)) = true → ∀ {vs : List Value} {ds : List (DataW H)} {ps : List MemPlace} {W W' : World},
    DataW.TrodAll enc P W 0 (fun _ => true) true ts vs ds ps → Below W.heap.size W W' → (∀ x ∈ ps, x.block < W.heap.size) → DataW.TrodAll enc P W' 0 (fun b => decide (b < W.heap.size)) true ts vs ds ps
  | [], _, vs, ds, ps, W, W', h, _, _ => by
    obtain ⟨rfl, rfl, rfl⟩ := trodAll_nil h
    exact trodAll_mk0
  | t :: ts, hr, vs, ds, ps, W, W', h, hb, hlt => by
    obtain ⟨v, vs', d, ds', p, q, rfl, rfl, rfl, h0, h1⟩ := trodAll_cons h
    simp only [List.all_cons, Bool.and_eq_true, decide_eq_true_eq] at hr
    refine trodAll_cons_mk (Below.trod hl hr.1.1 hr.1.2 h0 hb (fun x hx => hlt x (List.mem_append_left _ hx))) (below_trodAll hl ts (by simpa using hr.2) h1 hb (fun x hx => hlt x (List.mem_append_right _ hx)))

theorem law_post {f : Func} {s : ChangeSpec} {W W' : World} {args : Array Value} {ds gs : List (DataW H)} {before : List MemPlace} {tb : TypeId} (hl : laidOutB P = true)
    (hr : (f.params.toList.all fun t => P.readableRec t && decide (t < P.types.size)) = true) (hres : f.resultTypes = #[tb]) (htb : P.underlying tb = some .bool) (hsv : s.vars = [])
    (hspec : s.fn H (ds ++ gs) = { results := [.lit (.bool true)], args := ds })
    (hW : DataW.Whole enc P f.params.toList s.vars false W args.toList ds gs before) (hb : Below W.heap.size W W') : s.post enc P f false true false false W args (.bool true) W' := by
  have hW' := hW
  obtain ⟨p, q, hA, hV, rfl, _, _⟩ := hW
  rw [hsv] at hV
  obtain ⟨rfl, rfl⟩ := trodVars_none hV
  have hlt : ∀ x ∈ p, x.block < W.heap.size := fun x hx => by simpa using hW'.lt x (by simpa using hx)
  refine ⟨ds, _, _, [] ++ [], p, [], hW', ?_, ?_, ?_, hb.frame _, fun h => by cases h⟩
  · rw [hspec, hres]
    exact trodAll_mk1 (shut_bool htb _)
  · rw [hspec]
    exact below_trodAll hl _ hr hA hb hlt
  · rw [hspec, hsv]
    rfl
end

section
variable {H : Type} {enc : TypeId × Value → H} {W : World}
set_option maxRecDepth 100000 in
/-- A party that came in. -/
theorem open_party {v : Value} {d : DataW H} {p : List MemPlace} {r : Reach} {b0 : Nat} (hv : Value.okWide Tryd.prog W r b0 26 v) (h : DataW.Trod enc Tryd.prog W 0 (fun _ => true) true 26 v d p) :
    ∃ (x : Int) (l : PL) (A : Option Addr) (c : Nat), v = .agg #[.int .i64 x, .slice A l.length c] ∧ l.length ≤ maxLen ∧ CRead W W.heap.size A (pcells l) := by
  obtain ⟨v0, v1, y0, y1, n, rfl, _, _, h0, h1⟩ := Joins.open_agg2 Tryd.underlying26 (by kernel_rfl) Tryd.cellsParty hv h
  obtain ⟨x, hx, _, _⟩ := DataW.trod_int Tryd.underlying3 h0
  simp only [List.cons.injEq, and_true] at hx
  subst hx
  rcases open_slice_pairs Tryd.underlying24 Tryd.underlying123 Tryd.cellsPair rfl rfl (by kernel_rfl) (by kernel_rfl) h1 with ⟨hcs, _⟩ | ⟨a, len, cap, m, n', V0, V1, D0, D1, P0, P1, hcs, _, hlc, hcm, hm, _, hall⟩
  · simp only [List.cons.injEq, and_true] at hcs
    subst hcs
    exact ⟨x, [], none, 0, rfl, Nat.zero_le _, CRead.nil⟩
  · simp only [List.cons.injEq, and_true] at hcs
    subst hcs
    have hm' : m = cap := by simpa using hm
    subst hm'
    have each : ∀ i, i < len → ∃ a0 a1 : Int, W.cell? (a.add (i * 2)) = some (.int .i64 a0) ∧ W.cell? (a.add (i * 2 + 1)) = some (.int .i64 a1) := by
      intro i hi
      obtain ⟨c0, c1, t0, t1⟩ := hall i (by omega)
      obtain ⟨a0, e0, _, _⟩ := DataW.trod_int Tryd.underlying3 t0
      obtain ⟨a1, e1, _, _⟩ := DataW.trod_int Tryd.underlying3 t1
      simp only [List.cons.injEq, and_true] at e0 e1
      exact ⟨a0, a1, by rw [c0, e0], by rw [c1, e1]⟩
    let num : Option Value → Int := fun | some (.int _ z) => z | _ => 0
    let l : PL := (List.range len).map fun i => (num (W.cell? (a.add (i * 2))), num (W.cell? (a.add (i * 2 + 1))))
    have hll : l.length = len := by simp [l]
    refine ⟨x, l, some a, m, by rw [hll], by rw [hll]; omega, ?_⟩
    intro j u hu
    have hjl : j < (pcells l).length := (List.getElem?_eq_some_iff.1 hu).1
    rw [pcells_length, hll] at hjl
    have hi : j / 2 < len := by omega
    obtain ⟨a0, a1, c0, c1⟩ := each (j / 2) hi
    have hl : l[j / 2]? = some (a0, a1) := by simp [l, hi, c0, c1, num]
    obtain ⟨z0, _, cz, _⟩ := each 0 (by omega)
    have hspot : a.spot = none := by simpa [Addr.add] using World.cell?_spot cz
    obtain ⟨b, off, sp⟩ := a
    simp only at hspot
    subst hspot
    have hb : b < W.heap.size := by
      have := World.block_lt_of_cell? W _ cz
      simpa [Addr.add] using this
    refine ⟨b, off, rfl, hb, ?_⟩
    rw [add_plain] at c0 c1
    rcases Nat.mod_two_eq_zero_or_one j with h2 | h2
    · have e : j = j / 2 * 2 := by omega
      have e2 := pcells_fst hl
      rw [← e] at e2 c0
      rw [hu] at e2
      rw [c0, e2]
    · have e : j = j / 2 * 2 + 1 := by omega
      have e2 := pcells_snd hl
      rw [← e] at e2 c1
      rw [hu] at e2
      rw [c1, e2]
end
end Go.Proofs.YtefkcfkicmfhlaaDoor
/-
  A CLUE, A PUZZLE THAT CAME IN, opened.
-/
namespace Go.Proofs.YtefkcfkicmfhlaaDoor
open Go.ChangeShapes Go.WideShapes Go.ChangeAt Go.RowKit Go.Deep

theorem Tryd.cellsClue : Tryd.prog.cellsOf 23 = 3 := by kernel_rfl
theorem Tryd.cellsPuzzle : Tryd.prog.cellsOf 40 = 2 := by kernel_rfl
section
variable {H : Type} {enc : TypeId × Value → H} {W : World}
set_option maxRecDepth 100000 in
/-- A clue that came in. -/
theorem open_clue {v : Value} {d : DataW H} {p : List MemPlace} {r : Reach} {b0 : Nat} (hv : Value.okWide Tryd.prog W r b0 23 v) (h : DataW.Trod enc Tryd.prog W 0 (fun _ => true) true 23 v d p) :
    ∃ x y z : Int, v = .agg #[.int .i64 x, .int .i64 y, .int .i64 z] := by
  obtain ⟨v0, v1, v2, y0, y1, y2, n, rfl, _, _, h0, h1, h2⟩ := Joins.open_agg3 Tryd.underlying23 (by kernel_rfl) Tryd.cellsClue hv h
  obtain ⟨x, hx, _, _⟩ := DataW.trod_int Tryd.underlying3 h0
  obtain ⟨y, hy, _, _⟩ := DataW.trod_int Tryd.underlying3 h1
  obtain ⟨z, hz, _, _⟩ := DataW.trod_int Tryd.underlying3 h2
  simp only [List.cons.injEq, and_true] at hx hy hz
  subst hx hy hz
  exact ⟨x, y, z, rfl⟩
set_option maxRecDepth 100000 in
/-- A puzzle that came in. -/
theorem open_puzzle {v : Value} {d : DataW H} {p : List MemPlace} {r : Reach} {b0 : Nat} (hv : Value.okWide Tryd.prog W r b0 40 v) (h : DataW.Trod enc Tryd.prog W 0 (fun _ => true) true 40 v d p) :
    ∃ (x : Int) (l : CL) (A : Option Addr) (c : Nat), v = .agg #[.int .i64 x, .slice A l.length c] ∧ l.length ≤ maxLen ∧ CRead W W.heap.size A (ccells l) := by
  obtain ⟨v0, v1, y0, y1, n, rfl, _, _, h0, h1⟩ := Joins.open_agg2 Tryd.underlying40 (by kernel_rfl) Tryd.cellsPuzzle hv h
  obtain ⟨x, hx, _, _⟩ := DataW.trod_int Tryd.underlying3 h0
  simp only [List.cons.injEq, and_true] at hx
  subst hx
  rcases open_slice Tryd.underlying38 h1 with ⟨hcs, _⟩ | ⟨a, len, cap, m, n', D, Pl, hcs, _, hlc, hcm, hm, _, hall⟩
  · simp only [List.cons.injEq, and_true] at hcs
    subst hcs
    exact ⟨x, [], none, 0, rfl, Nat.zero_le _, CRead.nil⟩
  · simp only [List.cons.injEq, and_true] at hcs
    subst hcs
    have hm' : m = cap := by simpa using hm
    subst hm'
    have each : ∀ i, i < len → ∃ a0 a1 a2 : Int, W.cell? (a.add (i * 3)) = some (.int .i64 a0) ∧ W.cell? (a.add (i * 3 + 1)) = some (.int .i64 a1) ∧ W.cell? (a.add (i * 3 + 2)) = some (.int .i64 a2) := by
      intro i hi
      obtain ⟨cs', h1, h2⟩ := hall i (by omega)
      rw [Tryd.cellsClue] at h1
      obtain ⟨_, hlen, hcell⟩ := World.cells?_some h1
      obtain ⟨y0, y1, y2, n, _, _, g0, g1, g2⟩ := trod_struct3 Tryd.underlying23 h2
      match cs', hlen with
      | [w0, w1, w2], _ =>
        obtain ⟨a0, e0, _, _⟩ := DataW.trod_int Tryd.underlying3 g0
        obtain ⟨a1, e1, _, _⟩ := DataW.trod_int Tryd.underlying3 g1
        obtain ⟨a2, e2, _, _⟩ := DataW.trod_int Tryd.underlying3 g2
        simp [Tryd.cellsInt] at e0 e1 e2
        have c0 := hcell 0 (by omega)
        have c1 := hcell 1 (by omega)
        have c2 := hcell 2 (by omega)
        rw [add_add] at c0 c1 c2
        subst e0 e1 e2
        exact ⟨a0, a1, a2, by simpa using c0, by simpa using c1, by simpa using c2⟩
    let num : Option Value → Int := fun | some (.int _ z) => z | _ => 0
    let l : CL := (List.range len).map fun i => (num (W.cell? (a.add (i * 3))), num (W.cell? (a.add (i * 3 + 1))), num (W.cell? (a.add (i * 3 + 2))))
    have hll : l.length = len := by simp [l]
    refine ⟨x, l, some a, m, by rw [hll], by rw [hll]; omega, ?_⟩
    intro j u hu
    have hjl : j < (ccells l).length := (List.getElem?_eq_some_iff.1 hu).1
    rw [ccells_length, hll] at hjl
    have hi : j / 3 < len := by omega
    obtain ⟨a0, a1, a2, c0, c1, c2⟩ := each (j / 3) hi
    have hl : l[j / 3]? = some (a0, a1, a2) := by simp [l, hi, c0, c1, c2, num]
    obtain ⟨z0, _, _, cz, _⟩ := each 0 (by omega)
    have hspot : a.spot = none := by simpa [Addr.add] using World.cell?_spot cz
    obtain ⟨b, off, sp⟩ := a
    simp only at hspot
    subst hspot
    have hb : b < W.heap.size := by
      have := World.block_lt_of_cell? W _ cz
      simpa [Addr.add] using this
    refine ⟨b, off, rfl, hb, ?_⟩
    rw [add_plain] at c0 c1 c2
    rcases (show j % 3 = 0 ∨ j % 3 = 1 ∨ j % 3 = 2 by omega) with h2 | h2 | h2
    · have e : j = j / 3 * 3 := by omega
      have e2 := ccells_at0 hl
      rw [← e] at e2 c0
      rw [hu] at e2
      rw [c0, e2]
    · have e : j = j / 3 * 3 + 1 := by omega
      have e2 := ccells_at1 hl
      rw [← e] at e2 c1
      rw [hu] at e2
      rw [c1, e2]
    · have e : j = j / 3 * 3 + 2 := by omega
      have e2 := ccells_at2 hl
      rw [← e] at e2 c2
      rw [hu] at e2
      rw [c2, e2]
end
end Go.Proofs.YtefkcfkicmfhlaaDoor
/-
  THE PROGRAM's HEAD, LOOKED AT ONCE: which make it is, and that a call may enter it. (The head's text is long: the kernel must not read it twice.)
-/
namespace Go.Proofs.YtefkcfkicmfhlaaDoor

theorem make_of {P : Program} {rest : List (List Char)} (h : behindMainWord (wordsSigns P.initOrder.toList) = "cut".toList :: rest) : P.make = some .cut := by
  unfold Program.make
  rw [h]
  rfl
theorem strip_cut (rest : List (List Char)) : stripLifts liftWords ("cut".toList :: rest) = ([], "cut".toList :: rest) := rfl
theorem lifts_of {P : Program} {rest : List (List Char)} (h : behindMainWord (wordsSigns P.initOrder.toList) = "cut".toList :: rest) : P.headLifts = [] := by
  unfold Program.headLifts
  rw [h, strip_cut]
  rfl
theorem final_of {P : Program} {rest : List (List Char)} (h : behindMainWord (wordsSigns P.initOrder.toList) = "cut".toList :: rest) : P.liftsFinal = false := by
  unfold Program.liftsFinal
  rw [lifts_of h, h]
  rfl
theorem enter_of {P : Program} {rest : List (List Char)} (h : behindMainWord (wordsSigns P.initOrder.toList) = "cut".toList :: rest) (h1 : P.laysLater = false) (h2 : P.bearsReflect = false) (h3 : P.doorFits [] = true) : P.mayEnter = true := by
  unfold Program.mayEnter
  rw [h]
  show (_ || _ || _) = true
  rw [strip_cut, h1, h2, h3]
  rfl
end Go.Proofs.YtefkcfkicmfhlaaDoor
/-
  THE PROGRAM's CLOSED FACTS, EACH ONCE; and how a row's facts are put together out of them.
-/
namespace Go.Proofs.YtefkcfkicmfhlaaDoor
open Go.ChangeShapes Go.WideShapes Go.ChangeAt Go.RowKit

def headSigns : List Char := ([104, 97, 114, 110, 101, 115, 115, 32, 97, 101, 56, 97, 49, 56, 100, 99, 57, 54, 51, 101, 49, 53, 98, 50, 55, 55, 50, 49, 48, 98, 56, 102, 54, 97, 57, 100, 99, 53, 49, 57, 102, 99, 97, 100, 49, 101, 55, 56, 100, 55, 102, 54, 99, 53, 48, 50, 50, 48, 53, 54, 53, 100, 101, 51, 48, 100, 48, 97, 102, 56, 49, 49, 32, 99, 117, 116, 32, 97, 116, 32, 108, 111, 111, 112, 46, 101, 120, 97, 109, 112, 108, 101, 47, 103, 48, 49, 50, 53, 55, 47, 108, 97, 119, 115, 46, 70, 110, 69, 120, 97, 99, 116, 68, 111, 101, 115, 70, 105, 116, 32, 108, 111, 111, 112, 46, 101, 120, 97, 109, 112, 108, 101, 47, 103, 48, 49, 50, 53, 55, 47, 108, 97, 119, 115, 46, 70, 110, 69, 120, 97, 99, 116, 83, 111, 108, 117, 116, 105, 111, 110, 115, 32, 108, 111, 111, 112, 46, 101, 120, 97, 109, 112, 108, 101, 47, 103, 48, 49, 50, 53, 55, 47, 108, 97, 119, 115, 46, 70, 110, 69, 120, 97, 99, 116, 67, 111, 117, 110, 116, 83, 111, 108, 117, 116, 105, 111, 110, 115, 32, 108, 111, 111, 112, 46, 101, 120, 97, 109, 112, 108, 101, 47, 103, 48, 49, 50, 53, 55, 47, 108, 97, 119, 115, 46, 70, 110, 69, 120, 97, 99, 116, 70, 105, 114, 115, 116, 83, 111, 108, 117, 116, 105, 111, 110, 32, 108, 111, 111, 112, 46, 101, 120, 97, 109, 112, 108, 101, 47, 103, 48, 49, 50, 53, 55, 47, 108, 97, 119, 115, 46, 70, 110, 69, 120, 97, 99, 116, 83, 117, 114, 101, 80, 97, 105, 114, 115, 32, 108, 111, 111, 112, 46, 101, 120, 97, 109, 112, 108, 101, 47, 103, 48, 49, 50, 53, 55, 47, 108, 97, 119, 115, 46, 70, 110, 69, 120, 97, 99, 116, 83, 117, 114, 101, 83, 116, 114, 97, 110, 103, 101, 114, 115, 32, 108, 111, 111, 112, 46, 101, 120, 97, 109, 112, 108, 101, 47, 103, 48, 49, 50, 53, 55, 47, 108, 97, 119, 115, 46, 70, 110, 69, 120, 97, 99, 116, 73, 115, 83, 111, 108, 118, 101, 100, 32, 108, 111, 111, 112, 46, 101, 120, 97, 109, 112, 108, 101, 47, 103, 48, 49, 50, 53, 55, 47, 108, 97, 119, 115, 46, 70, 110, 69, 120, 97, 99, 116, 78, 101, 101, 100, 108, 101, 115, 115, 67, 108, 117, 101, 115, 32, 108, 111, 111, 112, 46, 101, 120, 97, 109, 112, 108, 101, 47, 103, 48, 49, 50, 53, 55, 47, 108, 97, 119, 115, 46, 70, 110, 69, 120, 97, 99, 116, 76, 101, 102, 116, 66, 121, 67, 108, 117, 101, 115, 32, 108, 111, 111, 112, 46, 101, 120, 97, 109, 112, 108, 101, 47, 103, 48, 49, 50, 53, 55, 47, 108, 97, 119, 115, 46, 70, 110, 69, 120, 97, 99, 116, 72, 97, 114, 100, 101, 114, 80, 117, 122, 122, 108, 101, 32, 108, 111, 111, 112, 46, 101, 120, 97, 109, 112, 108, 101, 47, 103, 48, 49, 50, 53, 55, 47, 108, 97, 119, 115, 46, 70, 110, 69, 120, 97, 99, 116, 77, 97, 107, 101, 80, 117, 122, 122, 108, 101, 32, 108, 111, 111, 112, 46, 101, 120, 97, 109, 112, 108, 101, 47, 103, 48, 49, 50, 53, 55, 47, 108, 97, 119, 115, 46, 70, 110, 69, 120, 97, 99, 116, 80, 117, 122, 122, 108, 101, 84, 101, 120, 116, 32, 108, 111, 111, 112, 46, 101, 120, 97, 109, 112, 108, 101, 47, 103, 48, 49, 50, 53, 55, 47, 108, 97, 119, 115, 46, 70, 110, 69, 120, 97, 99, 116, 80, 97, 114, 115, 101, 80, 117, 122, 122, 108, 101] : List Nat).map Char.ofNat
set_option maxRecDepth 100000 in
theorem Tryd.initOrder_is : Tryd.prog.initOrder = String.ofList headSigns := by kernel_rfl
theorem Tryd.initOrder_signs : Tryd.prog.initOrder.toList = headSigns := by rw [Tryd.initOrder_is]; exact String.toList_ofList
set_option maxRecDepth 100000 in
theorem head_words : (behindMainWord (wordsSigns headSigns)).take 1 = ["cut".toList] := by kernel_rfl
theorem Tryd.words : ∃ rest, behindMainWord (wordsSigns Tryd.prog.initOrder.toList) = "cut".toList :: rest := by
  rw [Tryd.initOrder_signs]
  have h := List.take_append_drop 1 (behindMainWord (wordsSigns headSigns))
  rw [head_words] at h
  exact ⟨_, h.symm⟩
theorem Tryd.make : Tryd.prog.make = some .cut := by obtain ⟨_, h⟩ := Tryd.words; exact make_of h
theorem Tryd.liftsFinal : Tryd.prog.liftsFinal = false := by obtain ⟨_, h⟩ := Tryd.words; exact final_of h
theorem Tryd.laysLater : Tryd.prog.laysLater = false := by kernel_rfl
theorem Tryd.bearsReflect : Tryd.prog.bearsReflect = false := by kernel_rfl
theorem Tryd.doorFits : Tryd.prog.doorFits [] = true := by kernel_rfl
theorem Tryd.mayEnter : Tryd.prog.mayEnter = true := by obtain ⟨_, h⟩ := Tryd.words; exact enter_of h Tryd.laysLater Tryd.bearsReflect Tryd.doorFits
theorem Tryd.mapsRowed : mapsRowed Tryd.prog = true := by kernel_rfl
theorem Tryd.stops : (Tryd.prog.stops == []) = true := by kernel_rfl
theorem Tryd.stopKnobs : (Tryd.prog.stopKnobs == []) = true := by kernel_rfl
theorem Tryd.plainKeys : Tryd.prog.plainKeys = true := by kernel_rfl
theorem Tryd.stopsHeard : Tryd.prog.stopsHeard = true := by kernel_rfl

/-- What the types of one law give: closed facts on its parameters and its result. -/
def typeFacts (P : Program) (fn : Func) (s : ChangeSpec) (c : OpenClaim) : Bool :=
  fn.params.all (P.readableRec ·) && namedTie P c.named s.vars && (c.stops == []) && (c.knobs == []) &&
  (c.maps == (fn.params.toList ++ s.plain.varTypes P).any (P.mapsRec ·)) && (c.ifaces == (fn.params.toList ++ s.plain.varTypes P).any (P.ifacesRec ·)) && (c.mapsOut == P.mapsAmong fn.resultTypes.toList) &&
  (c.loops == (fn.params.toList ++ s.plain.varTypes P).any (P.loopsFrom ·)) && (c.wideKeys == (fn.params.toList ++ s.plain.varTypes P ++ fn.resultTypes.toList).any (P.wideKeysFrom ·)) &&
  s.vars.all (P.varReadable ·) && fn.resultTypes.all (fun t => P.readableRec t && decide (t < P.types.size)) && (c.ifacesOut == fn.resultTypes.toList.any (P.ifacesRec ·)) && (c.loopsOut == fn.resultTypes.toList.any (P.loopsFrom ·)) && c.shortTexts.isNone &&
  (c.kinds == (if c.domain.isEmpty then [] else fn.params.toList.map fun t => match P.underlying t with | some (.int k) => some k | _ => none)) && (c.pinned == c.pinnedBy) &&
  (c.veiled == (fn.params.toList ++ s.plain.varTypes P ++ fn.resultTypes.toList).any (P.veiledRec ·)) && c.veiledFits P fn.params.toList (fn.params.toList ++ s.plain.varTypes P ++ fn.resultTypes.toList)
theorem joined_all {P : Program} {f : FuncId} {fn : Func} {s : ChangeSpec} {c : OpenClaim} (k1 : c.wf (OpenSpec.ofChange s) = true) (kt : typeFacts P fn s c = true)
    (k10 : (c.inPlace == P.inPlace f) = true) (k11 : (c.unfollowed == P.unfollowed f) = true) (k12 : (c.recurses == P.recurses f) = true) (k13 : (c.named == P.varsNamed f) = true)
    (e2 : laidOutB P = true) (e3 : mapsRowed P = true) (e7 : (P.stops == []) = true) (e9 : (P.stopKnobs == []) = true) (e22 : (c.plainKeys == P.plainKeys) = true) (e23 : P.stopsHeard = true) (e24 : P.mayEnter = true)
    (e24b : (c.lifted == P.liftsFinal) = true) (e24c : (P.make == some c.make) = true) : joinedFacts P f fn s c = true := by
  unfold typeFacts at kt
  unfold joinedFacts
  simp only [Bool.and_eq_true] at kt ⊢
  obtain ⟨⟨⟨⟨⟨⟨⟨⟨⟨⟨⟨⟨⟨⟨⟨⟨⟨t1, t2⟩, t3⟩, t4⟩, t5⟩, t6⟩, t7⟩, t8⟩, t9⟩, t10⟩, t11⟩, t12⟩, t13⟩, t14⟩, t15⟩, t16⟩, t17⟩, t18⟩ := kt
  exact ⟨⟨⟨⟨⟨⟨⟨⟨⟨⟨⟨⟨⟨⟨⟨⟨⟨⟨⟨⟨⟨⟨⟨⟨⟨⟨⟨⟨⟨⟨⟨k1, e2⟩, e3⟩, t1⟩, t2⟩, t3⟩, e7⟩, t4⟩, e9⟩, k10⟩, k11⟩, k12⟩, k13⟩, t5⟩, t6⟩, t7⟩, t8⟩, t9⟩, t10⟩, t11⟩, t12⟩, t13⟩, e22⟩, t14⟩, e23⟩, e24⟩, e24b⟩, e24c⟩, t15⟩, t16⟩, t17⟩, t18⟩
theorem joined_of {f : FuncId} {fn : Func} {s : ChangeSpec} {c : OpenClaim} (k1 : c.wf (OpenSpec.ofChange s) = true) (kt : typeFacts Tryd.prog fn s c = true)
    (k10 : (c.inPlace == Tryd.prog.inPlace f) = true) (k11 : (c.unfollowed == Tryd.prog.unfollowed f) = true) (k12 : (c.recurses == Tryd.prog.recurses f) = true) (k13 : (c.named == Tryd.prog.varsNamed f) = true)
    (k22 : c.plainKeys = true) (k24b : c.lifted = false) (k24c : c.make = .cut) : joinedFacts Tryd.prog f fn s c = true :=
  joined_all k1 kt k10 k11 k12 k13 Tryd.laidOut Tryd.mapsRowed Tryd.stops Tryd.stopKnobs (by rw [k22, Tryd.plainKeys]; rfl) Tryd.stopsHeard Tryd.mayEnter (by rw [k24b, Tryd.liftsFinal]; rfl) (by rw [k24c, Tryd.make]; rfl)
end Go.Proofs.YtefkcfkicmfhlaaDoor
/-
  THE DOOR SEAT's CONDITION: the library's table lies in its variable: what a walk reads of it, and a world that meets it.
-/
namespace Go.Proofs.YtefkcfkicmfhlaaDoor
open Go.RowKit

def tabInts : List Int := Lib.deBruijn32tab.map fun n : Nat => (n : Int)
theorem Tryd.tabGlobal : Tryd.prog.globalNamed "math/bits.deBruijn32tab" = some 4 := by kernel_rfl
theorem Tryd.tabType : (Tryd.prog.globals[4]?).map (·.type) = some 228 := by kernel_rfl
theorem Tryd.tabCells : Tryd.prog.cellsOf 228 = 32 := by kernel_rfl
theorem Tryd.byteCells : Tryd.prog.cellsOf 5 = 1 := by kernel_rfl
theorem tabInts_at : ∀ i : Fin 32, tabInts.getD i.val 0 = ((Lib.deBruijn32tab.getD i.val 0 : Nat) : Int) := by decide
theorem tab_of_laid {W : World} (h : laidMetH Tryd.prog [("math/bits.deBruijn32tab", Rows.laid_math_bits_deBruijn32tab)] W) : TabW W := by
  have h' : laidMet Tryd.prog (("math/bits.deBruijn32tab", Lib.tabData .u8 tabInts) :: []) W := h
  have ht := Lib.tabIs_of_head Tryd.tabGlobal Tryd.tabType Tryd.underlying228 Tryd.underlying5 Tryd.byteCells Tryd.tabCells h'
  intro j hj
  rw [ht.cell Tryd.tabGlobal j (by simpa [tabInts, Lib.deBruijn32tab] using hj), tabInts_at ⟨j, hj⟩]

/-- A world that meets the condition. -/
noncomputable def laidWorld (os : Os) : World :=
  let w0 := World.holding Tryd.prog os ⟨#[], #[], []⟩
  { w0 with heap := w0.heap.modify 4 fun
      | .cells _ t frozen => .cells (tabInts.map fun z => Value.int .u8 z).toArray t frozen
      | o => o }
theorem laidWorld_met (os : Os) (args : Array Value) : laidMetH Tryd.prog [("math/bits.deBruijn32tab", Rows.laid_math_bits_deBruijn32tab)] ((laidWorld os).forCall (fun _ _ => 0) ⟨#[], args, []⟩).memory :=
  laidMetH_of_parts (laidMet_of_run' 8 (by kernel_rfl) (by kernel_rfl)) (by kernel_rfl)
end Go.Proofs.YtefkcfkicmfhlaaDoor
/-
  A closed fact that the card of 'laws.FnExactDoesFit' asks.
-/
namespace Go.Proofs.YtefkcfkicmfhlaaDoor
open Go.RowKit
theorem lawDoesFit_main : Tryd.pinned.checked.prog.mainIs = some (Rows.fnExactDoesFitCard.stood.harness.1, Rows.fnExactDoesFitCard.stood.harness.2.toList) := by kernel_rfl
end Go.Proofs.YtefkcfkicmfhlaaDoor
/-
  A closed fact that the card of 'laws.FnExactDoesFit' asks.
-/
namespace Go.Proofs.YtefkcfkicmfhlaaDoor
open Go.RowKit
theorem lawDoesFit_goes : false = Rows.fnExactDoesFitRow.goesBy Tryd.pinned.checked.prog := by kernel_rfl
end Go.Proofs.YtefkcfkicmfhlaaDoor
