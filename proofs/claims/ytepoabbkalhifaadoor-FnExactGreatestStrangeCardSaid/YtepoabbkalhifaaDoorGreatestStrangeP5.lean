/-
  Texts put together for the claim of 'GreatestStrange' (pack 5): Tri, Clone, ThreesAt, Put, PutP, Up, GrowP, GrLook, OwnRow, GrowS, IterG, Great, Kinds, Join.
-/
import Derived.Test.YtepoabbkalhifaaDoorGreatestStrangeP1
import Derived.Test.YtepoabbkalhifaaDoorGreatestStrangeP2
import Derived.Test.YtepoabbkalhifaaDoorGreatestStrangeP3
import Derived.Test.YtepoabbkalhifaaDoorGreatestStrangeP4
import Derived.BigRegion
import Derived.BigQuiet
import Derived.Deep.RegionLaw
import Derived.Deep.DeepCutAuto
import Derived.Lib.SliceRun
import Derived.Deep.LoopGhost
import Derived.Deep.Slices
import Derived.WideShapes
import Derived.Laws.AppendOwnNone
import Derived.Deep.AppendLies
import Derived.Deep.RegionHeld3
import Derived.WalkSpells
/-
  'CountThrees': the model's and the program's, by their contracts.
-/
namespace Go.Proofs.YtepoabbkalhifaaDoor
open Go.RowKit

theorem threeB (x y z : Bool) (t : Nat → Nat → Bool) (a b c : Nat) (hx : t a b = x) (hy : t a c = y) (hz : t b c = z) : tri t a b c = (if x then 1 else 0) + (if y then 1 else 0) + (if z then 1 else 0) := by unfold tri; rw [hx, hy, hz]

def nthB (u1 u2 u3 : Bool) (j : Nat) : Bool := if j = 0 then u1 else if j = 1 then u2 else u3
def partB (u1 u2 u3 : Bool) (j : Nat) : Nat := (if 0 < j then (if u1 then 1 else 0) else 0) + (if 1 < j then (if u2 then 1 else 0) else 0) + (if 2 < j then (if u3 then 1 else 0) else 0)
theorem partB_succ (u1 u2 u3 : Bool) {j : Nat} (h : j < 3) : partB u1 u2 u3 (j + 1) = partB u1 u2 u3 j + (if nthB u1 u2 u3 j then 1 else 0) := by
  match j, h with
  | 0, _ => cases u1 <;> cases u2 <;> cases u3 <;> rfl
  | 1, _ => cases u1 <;> cases u2 <;> cases u3 <;> rfl
  | 2, _ => cases u1 <;> cases u2 <;> cases u3 <;> rfl
theorem partB_le (u1 u2 u3 : Bool) (j : Nat) : partB u1 u2 u3 j ≤ 3 := by
  unfold partB
  repeat' split
  all_goals omega
theorem nthB_cells (w : World) (ty : TypeId) (u1 u2 u3 : Bool) {j : Nat} (h : j < 3) : (w.alloc (Obj.cells #[.bool u1, .bool u2, .bool u3] ty)).cell? ⟨w.heap.size, j, none⟩ = some (.bool (nthB u1 u2 u3 j)) := by
  match j, h with
  | 0, _ => simp [nthB]
  | 1, _ => simp [nthB]
  | 2, _ => simp [nthB]

set_option maxHeartbeats 8000000 in
set_option maxRecDepth 100000 in
theorem strangersIn_any (p : Int) (l : PL) (A : Option Addr) (c : Nat) (w : World) (hp : isP p l = true) (hA : CRead w w.heap.size A (pcells l)) :
    Calls Tryd.prog 63 #[.agg #[.int .i64 p, .slice A l.length c]] w fun e w' => e = .returned (.agg (tcells (missT (friendsT l) p.toNat))) ∧ Below w.heap.size w w' := by
  obtain ⟨n, rfl⟩ : ∃ n : Nat, p = n := ⟨p.toNat, by have := isP_range hp; omega⟩
  have hn := isP_range hp
  have hn12 : n ≤ 12 := by omega
  rw [Int.toNat_natCast]
  have hT := friendsT_of hp
  have h1 := fun (X : World) => missing_any (friendsT l) hT.lt n hn12 X
  obtain ⟨M, hM⟩ : ∃ M, missT (friendsT l) n = M := ⟨_, rfl⟩
  simp only [hM] at h1 ⊢
  obtain ⟨F, hF⟩ : ∃ F, friendsT l = F := ⟨_, rfl⟩
  have h2 := fun (X : World) (hX : CRead X X.heap.size A (pcells l)) => friendsIn_any n l A c X hp hX
  simp only [hF] at h1 h2
  have H1 := Lib.hid h1
  have H2 := Lib.hid h2
  have Hp := Lib.hid hp
  clear hp hT h1 h2 hM hF
  go_enter Tryd.func63, Tryd.ntmps63
  go_wp2
  obtain ⟨W, hW⟩ : ∃ W, (w.alloc (Obj.cells #[.int .i64 (n : Int), .slice A l.length c] 50)).alloc (Obj.cells #[.int .u16 0, .int .u16 0, .int .u16 0, .int .u16 0, .int .u16 0, .int .u16 0, .int .u16 0, .int .u16 0, .int .u16 0, .int .u16 0, .int .u16 0, .int .u16 0] 64) = W := ⟨_, rfl⟩
  have kW : Below w.heap.size w W := by rw [← hW]; go_grown
  have zW : W.heap.size = w.heap.size + 2 := by rw [← hW]; simp
  have p0 : W.cell? ⟨w.heap.size, 0, none⟩ = some (.int .i64 n) := by rw [← hW]; exact (World.cell?_alloc_lt _ _ _ (by simp)).trans (by simp)
  have p1 : W.cell? ⟨w.heap.size, 1, none⟩ = some (.slice A l.length c) := by rw [← hW]; exact (World.cell?_alloc_lt _ _ _ (by simp)).trans (by simp)
  have rowR : W.rowIs (w.heap.size + 1) 64 12 (fun _ => .int .u16 0) := by
    rw [← hW]
    have := rowIs_u16 (w.alloc (Obj.cells #[.int .i64 (n : Int), .slice A l.length c] 50)) (fun _ => 0) 64
    simp only [World.size_alloc] at this
    exact this
  rw [hW]
  clear hW
  have RR := Lib.hid rowR
  have zW1 : w.heap.size + 1 < W.heap.size := by omega
  have zW2 : w.heap.size ≤ W.heap.size := by omega
  clear rowR zW
  unfold tcells at H1 H2
  go_region_law (first
    | (go_simp; go_at_call 59; refine (H2.out _ ((hA.below kW.drew (Nat.le_refl _)).more zW2)).mono ?_; rintro e w3 ⟨rfl, _, hb3⟩; have g3 : Below W.heap.size W w3 := (Below.refl _ _).drew.trans hb3; have y0 := carry g3 p0 (by omega); have y1 := carry g3 p1 (by omega); have s3 := g3.size; have k3 := kW.trans (g3.mono kW.size))
    | (go_simp; go_at_call 91; refine (H1.out w3).mono ?_; rintro e w4 ⟨rfl, hb4⟩; have s4 := hb4.size; have k4 := k3.trans (hb4.mono k3.size); have row4 := RR.out.of_block ((hb4.block (w.heap.size + 1) (by omega)).trans (g3.block (w.heap.size + 1) (by omega))); have r0 := row4.cell (i := 0) (by omega); have r1 := row4.cell (i := 1) (by omega); have r2 := row4.cell (i := 2) (by omega); have r3 := row4.cell (i := 3) (by omega); have r4 := row4.cell (i := 4) (by omega); have r5 := row4.cell (i := 5) (by omega); have r6 := row4.cell (i := 6) (by omega); have r7 := row4.cell (i := 7) (by omega); have r8 := row4.cell (i := 8) (by omega); have r9 := row4.cell (i := 9) (by omega); have r10 := row4.cell (i := 10) (by omega); have r11 := row4.cell (i := 11) (by omega); have e0 := row4.frozen 0; have e1 := row4.frozen 1; have e2 := row4.frozen 2; have e3 := row4.frozen 3; have e4 := row4.frozen 4; have e5 := row4.frozen 5; have e6 := row4.frozen 6; have e7 := row4.frozen 7; have e8 := row4.frozen 8; have e9 := row4.frozen 9; have e10 := row4.frozen 10; have e11 := row4.frozen 11; clear row4)
    | fail)
  all_goals
    have K4 := Lib.hid k4
    clear k4 k3 kW g3 hb3 hb4 y0 y1 p0 p1
    go_wp2
    refine bodyPost_ret (v := .agg #[.int .u16 (M 0), .int .u16 (M 1), .int .u16 (M 2), .int .u16 (M 3), .int .u16 (M 4), .int .u16 (M 5), .int .u16 (M 6), .int .u16 (M 7), .int .u16 (M 8), .int .u16 (M 9), .int .u16 (M 10), .int .u16 (M 11)]) (by simp [results, Tryd.results63, go_sem, r0, r1, r2, r3, r4, r5, r6, r7, r8, r9, r10, r11]) rfl ?_
    exact ⟨rfl, ((((((((((((K4.out.setCell (p := ⟨w.heap.size + 1, 0, none⟩) (by simp) _).setCell (p := ⟨w.heap.size + 1, 1, none⟩) (by simp) _).setCell (p := ⟨w.heap.size + 1, 2, none⟩) (by simp) _).setCell (p := ⟨w.heap.size + 1, 3, none⟩) (by simp) _).setCell (p := ⟨w.heap.size + 1, 4, none⟩) (by simp) _).setCell (p := ⟨w.heap.size + 1, 5, none⟩) (by simp) _).setCell (p := ⟨w.heap.size + 1, 6, none⟩) (by simp) _).setCell (p := ⟨w.heap.size + 1, 7, none⟩) (by simp) _).setCell (p := ⟨w.heap.size + 1, 8, none⟩) (by simp) _).setCell (p := ⟨w.heap.size + 1, 9, none⟩) (by simp) _).setCell (p := ⟨w.heap.size + 1, 10, none⟩) (by simp) _).setCell (p := ⟨w.heap.size + 1, 11, none⟩) (by simp) _)⟩
end Go.Proofs.YtepoabbkalhifaaDoor
/-
  slices.Clone of pairs and of numbers, by its contracts, at every address.
-/
namespace Go.Proofs.YtepoabbkalhifaaDoor
open Go.RowKit

theorem read_add_P {w : World} {B : Nat} {a : Addr} {l : PL} (h : CRead w B (some a) (pcells l)) : ∀ j u, (pcells l)[j]? = some u → w.cell? (a.add j) = some u := by
  intro j u hj
  obtain ⟨b, off, e, _, hc⟩ := h j u hj
  simp only [Option.some.injEq] at e
  subst e
  rw [Go.WideShapes.add_plain]
  exact hc
theorem read_add_I {w : World} {B : Nat} {a : Addr} {l : List Int} (h : CRead w B (some a) (icells l)) : ∀ j u, (icells l)[j]? = some u → w.cell? (a.add j) = some u := by
  intro j u hj
  obtain ⟨b, off, e, _, hc⟩ := h j u hj
  simp only [Option.some.injEq] at e
  subst e
  rw [Go.WideShapes.add_plain]
  exact hc
set_option maxHeartbeats 1000000 in
set_option maxRecDepth 100000 in
theorem cloneI_any (l : List Int) (A : Option Addr) (c : Nat) (w : World) (hl : l.length ≤ 1048576) (hA : CRead w w.heap.size A (icells l)) :
    Calls Tryd.prog 75 #[.slice A l.length c] w fun e w' => ∃ A' c', e = .returned (.slice A' l.length c') ∧ w'.ownsRow w.heap.size 3 1 (.slice A' l.length c') l.length (icells l) ∧ Below w.heap.size w w' := by
  obtain ⟨i0, hi, hz0, hz1, hz2⟩ := info_parts Tryd.infoInt
  have q22 : ∀ (w : World) (a : Option Addr) (n c n' c' : Nat), (binOp .eql 22 (.slice a n c) (.slice none n' c')).run Tryd.prog w = .ok (.bool a.isNone) w := fun w a n c n' c' => Lib.run_eql_slice_nil w _ _ a n c n' c' Tryd.underlying22
  have u22 : ∀ w, Sem.run Tryd.prog (underlying 22) w = .ok (TypeDesc.slice 3) w := run_underlying Tryd.underlying22
  cases A with
  | none =>
    have hq : l = [] := by
      cases l with
      | nil => rfl
      | cons x l =>
        obtain ⟨b, off, e, _⟩ := hA 0 _ (by simp [icells]; rfl)
        cases e
    subst hq
    go_enter Tryd.func75, Tryd.ntmps75
    go_wp2
    go_ret
    exact ⟨none, 0, rfl, World.ownsRow_nil _ _ _ _, Below.refl _ _⟩
  | some a =>
    have hc := read_add_I hA
    have H : Aside (∀ j u, (icells l)[j]? = some u → w.cell? (a.add j) = some u) := hc
    clear hc hA
    go_enter Tryd.func75, Tryd.ntmps75
    go_wp2_with (at_builtin; refine wpList_append_own _ rfl _ _ 22 rfl w.heap.size 3 i0 (.int .i64 0) 1 8 Tryd.underlying22 hi hz0 hz1 hz2 rfl (by decide) _ _ _ rfl (World.ownsRow_made w #[] 0 (Nat.le_refl _) (Nat.zero_le _) rfl) a l.length c (icells l) rfl ?qc1 ?qc2 ?qc3 ?qc4 ?qc5 ?qc6 ?_)
    case qc1 => rw [icells_length, Nat.mul_one]
    case qc2 =>
      intro j u hj
      exact Lib.cell?_alloc_some _ (H.out j u hj)
    case qc3 => exact icells_one l
    case qc4 => unfold maxLen; omega
    case qc5 => omega
    case qc6 => simp
    intro v' w1 hown hgrow _

    obtain ⟨A1, c1, rfl, _⟩ := own_shape hown
    go_wp2
    go_ret
    exact ⟨A1, c1, rfl, hown, ((Below.refl _ w).alloc (Nat.le_refl _) _).grown hgrow (by simp) (by intro k hk; simp [Value.ownBlock] at hk; omega)⟩
end Go.Proofs.YtepoabbkalhifaaDoor
/-
  'ThreesAt': the model's and the program's, by their contracts.
-/
namespace Go.Proofs.YtepoabbkalhifaaDoor
open Go.RowKit

theorem adj_of {n : Nat} {l : PL} (h : isP n l = true) {a b : Nat} (hab : adj l a b = true) : a < n ∧ b < n ∧ a ≠ b := by
  have hl := (isP_list h).2.2.1
  unfold adj at hab
  simp only [Bool.or_eq_true, List.contains_iff_mem] at hab
  rcases hab with hab | hab
  · have := hl _ hab; simp only at this; omega
  · have := hl _ hab; simp only at this; omega
theorem adj_self {n : Nat} {l : PL} (h : isP n l = true) (a : Nat) : adj l a a = false := by
  cases e : adj l a a with
  | false => rfl
  | true => exact absurd rfl (adj_of h e).2.2
theorem friends_set {n : Nat} {l : PL} (h : isP n l = true) {T : Nat → Nat} (hT : TiesOf T (adj l)) {a : Nat} (ha : a < n) : IsSet (T a) ((List.range n).filter (adj l a)) := by
  have hn := isP_range h
  refine ⟨List.pairwise_lt_range.filter _, fun b hb => by have := List.mem_range.1 (List.mem_filter.1 hb).1; omega, fun b => ?_⟩
  rw [List.mem_filter, List.mem_range]
  by_cases hb : b < 16
  · rw [hT.bit a b (by omega) hb]
    exact ⟨fun e => ⟨(adj_of h e).2.1, e⟩, fun e => e.2⟩
  · have : (T a).testBit b = false := Nat.testBit_lt_two_pow (Nat.lt_of_lt_of_le (hT.lt a (by omega)) (Nat.pow_le_pow_right (n := 2) (i := 16) (by omega) (by omega)))
    rw [this]
    simp
    omega
def threesAtN (n : Nat) (l : PL) (a : Nat) : Nat := hasN (groupsL n l 3) a
theorem threesAt_eq {n : Nat} {l : PL} (h : isP n l = true) {a : Nat} (ha : a < n) : (listsC (adj l) 2 [] ((List.range n).filter (adj l a))).length = threesAtN n l a := by
  unfold threesAtN groupsL
  rw [hasN_listsC (adj_comm l) (adj_self h a) 2 [] _ List.pairwise_lt_range (List.mem_range.2 ha) (by simp)]
def resThreesAt (p : Int) (l : PL) (a : Int) : Int × Bool := if isP p l && isMan p a then (threesAtN p.toNat l a.toNat, true) else (0, false)

end Go.Proofs.YtepoabbkalhifaaDoor
/-
  'spec.l1Put': a number put into a rising list that lacks it, by its contract.
-/
namespace Go.Proofs.YtepoabbkalhifaaDoor
open Go.RowKit

def putAt (l : List Int) (x : Int) : Nat := (l.takeWhile fun y => decide (y < x)).length
def putI (l : List Int) (x : Int) : List Int := l.take (putAt l x) ++ [x] ++ l.drop (putAt l x)
theorem putAt_le (l : List Int) (x : Int) : putAt l x ≤ l.length := by
  unfold putAt
  induction l with
  | nil => simp
  | cons y l ih =>
    rw [List.takeWhile_cons]
    split
    · simp only [List.length_cons]; omega
    · simp
theorem putAt_lt {l : List Int} {x y : Int} {k : Nat} (h : k < putAt l x) (hy : l[k]? = some y) : y < x := by
  unfold putAt at h
  induction l generalizing k with
  | nil => simp at h
  | cons z l ih =>
    rw [List.takeWhile_cons] at h
    split at h
    · rename_i hz
      cases k with
      | zero =>
        have e : z = y := by simpa using hy
        rw [← e]; exact of_decide_eq_true hz
      | succ k => exact ih (by simpa using h) (by simpa using hy)
    · simp at h
theorem putAt_stop {l : List Int} {x y : Int} (hy : l[putAt l x]? = some y) : ¬ y < x := by
  unfold putAt at hy
  induction l with
  | nil => simp at hy
  | cons z l ih =>
    rw [List.takeWhile_cons] at hy
    split at hy
    · exact ih (by simpa using hy)
    · rename_i hz
      have e : z = y := by simpa using hy
      rw [← e]
      intro h
      exact hz (decide_eq_true h)
theorem icells_take (l : List Int) (k : Nat) : icells (l.take k) = (icells l).take k := by simp [icells]
theorem icells_drop (l : List Int) (k : Nat) : icells (l.drop k) = (icells l).drop k := by simp [icells]

end Go.Proofs.YtepoabbkalhifaaDoor
/-
  A NUMBER PUT INTO A RISING LIST: its members, its length, that it rises. Nothing here speaks of the program.
-/
namespace Go.Proofs.YtepoabbkalhifaaDoor
open Go.RowKit

theorem putI_mem {l : List Int} {x y : Int} : y ∈ putI l x ↔ y = x ∨ y ∈ l := by
  unfold putI
  have h : y ∈ l ↔ y ∈ l.take (putAt l x) ∨ y ∈ l.drop (putAt l x) := by rw [← List.mem_append, List.take_append_drop]
  simp only [List.mem_append, List.mem_singleton, h]
  constructor
  · rintro ((h | h) | h)
    · exact .inr (.inl h)
    · exact .inl h
    · exact .inr (.inr h)
  · rintro (h | h | h)
    · exact .inl (.inr h)
    · exact .inl (.inl h)
    · exact .inr h
theorem putI_length (l : List Int) (x : Int) : (putI l x).length = l.length + 1 := by
  have := putAt_le l x
  unfold putI
  simp only [List.length_append, List.length_take, List.length_drop, List.length_singleton]
  omega
theorem putI_up {l : List Int} {x : Int} (hl : l.Pairwise (· < ·)) (hx : x ∉ l) : (putI l x).Pairwise (· < ·) := by
  unfold putI
  have h1 : ∀ y ∈ l.take (putAt l x), y < x := by
    intro y hy
    obtain ⟨k, hk, e⟩ := List.getElem_of_mem hy
    rw [List.length_take] at hk
    rw [List.getElem_take] at e
    exact putAt_lt (l := l) (x := x) (k := k) (by omega) (by rw [List.getElem?_eq_getElem (by omega), e])
  have h2 : ∀ y ∈ l.drop (putAt l x), x < y := by
    intro y hy
    obtain ⟨k, hk, e⟩ := List.getElem_of_mem hy
    rw [List.length_drop] at hk
    rw [List.getElem_drop] at e
    have hlt : putAt l x < l.length := by omega
    have h0 := putAt_stop (l := l) (x := x) (y := l[putAt l x]) (List.getElem?_eq_getElem hlt)
    have hne : l[putAt l x] ≠ x := fun h => hx (h ▸ List.getElem_mem hlt)
    have hle : l[putAt l x] ≤ y := by
      rw [← e]
      by_cases hk0 : k = 0
      · subst hk0; simp
      · have := List.pairwise_iff_getElem.1 hl (putAt l x) (putAt l x + k) hlt (by omega) (by omega)
        omega
    omega
  refine List.pairwise_append.2 ⟨List.pairwise_append.2 ⟨hl.sublist (List.take_sublist _ _), by simp, fun y hy z hz => ?_⟩, hl.sublist (List.drop_sublist _ _), fun y hy z hz => ?_⟩
  · simp only [List.mem_singleton] at hz; subst hz; exact h1 y hy
  · rcases List.mem_append.1 hy with hy | hy
    · have := h1 y hy; have := h2 z hz; omega
    · simp only [List.mem_singleton] at hy; subst hy; exact h2 z hz
end Go.Proofs.YtepoabbkalhifaaDoor
/-
  RISING LISTS OF PEOPLE. Nothing here speaks of the program.
-/
namespace Go.Proofs.YtepoabbkalhifaaDoor
open Go.RowKit

/-- a rising list of people -/
structure IsUp (n : Nat) (q : List Int) : Prop where
  up : q.Pairwise (· < ·)
  lt : ∀ x ∈ q, 0 ≤ x ∧ x < n
theorem IsUp.set {n : Nat} {q : List Int} (h : IsUp n q) (hn : n ≤ 16) {J : Nat} (hJ : ∀ b, J.testBit b = true ↔ (b : Int) ∈ q) : IsSet J (q.map Int.toNat) := by
  refine ⟨?_, fun b hb => ?_, fun b => ?_⟩
  · rw [List.pairwise_map]
    exact h.up.imp_of_mem fun {x y} hx hy hxy => by have := h.lt x hx; have := h.lt y hy; omega
  · obtain ⟨x, hx, rfl⟩ := List.mem_map.1 hb
    have := h.lt x hx
    omega
  · rw [hJ, List.mem_map]
    constructor
    · intro hb; exact ⟨b, hb, by simp⟩
    · rintro ⟨x, hx, rfl⟩
      have := h.lt x hx
      rwa [Int.toNat_of_nonneg this.1]
theorem IsUp.back {n : Nat} {q : List Int} (h : IsUp n q) : (q.map Int.toNat).map (fun b : Nat => (b : Int)) = q := by
  rw [List.map_map]
  conv => rhs; rw [← List.map_id q]
  exact List.map_congr_left fun x hx => by have := h.lt x hx; simp only [Function.comp_apply, id_eq]; omega
theorem IsUp.nodup {n : Nat} {q : List Int} (h : IsUp n q) : q.Nodup := h.up.imp fun {a b} hab => by omega
theorem IsUp.short {n : Nat} {q : List Int} (h : IsUp n q) : q.length ≤ n := by
  have h2 := List.Nodup.length_le_of_subset (l₁ := q) (l₂ := (List.range n).map fun b : Nat => (b : Int)) h.nodup (fun x hx => by
    have := h.lt x hx
    exact List.mem_map.2 ⟨x.toNat, List.mem_range.2 (by omega), by omega⟩)
  simpa using h2
theorem IsUp.put {n : Nat} {q : List Int} (h : IsUp n q) {a : Nat} (ha : a < n) (hq : (a : Int) ∉ q) : IsUp n (putI q a) :=
  ⟨putI_up h.up hq, fun x hx => by rcases putI_mem.1 hx with rfl | hx; omega; exact h.lt x hx⟩
end Go.Proofs.YtepoabbkalhifaaDoor
/-
  A GROUP THAT GROWS, as plain lists: person by person, who is tied to all joins. Nothing here speaks of the program.
-/
namespace Go.Proofs.YtepoabbkalhifaaDoor
open Go.RowKit

/-- all of a list are tied to somebody -/
def knowsL (t : Nat → Nat → Bool) (q : List Int) (a : Nat) : Bool := q.all fun y => t a y.toNat
theorem knowsL_self {t : Nat → Nat → Bool} (ht : ∀ a, t a a = false) {q : List Int} {a : Nat} (h : knowsL t q a = true) : (a : Int) ∉ q := by
  intro hm
  have := List.all_eq_true.1 h _ hm
  simp [ht] at this
def growS (t : Nat → Nat → Bool) (q : List Int) (a : Nat) : List Int := if knowsL t q a then putI q a else q
def growI (t : Nat → Nat → Bool) (q : List Int) (k : Nat) : List Int := (List.range k).foldl (growS t) q
theorem growI_zero (t : Nat → Nat → Bool) (q : List Int) : growI t q 0 = q := rfl
theorem growI_succ (t : Nat → Nat → Bool) (q : List Int) (k : Nat) : growI t q (k + 1) = growS t (growI t q k) k := by simp [growI, List.range_succ, List.foldl_append]
theorem growI_up {t : Nat → Nat → Bool} (ht : ∀ a, t a a = false) {n : Nat} {q : List Int} (h : IsUp n q) : ∀ k, k ≤ n → IsUp n (growI t q k) := by
  intro k
  induction k with
  | zero => intro _; exact h
  | succ k ih =>
    intro hk
    have i := ih (by omega)
    rw [growI_succ]
    unfold growS
    split
    · rename_i hn
      exact i.put (by omega) (knowsL_self ht hn)
    · exact i
/-- a number's bits are those of a list of people -/
def BitsOf (J : Nat) (q : List Int) : Prop := J < 65536 ∧ ∀ b, J.testBit b = true ↔ (b : Int) ∈ q
theorem BitsOf.nil : BitsOf 0 [] := ⟨by omega, fun b => by simp⟩
theorem BitsOf.put {J : Nat} {q q' : List Int} (h : BitsOf J q) {a : Nat} (ha : a < 16) (hq : ∀ y, y ∈ q' ↔ y = (a : Int) ∨ y ∈ q) : BitsOf (J ||| 2 ^ a) q' := by
  refine ⟨or_lt h.1 ha, fun b => ?_⟩
  rw [Nat.testBit_or, Bool.or_eq_true, h.2 b, Nat.testBit_two_pow, decide_eq_true_eq, hq]
  constructor
  · rintro (h | h)
    · exact .inr h
    · exact .inl (by omega)
  · rintro (h | h)
    · exact .inr (by omega)
    · exact .inl h
theorem off_bit {T b : Nat} (hT : T < 65536) (hb : b < 16) : (65535 - T).testBit b = !T.testBit b := by
  have h := Nat.testBit_two_pow_sub_succ (x := T) (n := 16) (by simpa using hT) b
  have e : (2 : Nat) ^ 16 - (T + 1) = 65535 - T := by omega
  rw [e] at h
  rw [h]
  simp [hb]
/-- who is tied to all: no bit is left -/
theorem BitsOf.knows {J : Nat} {q : List Int} (h : BitsOf J q) {n : Nat} (hq : IsUp n q) (hn : n ≤ 16) {t : Nat → Nat → Bool} {T a : Nat} (hT : T < 65536) (hb : ∀ b, b < 16 → T.testBit b = t a b) :
    decide (J &&& (65535 - T) = 0) = knowsL t q a := by
  rw [Bool.eq_iff_iff, decide_eq_true_eq]
  unfold knowsL
  rw [List.all_eq_true]
  constructor
  · intro h0 y hy
    have hy0 := hq.lt y hy
    have h1 := (h.2 y.toNat).2 (by rwa [Int.toNat_of_nonneg hy0.1])
    have h2 : (J &&& (65535 - T)).testBit y.toNat = false := by rw [h0]; simp
    rw [Nat.testBit_and, h1, Bool.true_and, off_bit hT (by omega), hb _ (by omega)] at h2
    simpa using h2
  · intro hall
    refine Nat.eq_of_testBit_eq fun b => ?_
    rw [Nat.zero_testBit, Nat.testBit_and]
    cases e : J.testBit b with
    | false => rfl
    | true =>
      have hm := (h.2 b).1 e
      have h0 := hq.lt _ hm
      have h1 := hall _ hm
      rw [Int.toNat_natCast] at h1
      rw [off_bit hT (by omega), hb _ (by omega), h1]
      rfl
/-- a group is a rising list of people who are tied -/
theorem group_up {p : Int} {l : PL} {q : List Int} (h : isGroupI p l q = true) : IsUp p.toNat q := by
  have hc : isChoiceI p q = true := by
    cases e : isChoiceI p q with
    | true => rfl
    | false => rw [groups_not e] at h; cases h
  exact ⟨isChoiceI_sorted hc, fun x hx => by have := isChoiceI_mem hc x hx; omega⟩
def resGrowGroup (p : Int) (l : PL) (q : List Int) : List Int × Bool := if isP p l && isGroupI p l q then (growI (adj l) q p.toNat, true) else ([], false)
theorem resGrowGroup_len (p : Int) (l : PL) (q : List Int) : (resGrowGroup p l q).1.length ≤ 1048576 := by
  unfold resGrowGroup
  split
  · rename_i h
    simp only [Bool.and_eq_true] at h
    have hn := isP_range h.1
    have hp2 : isP (p.toNat : Int) l = true := by rw [Int.toNat_of_nonneg hn.1]; exact h.1
    have := (growI_up (t := adj l) (adj_self hp2) (group_up h.2) p.toNat (Nat.le_refl _)).short
    simp only
    omega
  · simp
end Go.Proofs.YtepoabbkalhifaaDoor
/-
  THE MODEL's LOOK FOR ALL GROUPS ('spec.grLook', 'spec.grGroups'), by its contract: what it has found grows in a cell of its caller's.
-/
namespace Go.Proofs.YtepoabbkalhifaaDoor
open Go.RowKit

/-- the longer lists of tied candidates behind those told, in order -/
def subsC (t : Nat → Nat → Bool) : List Int → List Nat → List (List Int)
  | _, [] => []
  | told, a :: cs => (told ++ [(a : Int)]) :: (subsC t (told ++ [(a : Int)]) (cs.filter (t a)) ++ subsC t told cs)
termination_by _ cs => cs.length
decreasing_by
  · simp only [List.length_cons, List.length_unattach]
    refine Nat.lt_succ_of_le (Nat.le_trans (List.length_filter_le _ _) ?_)
    simp
  · simp
theorem subsC_nil (t : Nat → Nat → Bool) (told : List Int) : subsC t told [] = [] := by simp [subsC]
theorem subsC_cons (t : Nat → Nat → Bool) (told : List Int) (a : Nat) (cs : List Nat) : subsC t told (a :: cs) = (told ++ [(a : Int)]) :: (subsC t (told ++ [(a : Int)]) (cs.filter (t a)) ++ subsC t told cs) := by rw [subsC]
theorem subsC_few (t : Nat → Nat → Bool) : ∀ (told : List Int) (cs : List Nat), (subsC t told cs).length + 1 ≤ 2 ^ cs.length := by
  intro told cs
  induction h : cs.length using Nat.strongRecOn generalizing told cs with
  | _ n ih =>
    match cs with
    | [] => rw [subsC_nil]; simp at h; subst h; simp
    | a :: cs =>
      simp only [List.length_cons] at h
      have h0 : (cs.filter (t a)).length ≤ cs.length := List.length_filter_le _ _
      have h1 := ih (cs.filter (t a)).length (by omega) (told ++ [(a : Int)]) _ rfl
      have h2 := ih cs.length (by omega) told _ rfl
      have h3 : 2 ^ (cs.filter (t a)).length ≤ 2 ^ cs.length := Nat.pow_le_pow_right (by omega) h0
      rw [subsC_cons, ← h, Nat.pow_succ]
      simp only [List.length_cons, List.length_append]
      omega
/-- the world behind a look: all below the found one's cell is as it was, and all rows of numbers above it -/
structure Kept (o : Nat) (w w' : World) : Prop where
  low : Below o w w'
  rows : ∀ (A : Option Addr) (c : Nat) (x : List Int), w.ownsRow (o + 1) 3 1 (.slice A x.length c) x.length (icells x) → w'.ownsRow (o + 1) 3 1 (.slice A x.length c) x.length (icells x)
theorem Kept.refl (o : Nat) (w : World) : Kept o w w := ⟨Below.refl _ _, fun _ _ _ h => h⟩
theorem Kept.trans {o : Nat} {a b c : World} (h : Kept o a b) (k : Kept o b c) : Kept o a c := ⟨h.low.trans k.low, fun A c x hx => k.rows A c x (h.rows A c x hx)⟩
theorem Kept.of_below {o : Nat} {w w' : World} (h : Below w.heap.size w w') (ho : o ≤ w.heap.size) : Kept o w w' := ⟨h.mono ho, fun _ _ _ hx => own_below hx h (Nat.le_refl _)⟩
/-- what has been found, in its cell -/
structure Found (w : World) (o : Nat) (LL : List (List Int)) (A : Option Addr) (c : Nat) (hs : List Value) : Prop where
  box : w.heap[o]? = some (.cells #[.slice A LL.length c] 59 (0, 0))
  rows : LRows w (o + 1) (.slice A LL.length c) LL hs
section
variable {w w' : World} {o c : Nat} {LL : List (List Int)} {A : Option Addr} {hs : List Value}
theorem Found.lt (h : Found w o LL A c hs) : o < w.heap.size := (Array.getElem?_eq_some_iff.1 h.box).1
theorem Found.below (h : Found w o LL A c hs) (hb : Below w.heap.size w w') : Found w' o LL A c hs := ⟨by rw [hb.block o h.lt]; exact h.box, h.rows.below hb⟩
theorem Found.cell (h : Found w o LL A c hs) : w.cell? ⟨o, 0, none⟩ = some (.slice A LL.length c) := by rw [cell_of_row _ _ _ _ _ _ h.box]; rfl
theorem Found.thawed (h : Found w o LL A c hs) : w.frozen? ⟨o, 0, none⟩ = false := frozen_of_row _ _ 0 _ _ h.box
theorem Found.push (h : Found w o LL A c hs) {q : List Int} {A2 : Option Addr} {c2 : Nat} (own2 : w.ownsRow (o + 1) 3 1 (.slice A2 q.length c2) q.length (icells q))
    {w3 : World} {g3 c3 : Nat} (own3 : w3.ownsRow (o + 1) 22 1 (.slice (some ⟨g3, 0, none⟩) (LL.length + 1) c3) (LL.length + 1) (hs ++ [.slice A2 q.length c2]))
    (gr3 : (w.alloc (Obj.cells #[.slice A2 q.length c2] 22)).grownBy w3 (Value.slice A LL.length c).ownBlock) :
    w3.cell? ⟨o, 0, none⟩ = some (.slice A LL.length c) ∧ w3.frozen? ⟨o, 0, none⟩ = false ∧ w3.heap.size ≥ w.heap.size ∧
    Found (w3.setCell ⟨o, 0, none⟩ (.slice (some ⟨g3, 0, none⟩) (LL.length + 1) c3)) o (LL ++ [q]) (some ⟨g3, 0, none⟩) c3 (hs ++ [.slice A2 q.length c2]) ∧ Kept o w (w3.setCell ⟨o, 0, none⟩ (.slice (some ⟨g3, 0, none⟩) (LL.length + 1) c3)) := by
  obtain ⟨X, hX⟩ : ∃ X, w.alloc (Obj.cells #[.slice A2 q.length c2] 22) = X := ⟨_, rfl⟩
  have kX : Below w.heap.size w X := by rw [← hX]; go_grown
  have zX : X.heap.size = w.heap.size + 1 := by rw [← hX]; simp
  have nX : X.heap[w.heap.size]? = some (Obj.cells #[.slice A2 q.length c2] 22 (0, 0)) := by rw [← hX]; exact heap_alloc_new w _
  rw [hX] at gr3
  have hlt := h.lt
  have fX := h.below kX
  have ne : some o ≠ (Value.slice A LL.length c).ownBlock := fun e => by have := (fX.rows.own.lt o e.symm).1; omega
  have b3 : w3.heap[o]? = some (.cells #[.slice A LL.length c] 59 (0, 0)) := by rw [gr3.block o fX.lt ne]; exact fX.box
  have s3 := gr3.size
  have r2 : LRows X (o + 1) (.slice (some ⟨w.heap.size, 0, none⟩) 1 1) [q] [.slice A2 q.length c2] := ⟨⟨by simp, .inr ⟨w.heap.size, 1, _, rfl, by omega, nX, Nat.le_refl _, by simp [maxLen], by simp, by simp⟩⟩, fun i l hi => by
    match i with
    | 0 => simp at hi; subst hi; exact ⟨A2, c2, rfl, own_below own2 kX (Nat.le_refl _)⟩
    | i + 1 => simp at hi, fun e => by simp at e⟩
  have el : (LL ++ [q]).length = LL.length + 1 := by simp
  have r3 := LRows.append fX.rows r2 own3 gr3 (by simp)
  have setg : ∀ v, w3.grownBy (w3.setCell ⟨o, 0, none⟩ v) (some o) := fun v => ⟨rfl, rfl, rfl, by simp, fun k _ hk => heap_setCell_other _ _ _ _ (fun e => hk (by rw [e]))⟩
  have low : ∀ {e : TypeId} {size n : Nat} {v : Value} {xs : List Value}, w3.ownsRow (o + 1) e size v n xs → ∀ u, (w3.setCell ⟨o, 0, none⟩ u).ownsRow (o + 1) e size v n xs := fun hv u => hv.kept (setg u) (.inr fun e => by have := (hv.lt o e).1; omega)
  refine ⟨by rw [cell_of_row _ _ _ _ _ _ b3]; rfl, frozen_of_row _ _ 0 _ _ b3, by omega, ⟨by rw [el]; exact heap_setCell_same w3 o 0 _ _ _ b3, ⟨by rw [el]; have e3 := r3.own; rw [el] at e3; exact low e3 _, fun i l hi => ?_, fun e => by simp at e⟩⟩, ?_, ?_⟩
  · obtain ⟨Ai, ci, e, oi⟩ := r3.row i l hi
    exact ⟨Ai, ci, e, low oi _⟩
  · exact (((kX.mono (Nat.le_of_lt hlt)).grown gr3 (by omega) (fun k hk => by have := (fX.rows.own.lt k hk).1; omega)).setCell (p := ⟨o, 0, none⟩) (Nat.le_refl _) _)
  · intro B d x hx
    have hx2 := own_below hx kX (Nat.le_refl _)
    exact low (hx2.kept gr3 (blocks_apart fX.rows.own hx2 (show (22 : TypeId) ≠ 3 by decide))) _
end

theorem subsC_longer (t : Nat → Nat → Bool) : ∀ (told : List Int) (cs : List Nat), ∀ l ∈ subsC t told cs, told.length < l.length := by
  intro told cs
  induction h : cs.length using Nat.strongRecOn generalizing told cs with
  | _ n ih =>
    match cs with
    | [] => rw [subsC_nil]; simp
    | a :: cs =>
      simp only [List.length_cons] at h
      have h0 : (cs.filter (t a)).length ≤ cs.length := List.length_filter_le _ _
      rw [subsC_cons]
      intro l hl
      rcases List.mem_cons.1 hl with rfl | hl
      · simp
      · rcases List.mem_append.1 hl with hl | hl
        · have := ih _ (by omega) (told ++ [(a : Int)]) _ rfl l hl
          simp at this
          omega
        · exact ih _ (by omega) told cs rfl l hl
theorem subsC_size (t : Nat → Nat → Bool) : ∀ (k : Nat) (told : List Int) (cs : List Nat), (told :: subsC t told cs).filter (fun l => l.length == told.length + k) = listsC t k told cs := by
  intro k told cs
  induction h : cs.length using Nat.strongRecOn generalizing k told cs with
  | _ n ih =>
    match k with
    | 0 =>
      rw [listsC_zero, List.filter_cons_of_pos (by simp), List.filter_eq_nil_iff.2 (fun l hl => by have := subsC_longer t told cs l hl; simp; omega)]
    | k + 1 =>
      rw [List.filter_cons_of_neg (by simp)]
      match cs with
      | [] => rw [subsC_nil, listsC_nil]; rfl
      | a :: cs =>
        simp only [List.length_cons] at h
        have h0 : (cs.filter (t a)).length ≤ cs.length := List.length_filter_le _ _
        have h1 := ih (cs.filter (t a)).length (by omega) k (told ++ [(a : Int)]) _ rfl
        have h2 := ih cs.length (by omega) (k + 1) told cs rfl
        rw [List.filter_cons_of_neg (by simp)] at h2
        rw [show (told ++ [(a : Int)]).length + k = told.length + (k + 1) from by simp; omega] at h1
        rw [subsC_cons, ← List.cons_append, List.filter_append, h1, h2, listsC_cons]
theorem subsC_has {t : Nat → Nat → Bool} {cs : List Nat} {k : Nat} : (listsC t k [] cs).isEmpty = false ↔ ∃ l ∈ ([] :: subsC t [] cs), l.length = k := by
  rw [← subsC_size t k [] cs]
  simp only [List.isEmpty_eq_false_iff_exists_mem, List.mem_filter, beq_iff_eq, List.length_nil, Nat.zero_add]
theorem subsC_short (t : Nat → Nat → Bool) : ∀ (told : List Int) (cs : List Nat), ∀ l ∈ subsC t told cs, l.length ≤ told.length + cs.length := by
  intro told cs
  induction h : cs.length using Nat.strongRecOn generalizing told cs with
  | _ n ih =>
    match cs with
    | [] => rw [subsC_nil]; simp
    | a :: cs =>
      simp only [List.length_cons] at h
      have h0 : (cs.filter (t a)).length ≤ cs.length := List.length_filter_le _ _
      rw [subsC_cons]
      intro l hl
      rcases List.mem_cons.1 hl with rfl | hl
      · simp; omega
      · rcases List.mem_append.1 hl with hl | hl
        · have := ih _ (by omega) (told ++ [(a : Int)]) _ rfl l hl
          simp at this
          omega
        · have := ih _ (by omega) told cs rfl l hl
          omega
end Go.Proofs.YtepoabbkalhifaaDoor
/-
  A COPY OF A LIST of any length, and what an own row's slice looks like.
-/
namespace Go.Proofs.YtepoabbkalhifaaDoor
open Go.RowKit

theorem own_none {w : World} {B : Nat} {e : TypeId} {m c : Nat} {A : Option Addr} {xs : List Value} (h : w.ownsRow B e 1 (.slice A m c) m xs) : (A = none ∧ m = 0 ∧ c = 0) ∨ ∃ g, A = some ⟨g, 0, none⟩ := by
  rcases h.2 with ⟨h1, h2⟩ | ⟨g, cap, cur, hv, _⟩
  · simp only [Value.slice.injEq] at h1
    exact .inl ⟨h1.1, h2, h1.2.2⟩
  · simp only [Value.slice.injEq] at hv
    exact .inr ⟨g, hv.1⟩

theorem own_zero {w : World} {B : Nat} {e : TypeId} {m c : Nat} {A : Option Addr} {xs : List Value} (h : w.ownsRow B e 1 (.slice A m c) m xs) : A = none → c = 0 := by
  intro hA
  rcases own_none h with ⟨_, _, h3⟩ | ⟨g, h1⟩
  · exact h3
  · rw [hA] at h1; cases h1
set_option maxHeartbeats 4000000 in
set_option maxRecDepth 100000 in
theorem l1Own_row (q : List Int) (A : Option Addr) (c : Nat) (w : World) (hq : q.length ≤ 1048576) (hA : CRead w w.heap.size A (icells q)) (h0 : A = none → c = 0) :
    Calls Tryd.prog 67 #[.slice A q.length c] w fun e w' => ∃ A' c', e = .returned (.slice A' q.length c') ∧ w'.ownsRow w.heap.size 3 1 (.slice A' q.length c') q.length (icells q) ∧ Below w.heap.size w w' := by
  by_cases hz : q = []
  · cases A with
    | none => exact l1Own_all q none c w hq hA fun _ => ⟨rfl, h0 rfl⟩
    | some ad =>
      subst hz
      obtain ⟨i0, hi, hz0, hz1, hz2⟩ := info_parts Tryd.infoInt
      have h1 : (w.alloc (.cells #[] 3)).ownsRow w.heap.size 3 1 (.slice (some ⟨w.heap.size, 0, none⟩) 0 0) 0 [] := World.ownsRow_made w #[] 0 (Nat.le_refl _) (Nat.zero_le _) rfl
      go_enter Tryd.func67, Tryd.ntmps67
      go_wp2_with (at_builtin; refine wpList_append_own _ rfl _ _ 22 rfl w.heap.size 3 i0 _ 1 8 Tryd.underlying22 hi hz0 hz1 hz2 rfl (by decide) (.slice (some ⟨w.heap.size, 0, none⟩) 0 0) 0 [] rfl h1 ad 0 c [] rfl rfl (fun j u hj => by simp at hj) (by simp) (by unfold maxLen; omega) (by omega) (by simp) ?_; intro v1 w1 own1 gr1 _; have k1 : Below w.heap.size w w1 := ((Below.refl _ w).alloc (Nat.le_refl _) _).grown gr1 (by simp) (by intro m hm; simp [Value.ownBlock] at hm; omega); obtain ⟨A1, c1, rfl, _⟩ := own_shape own1)
      go_ret
      exact ⟨A1, c1, rfl, own1, k1⟩
  · exact l1Own_all q A c w hq hA fun e => absurd e hz
end Go.Proofs.YtepoabbkalhifaaDoor
/-
  'GrowGroup' of the model, by its contract.
-/
namespace Go.Proofs.YtepoabbkalhifaaDoor
open Go.RowKit


end Go.Proofs.YtepoabbkalhifaaDoor
/-
  A RANGE OVER AN ITERATOR, its body told besides that the loop's own two blocks lie below what it makes; the loop's variable assigned. Nothing here speaks of the program.
-/
namespace Go.Proofs.YtepoabbkalhifaaDoor
open Go.RowKit

variable {P : Program}
theorem wpIn_rangeFunc_iterG {α : Type} {n : Nat} {g : Operand} {ps : Array Tmp} {assign body : Code} {Q : Exit → Act → World → Prop} {a : Act} {w : World}
    {gf : Nat} {lb : Array Value} (hg : a.eval g = .func (.func gf) #[] lb) (eg : ∀ args w, (callFunc gf args).run P w = .ok (.enter gf args) w)
    {R : Nat → Prop} {Rd : (Nat → Prop) → α → Array Value → World → Prop} {xs : List α} {w0 : World} (hseq : Seq P gf lb R Rd xs w0) (hb0 : Below w0.heap.size w0 w) (hR : ∀ j, R j → j < w.heap.size)
    (hRd : ∀ T x args A C, Rd T x args A → Stays T A C → Rd T x args C) (hps : ∀ T x args W, Rd T x args W → args.size = ps.size)
    (I : (Nat → Prop) → List α → World → Prop) (Ix : Code → List α → World → Prop) (hI : Held I) (hIx : ∀ c pre A C, Ix c pre A → Apart (fun j => j = w.heap.size + 1) A C → Ix c pre C)
    (h0 : I (fun _ => False) [] w) (a₁ : Array Value → Act)
    (hassign : ∀ (l : Nat) (T : Nat → Prop) (x : α) (args : Array Value) (W : World) (K : Act → World → Prop), Rd T x args W → K (a₁ args) W →
      assign.wpIn (Fence.wide.inRound l) n P (Exit.then K (fun _ _ _ => False)) { tmps := (ps.zip args).foldl (fun t (p, v) => t.setIfInBounds p v) a.tmps, defers := [] } W)
    (hbody : ∀ (l : Nat) (T S : Nat → Prop) (pre : List α) (x : α) (args : Array Value) (W : World), I S pre W → Rd T x args W → (∀ j, T j → S j) → w.heap.size + 2 ≤ W.heap.size → (∀ j, T j → j < w.heap.size ∨ w.heap.size + 2 ≤ j) → pre ++ [x] <+: xs →
      body.wpIn (Fence.wide.inRound l) n P (iterPost w.heap.size S R I Ix (pre ++ [x]) W) (a₁ args) W)
    (hdone : ∀ (S : Nat → Prop) (W : World), I S xs W → W.heap[w.heap.size]? = some (.deferred (some [])) → Q .normal { a with defers := { target := .collected w.heap.size, args := #[] } :: a.defers } W)
    (hstop : ∀ (c : Code) (pre : List α) (x : α) (W : World), pre ++ [x] <+: xs → Ix c (pre ++ [x]) W → W.heap[w.heap.size]? = some (.deferred (some [])) → c.wpIn Fence.wide n P Q { a with defers := { target := .collected w.heap.size, args := #[] } :: a.defers } W) :
    (Code.rangeFunc g ps assign body).wpIn Fence.wide n P Q a w := by
  refine wpIn_rangeFunc ?_
  intro fn hfn
  rw [show Fence.wide.round = none from rfl]
  obtain ⟨rec, hrec⟩ : ∃ rec : LoopState → Option Code → Loop, rec = fun st pe => { state := st, pending := pe, fn, tmps := a.tmps, params := ps, assign, body, defers := w.heap.size } := ⟨_, rfl⟩
  obtain ⟨W1, hW1⟩ : ∃ W1, (w.alloc (.deferred (some []))).alloc (.loop (rec .ready none)) = W1 := ⟨_, rfl⟩
  have hL1 : W1.heap[w.heap.size + 1]? = some (.loop (rec .ready none)) := by
    rw [← hW1]; have := World.alloc_heap_new (w.alloc (.deferred (some []))) (.loop (rec .ready none)); rwa [World.size_alloc] at this
  have hK1 : W1.heap[w.heap.size]? = some (.deferred (some [])) := by
    rw [← hW1]; exact (Below.heap_alloc _ _ _ (by simp)).trans (World.alloc_heap_new w _)
  have hw1 : Below w.heap.size w W1 := by rw [← hW1]; exact (((Below.refl _ w).alloc (Nat.le_refl _) _).alloc (by simp) _)
  have hb1 : Below w0.heap.size w0 W1 := hb0.trans (hw1.mono hb0.size)
  have hz1 : W1.heap.size = w.heap.size + 2 := by rw [← hW1]; simp
  have hI1 : I (fun j => j = w.heap.size ∨ j = w.heap.size + 1) [] W1 := hI _ _ _ _ _ h0 (Apart.of_below hw1) (fun j hj => .inr (by omega))
  refine ⟨w.heap.size + 1, [{ target := .collected w.heap.size, args := #[] }], W1, { target := .fn (.func gf) lb, args := #[.func (.yield (w.heap.size + 1)) #[] #[]] }, W1, gf,
    #[.func (.yield (w.heap.size + 1)) #[] #[]] ++ lb, W1, ?_, ?_, ?_, ?_, fun h => (by cases h), ?_⟩
  · rw [← hW1, hrec]; exact run_enterLoop_outer _ _ _ _ _
  · simp only [resolve, hg]
    simp [go_sem]
  · intro f' hf'; trivial
  · simp [invoke, go_sem, eg]
  · refine callsIn_wide.2 ?_
    refine (hseq (w.heap.size + 1)
      (fun T pre W => I (fun j => T j ∨ j = w.heap.size ∨ j = w.heap.size + 1) pre W ∧ (∀ j, T j → w.heap.size + 2 ≤ j) ∧ W.heap[w.heap.size + 1]? = some (.loop (rec .ready none)) ∧ W.heap[w.heap.size]? = some (.deferred (some [])))
      (fun T pre W => ∃ c, Ix c pre W ∧ W.heap[w.heap.size + 1]? = some (.loop (rec .done (some c))) ∧ W.heap[w.heap.size]? = some (.deferred (some [])))
      W1 hb1 ?held ?round ⟨hI _ _ _ _ _ hI1 (Apart.refl _ _) (fun j hj => by rcases hj with h | h; exact h.elim; exact .inl h), fun j h => h.elim, hL1, hK1⟩).mono ?_
    case held =>
      rintro T T' pre A C ⟨hi, hT, hl, hk⟩ hA hT'
      have hlt : w.heap.size + 1 < A.heap.size := (Array.getElem?_eq_some_iff.1 hl).1
      refine ⟨hI _ _ _ _ _ hi (hA.mono fun j hj => .inl hj) (fun j hj => ?_), fun j hj => ?_, (hA.same _ hlt (fun h => by have := hT _ h; omega)).trans hl, (hA.same _ (by omega) (fun h => by have := hT _ h; omega)).trans hk⟩
      · rcases hj with hj | hj
        · rcases hT' j hj with h | h
          · exact .inl (.inl h)
          · exact .inr h
        · exact .inl (.inr hj)
      · rcases hT' j hj with h | h
        · exact hT j h
        · omega
    case round =>
      rintro T pre x args W ⟨hi, hT, hl, hk⟩ hrd hpx
      have hlt : w.heap.size + 1 < W.heap.size := (Array.getElem?_eq_some_iff.1 hl).1
      have hnT : ¬ T (w.heap.size + 1) := fun h => by have := hT _ h; omega
      have hnR : ¬ (T (w.heap.size + 1) ∨ R (w.heap.size + 1)) := fun h => by rcases h with h | h; exact hnT h; have := hR _ h; omega
      have hy := run_yield (P := P) (args := args) hl (by rw [hrec]; exact hps T x args W hrd)
      rw [hrec] at hy
      refine yield_any (m := n + 1) ⟨fn, _, assign, body, hy, roundIn_any (m := n) (roundIn_of_wpIn hfn (hassign _ T x args W _ hrd ⟨_, run_beginRound hl (by rw [hrec]), ?_⟩))⟩
      have hl2 : (W.putObj (w.heap.size + 1) (.loop { rec .ready none with state := .busy })).heap[w.heap.size + 1]? = some (.loop { rec .ready none with state := .busy }) := World.putObj_heap_same hlt
      have hk2 : (W.putObj (w.heap.size + 1) (.loop { rec .ready none with state := .busy })).heap[w.heap.size]? = some (.deferred (some [])) := (World.putObj_heap_other (by omega)).trans hk
      have hi2 := hI _ _ _ _ _ hi ((Apart.putObj W (w.heap.size + 1) (.loop { rec .ready none with state := .busy })).mono fun j hj => .inr (.inr hj)) (fun j hj => .inl hj)
      have hst := Stays.putObj (S := fun j => T j ∨ R j) hnR W (.loop { rec .ready none with state := .busy })
      have hlz := (Array.getElem?_eq_some_iff.1 hl2).1
      have hkz := (Array.getElem?_eq_some_iff.1 hk2).1
      refine wpIn_mono (hbody _ T _ pre x args _ hi2 (hRd _ _ _ _ _ hrd (hst.mono fun j hj => .inl hj)) (fun j hj => .inl hj) hlz (fun j hj => .inr (hT j hj)) hpx) ?_
      have fin : ∀ (jump : Option Code) (W3 : World), W3.heap[w.heap.size + 1]? = some (.loop { rec .ready none with state := .busy }) → W3.heap[w.heap.size]? = some (.deferred (some [])) →
          (Instr.endRound (w.heap.size + 1) jump).run P W3 = .ok (.bool jump.isNone) (W3.putObj (w.heap.size + 1) (.loop (rec (if jump.isNone then .ready else .done) jump))) ∧
          (W3.putObj (w.heap.size + 1) (.loop (rec (if jump.isNone then .ready else .done) jump))).heap[w.heap.size + 1]? = some (.loop (rec (if jump.isNone then .ready else .done) jump)) ∧
          (W3.putObj (w.heap.size + 1) (.loop (rec (if jump.isNone then .ready else .done) jump))).heap[w.heap.size]? = some (.deferred (some [])) := fun jump W3 hl3 hk3 => by
        have := run_endRound (P := P) jump hl3
        rw [hrec] at this ⊢
        exact ⟨this, World.putObj_heap_same (Array.getElem?_eq_some_iff.1 hl3).1, (World.putObj_heap_other (by omega)).trans hk3⟩
      rintro e a3 W3 hp
      cases e with
      | normal =>
        obtain ⟨hs3, hi3⟩ := hp
        have hl3 := (hs3.same (w.heap.size + 1) hlz (.inl (.inr (.inr rfl)))).trans hl2
        have hk3 := (hs3.same w.heap.size hkz (.inl (.inr (.inl rfl)))).trans hk2
        obtain ⟨hr, hl4, hk4⟩ := fin none W3 hl3 hk3
        refine ⟨_, _, hr, .inl ⟨rfl, ⟨hI _ _ _ _ _ hi3 ((Apart.putObj W3 _ _).mono fun j hj => .inr (.inr hj)) (fun j hj => .inl hj), hT, hl4, hk4⟩, ?_⟩⟩
        exact (hst.trans (hs3.mono fun j hj => hj.elim (fun h => .inl (.inl h)) .inr)).trans (Stays.putObj (S := fun j => T j ∨ R j) hnR W3 _)
      | ret =>
        obtain ⟨hs3, hi3⟩ := hp
        obtain ⟨hr, hl4, hk4⟩ := fin (some .ret) W3 ((hs3.same (w.heap.size + 1) hlz (by omega)).trans hl2) ((hs3.same w.heap.size hkz (by omega)).trans hk2)
        exact ⟨_, _, hr, .inr ⟨rfl, .ret, hIx _ _ _ _ hi3 (Apart.putObj W3 _ _), hl4, hk4⟩⟩
      | exit id =>
        obtain ⟨hs3, hi3⟩ := hp
        obtain ⟨hr, hl4, hk4⟩ := fin (some (.exit id)) W3 ((hs3.same (w.heap.size + 1) hlz (by omega)).trans hl2) ((hs3.same w.heap.size hkz (by omega)).trans hk2)
        exact ⟨_, _, hr, .inr ⟨rfl, .exit id, hIx _ _ _ _ hi3 (Apart.putObj W3 _ _), hl4, hk4⟩⟩
      | goto t =>
        obtain ⟨hs3, hi3⟩ := hp
        obtain ⟨hr, hl4, hk4⟩ := fin (some (.goto t)) W3 ((hs3.same (w.heap.size + 1) hlz (by omega)).trans hl2) ((hs3.same w.heap.size hkz (by omega)).trans hk2)
        exact ⟨_, _, hr, .inr ⟨rfl, .goto t, hIx _ _ _ _ hi3 (Apart.putObj W3 _ _), hl4, hk4⟩⟩
      | panic ch => exact hp.elim
      | outgrown => exact hp.elim
    · rintro e W2 ⟨⟨v, rfl⟩, (⟨T, hi, hT, hl, hk⟩ | ⟨T, pre, x, hpre, c, hi, hl, hk⟩)⟩
      · exact ⟨none, _, by have := run_endLoop (P := P) hl (by rw [hrec]; simp); rw [hrec] at this; exact this, hdone _ _ (hI _ _ _ _ _ hi ((Apart.putObj W2 _ _).mono fun j hj => .inr (.inr hj)) (fun j hj => .inl hj)) ((World.putObj_heap_other (by omega)).trans hk)⟩
      · exact ⟨some c, _, by have := run_endLoop (P := P) hl (by rw [hrec]; simp); rw [hrec] at this; exact this, hstop c pre x _ hpre (hIx _ _ _ _ hi (Apart.putObj W2 _ _)) ((World.putObj_heap_other (by omega)).trans hk)⟩

/-- A range over an iterator of one value; its variable is assigned ahead of the body. -/
theorem wp_rangeFunc_asg {P : Program} {α : Type} {g : Operand} {p : Tmp} {assign body : Code} {Q : Exit → Act → World → Prop} {a : Act} {w : World} {gf : Nat} {lb : Array Value} (hg : a.eval g = .func (.func gf) #[] lb)
    (eg : ∀ args w, (callFunc gf args).run P w = .ok (.enter gf args) w) {R : Nat → Prop} {Rd : (Nat → Prop) → α → Array Value → World → Prop} {xs : List α} (hseq : Seq P gf lb R Rd xs w) (hR : ∀ j, R j → j < w.heap.size)
    (hRd : ∀ T x args A C, Rd T x args A → Stays T A C → Rd T x args C) (hps : ∀ T x args W, Rd T x args W → args.size = 1)
    (I : (Nat → Prop) → List α → World → Prop) (Ix : Code → List α → World → Prop) (hI : Held I) (hIx : ∀ c pre A C, Ix c pre A → Apart (fun j => j = w.heap.size + 1) A C → Ix c pre C) (h0 : I (fun _ => False) [] w)
    (a₁ : Value → Act)
    (hassign : ∀ (l : Nat) (v : Value) (W : World) (K : Act → World → Prop), K (a₁ v) W → assign.wpIn (Fence.wide.inRound l) 3 P (Exit.then K (fun _ _ _ => False)) { tmps := a.tmps.setIfInBounds p v, defers := [] } W)
    (hbody : ∀ (l : Nat) (T S : Nat → Prop) (pre : List α) (x : α) (v : Value) (W : World), I S pre W → Rd T x #[v] W → (∀ j, T j → S j) → w.heap.size + 2 ≤ W.heap.size → (∀ j, T j → j < w.heap.size ∨ w.heap.size + 2 ≤ j) → pre ++ [x] <+: xs →
      body.wpIn (Fence.wide.inRound l) 3 P (iterPost w.heap.size S R I Ix (pre ++ [x]) W) (a₁ v) W)
    (hdone : ∀ (S : Nat → Prop) (W : World), I S xs W → W.heap[w.heap.size]? = some (.deferred (some [])) → Q .normal { a with defers := { target := .collected w.heap.size, args := #[] } :: a.defers } W)
    (hstop : ∀ (c : Code) (pre : List α) (x : α) (W : World), pre ++ [x] <+: xs → Ix c (pre ++ [x]) W → W.heap[w.heap.size]? = some (.deferred (some [])) → c.wp P Q { a with defers := { target := .collected w.heap.size, args := #[] } :: a.defers } W) :
    (Code.rangeFunc g #[p] assign body).wp P Q a w := by
  refine (wpIn_wide (n := 3)).1 ?_
  have hone : ∀ args : Array Value, args.size = 1 → ∃ v, args = #[v] := fun args h => by
    obtain ⟨l⟩ := args
    match l, h with
    | [v], _ => exact ⟨v, rfl⟩
  refine wpIn_rangeFunc_iterG hg eg hseq (Below.refl _ _) hR hRd (fun T x args W h => hps T x args W h) I Ix hI hIx h0 (fun args => a₁ (args[0]?.getD undef)) ?_ ?_ hdone (fun c pre x W h1 h2 h3 => (wpIn_wide (n := 3)).2 (hstop c pre x W h1 h2 h3))
  · intro l T x args W K hrd hK
    obtain ⟨v, rfl⟩ := hone args (hps T x args W hrd)
    have e : (#[p].zip #[v]).foldl (fun (t : Array Value) (x : Tmp × Value) => t.setIfInBounds x.1 x.2) a.tmps = a.tmps.setIfInBounds p v := by simp
    have h := hassign l v W K hK
    rw [← e] at h
    exact h
  · intro l T S pre x args W hi hrd hTS hz hT hpx
    obtain ⟨v, rfl⟩ := hone args (hps T x args W hrd)
    exact hbody l T S pre x v W hi hrd hTS hz hT hpx
end Go.Proofs.YtepoabbkalhifaaDoor
/-
  'GreatestGroup', 'GreatestStrange': the model's and the program's, by their contracts. The program leaves a range over a function in a loop: every pass leaves a mark among the deferred calls.
-/
namespace Go.Proofs.YtepoabbkalhifaaDoor
open Go.RowKit Go.Shelf
attribute [local go_sem] Oper.semAt_some

/-- the first one of the lists of so many people, or of fewer -/
def firstG (t : Nat → Nat → Bool) (n : Nat) : Nat → List Int
  | 0 => []
  | s + 1 => match listsC t (s + 1) [] (List.range n) with | [] => firstG t n s | q :: _ => q
theorem firstG_none {t : Nat → Nat → Bool} {n s : Nat} (h : listsC t (s + 1) [] (List.range n) = []) : firstG t n (s + 1) = firstG t n s := by unfold firstG; rw [h]; cases s <;> rfl
theorem firstG_some {t : Nat → Nat → Bool} {n s : Nat} {q : List Int} {L : List (List Int)} (h : listsC t (s + 1) [] (List.range n) = q :: L) : firstG t n (s + 1) = q := by unfold firstG; rw [h]
theorem firstG_congr {t t' : Nat → Nat → Bool} {n : Nat} (h : ∀ k, listsC t k [] (List.range n) = listsC t' k [] (List.range n)) : ∀ s, firstG t n s = firstG t' n s := by
  intro s
  induction s with
  | zero => rfl
  | succ s ih =>
    unfold firstG
    rw [h, ih]
theorem firstG_len (t : Nat → Nat → Bool) (n : Nat) : ∀ s, (firstG t n s).length ≤ s := by
  intro s
  induction s with
  | zero => exact Nat.le_refl _
  | succ s ih =>
    cases e : listsC t (s + 1) [] (List.range n) with
    | nil => rw [firstG_none e]; omega
    | cons q L =>
      rw [firstG_some e]
      have := listsC_size t (s + 1) [] (List.range n) q (by rw [e]; simp)
      simp at this
      omega
def resGreatestGroup (p : Int) (l : PL) : List Int × Bool := if isP p l then (firstG (adj l) p.toNat p.toNat, true) else ([], false)
theorem resGreatestGroup_len (p : Int) (l : PL) : (resGreatestGroup p l).1.length ≤ 1048576 := by
  unfold resGreatestGroup
  split
  · rename_i h
    have h1 := isP_range h
    have h2 := firstG_len (adj l) p.toNat p.toNat
    simp only
    omega
  · simp
def resGreatestStrange (p : Int) (l : PL) : List Int × Bool := if isP p l then (firstG (strangeF p.toNat (adj l)) p.toNat p.toNat, true) else ([], false)
theorem resGreatestStrange_len (p : Int) (l : PL) : (resGreatestStrange p l).1.length ≤ 1048576 := by
  unfold resGreatestStrange
  split
  · rename_i h
    have h1 := isP_range h
    have h2 := firstG_len (strangeF p.toNat (adj l)) p.toNat p.toNat
    simp only
    omega
  · simp

/-! ## Marks among the deferred calls -/
def isMark (D : List Deferred) (j : Nat) : Prop := ∃ d ∈ D, d.target = .collected j
structure Marks (D : List Deferred) (W : World) : Prop where
  at_ : ∀ d ∈ D, ∃ b, d = { target := .collected b, args := #[] } ∧ W.heap[b]? = some (.deferred (some []))
  ne : D.Pairwise fun d e => d.target ≠ e.target
theorem Marks.nil (W : World) : Marks [] W := ⟨fun _ h => (by cases h), List.Pairwise.nil⟩
theorem Marks.block {D : List Deferred} {W : World} (h : Marks D W) {j : Nat} (hj : isMark D j) : W.heap[j]? = some (.deferred (some [])) := by
  obtain ⟨d, hd, ht⟩ := hj
  obtain ⟨b, rfl, hb⟩ := h.at_ d hd
  simp only [Target.collected.injEq] at ht
  subst ht
  exact hb
theorem Marks.below {D : List Deferred} {W W' : World} (h : Marks D W) (hb : Below W.heap.size W W') : Marks D W' := by
  refine ⟨fun d hd => ?_, h.ne⟩
  obtain ⟨b, e, hh⟩ := h.at_ d hd
  exact ⟨b, e, (hb.block b (Array.getElem?_eq_some_iff.1 hh).1).trans hh⟩
theorem Marks.same {D : List Deferred} {W W' : World} (h : Marks D W) (hs : ∀ j, isMark D j → W'.heap[j]? = W.heap[j]?) : Marks D W' := by
  refine ⟨fun d hd => ?_, h.ne⟩
  obtain ⟨b, e, hh⟩ := h.at_ d hd
  exact ⟨b, e, (hs b ⟨d, hd, by rw [e]⟩).trans hh⟩
theorem Marks.cons {D : List Deferred} {W : World} {b : Nat} (h : Marks D W) (hb : W.heap[b]? = some (.deferred (some []))) (hn : ∀ j, isMark D j → j ≠ b) : Marks ({ target := .collected b, args := #[] } :: D) W := by
  refine ⟨fun d hd => ?_, List.pairwise_cons.2 ⟨fun d hd e => ?_, h.ne⟩⟩
  · rcases List.mem_cons.1 hd with rfl | hd
    · exact ⟨b, rfl, hb⟩
    · exact h.at_ d hd
  · obtain ⟨b', rfl, _⟩ := h.at_ d hd
    simp only [Target.collected.injEq] at e
    exact hn b' ⟨_, hd, rfl⟩ e.symm
theorem leaves_marks {P : Program} {n : Nat} {fn : Func} {tmps : Array Value} {R : Ending → World → Prop} : ∀ (D : List Deferred) (W : World), Marks D W →
    (∀ W', Apart (isMark D) W W' → ∃ v, (results fn tmps).run P W' = .ok v W' ∧ R (.returned v) W') → LeavesInM Fence.wide n P fn tmps R D .returning W := by
  intro D
  induction D with
  | nil => exact fun W _ h => h W (Apart.refl _ _)
  | cons d ds ih =>
    intro W hm h
    obtain ⟨b, rfl, hb⟩ := hm.at_ d List.mem_cons_self
    have hne := (List.pairwise_cons.1 hm.ne).1
    refine ⟨by simp, .inl ⟨b, _, rfl, run_takeDeferred hb, ih _ ⟨fun e he => ?_, (List.pairwise_cons.1 hm.ne).2⟩ fun W' ha => h W' ?_⟩⟩
    · obtain ⟨b', rfl, hb'⟩ := hm.at_ e (List.mem_cons_of_mem _ he)
      have := hne _ he
      simp only [ne_eq, Target.collected.injEq] at this
      exact ⟨b', rfl, (World.putObj_heap_other fun e => this e.symm).trans hb'⟩
    · refine ((Apart.putObj W b _).mono fun j hj => ?_).trans ha fun j hj => .inl ?_
      · exact ⟨_, List.mem_cons_self, by rw [hj]⟩
      · obtain ⟨d, hd, ht⟩ := hj
        exact ⟨d, List.mem_cons_of_mem _ hd, ht⟩
theorem own_at {w w' : World} {B : Nat} {e : TypeId} {s n : Nat} {v : Value} {xs : List Value} (h : w.ownsRow B e s v n xs) (hs : ∀ (k : Nat) (c : Array Value) (t : TypeId) (f : Nat × Nat), w.heap[k]? = some (.cells c t f) → w'.heap[k]? = w.heap[k]?) : w'.ownsRow B e s v n xs := by
  obtain ⟨h1, h2⟩ := h
  rcases h2 with ⟨hv, h0⟩ | ⟨g, cap, cur, hv, hb, hg, hrest⟩
  · exact ⟨h1, .inl ⟨hv, h0⟩⟩
  · exact ⟨h1, .inr ⟨g, cap, cur, hv, hb, (hs g _ _ _ hg).trans hg, hrest⟩⟩
theorem Marks.rows {D : List Deferred} {W W' : World} (h : Marks D W) (ha : Apart (isMark D) W W') (k : Nat) (c : Array Value) (t : TypeId) (f : Nat × Nat) (hk : W.heap[k]? = some (.cells c t f)) : W'.heap[k]? = W.heap[k]? := by
  refine ha.same k (Array.getElem?_eq_some_iff.1 hk).1 fun hm => ?_
  rw [h.block hm] at hk
  cases hk

set_option maxHeartbeats 4000000 in
set_option maxRecDepth 100000 in
theorem trGreatest_any (n : Nat) (l : PL) (A : Option Addr) (c : Nat) (w : World) (hp : isP n l = true) (hA : CRead w w.heap.size A (pcells l)) :
    Calls Tryd.prog 56 #[.agg #[.int .i64 n, .slice A l.length c]] w fun e w' => ∃ A' c', e = .returned (.slice A' (firstG (adj l) n n).length c') ∧ w'.ownsRow w.heap.size 3 1 (.slice A' (firstG (adj l) n n).length c') (firstG (adj l) n n).length (icells (firstG (adj l) n n)) ∧ Below w.heap.size w w' := by
  have hn := isP_range hp
  have Hp := Lib.hid hp
  clear hp
  have hstep := fun s L q (h : listsC (adj l) (s + 1) [] (List.range n) = q :: L) => firstG_some h
  have hno := fun s (h : listsC (adj l) (s + 1) [] (List.range n) = []) => firstG_none h
  have hsz := fun k l3 h3 => listsC_size (adj l) k [] (List.range n) l3 h3
  obtain ⟨F, hF⟩ : ∃ F, firstG (adj l) n = F := ⟨_, rfl⟩
  have hF0 : F 0 = [] := by rw [← hF]; rfl
  simp only [hF] at hstep hno ⊢
  obtain ⟨R, hR⟩ : ∃ R, F n = R := ⟨_, rfl⟩
  rw [hR]
  have Hstep := Lib.hid hstep
  have Hno := Lib.hid hno
  have Hsz := Lib.hid hsz
  have HF0 := Lib.hid hF0
  have HR := Lib.hid hR
  clear hstep hno hsz hF hF0 hR
  go_enter Tryd.func56, Tryd.ntmps56
  go_wp2_with fail
  refine (paTable_any _ _ _ _ _ Hp.out ((hA.below (B' := w.heap.size) (by go_grown) (Nat.le_refl _)).more (by go_size))).mono ?_
  simp only [Int.toNat_natCast]
  rintro e w1 ⟨A1, k1, G, rfl, tab1, hb1⟩
  simp only [World.size_alloc] at hb1 tab1
  have s1 := hb1.size
  simp only [World.size_alloc] at s1
  have kw : Below w.heap.size w w1 := Below.trans (b := _) (by go_grown) (hb1.mono (by omega))
  have c0 : w1.cell? ⟨w.heap.size, 0, none⟩ = some (.int .i64 n) := carry hb1 (by simp) (by omega)
  have Tab := Lib.hid tab1
  have Kw := Lib.hid kw
  clear tab1 kw hb1 hA
  go_wp2
  clear c0
  go_loopw [4] (fun i wr => ∃ s : Nat, s ≤ n ∧ i = .int .i64 s ∧ F s = R ∧ Below w1.heap.size w1 wr) (fun i _ => (intOf i).toNat)
  case atStart => exact ⟨n, Nat.le_refl _, rfl, HR.out, Below.refl _ _⟩
  case round =>
    obtain ⟨s, hs, rfl, hFs, hb⟩ := hrel
    have s0 := hb.size
    cases s with
    | zero =>
      rw [HF0.out] at hFs
      have kk := Kw.out.trans (hb.mono Kw.out.size)
      subst hFs
      have hge : ¬ ((0 : Int) < 0) := by omega
      go_wp2
      go_ret
      exact ⟨none, 0, rfl, World.ownsRow_nil _ _ _ _, kk⟩
    | succ s =>
      have g := trGroups_any n (by omega) (adj l) (adj_comm l) A1 k1 G _ (s + 1) [] none 0 wr (Tab.out.below hb (Nat.le_refl _)) (by simp) (by simp; omega) CRead.nil (fun _ => ⟨rfl, rfl⟩)
      rw [show fromQ [] = 0 from rfl, candR_all] at g
      simp only [List.length_nil, Nat.zero_add] at g
      obtain ⟨LL, hLL⟩ : ∃ LL, listsC (adj l) (s + 1) [] (List.range n) = LL := ⟨_, rfl⟩
      have hsz := Hsz.out (s + 1)
      rw [hLL] at g
      simp only [hLL] at hsz
      obtain ⟨z, hz⟩ : ∃ z : Int, ((s + 1 : Nat) : Int) = z := ⟨_, rfl⟩
      have hz0 : (0 : Int) < z := by omega
      have hz1 : z ≤ 13 := by omega
      rw [hz] at g ⊢
      have Hz := Lib.hid hz
      have Gg := Lib.hid g
      have HFs := Lib.hid hFs
      clear g hz hFs
      cases LL with
      | nil =>
        have Hn := Lib.hid (Hno.out s hLL)
        clear hLL hsz
        go_wp2_with fail
        refine Gg.out.mono ?_
        rintro e w4 ⟨A4, c4, hs4, rfl, rows, hb4⟩
        have b4 := hb.trans (hb4.mono s0)
        clear Gg rows
        go_wp2
        go_roundw
        case rel => exact ⟨s, by omega, by have := Hz.out; congr 1; omega, by rw [← Hn.out]; exact HFs.out, b4⟩
        case measure => simp [intOf]; have := Hz.out; omega
      | cons q L =>
        have Hq := Lib.hid (Hstep.out s L q hLL)
        have hq13 := hsz q (by simp)
        clear hLL hsz
        go_wp2_with fail
        refine Gg.out.mono ?_
        rintro e w4 ⟨A4, c4, hs4, rfl, rows, hb4⟩
        have b4 := hb.trans (hb4.mono s0)
        obtain ⟨Aj, cj, hj', ownj⟩ := rows.row 0 q rfl
        obtain ⟨b, off, rfl, hbb, cc⟩ := (CRead.of_own rows.own) 0 _ hj'
        have hpos : (0 : Int) < ((L.length + 1 : Nat) : Int) := by omega
        have kk := Kw.out.trans (b4.mono Kw.out.size)
        have own' := own_lower ownj (show w.heap.size ≤ wr.heap.size by have := Kw.out.size; omega)
        have HE : q = R := by rw [← Hq.out]; exact HFs.out
        rw [Nat.add_zero] at cc
        have Own := Lib.hid own'
        clear Gg rows hj' ownj own' hbb
        go_wp2
        go_ret
        subst HE
        exact ⟨Aj, cj, rfl, Own.out, kk⟩
/-- the first one of the lists of so many people -/
def firstL (t : Nat → Nat → Bool) (n s : Nat) : List Int := (listsC t s [] (List.range n)).headD []
theorem firstL_none {t : Nat → Nat → Bool} {n s : Nat} (h : listsC t s [] (List.range n) = []) : firstL t n s = [] := by unfold firstL; rw [h]; rfl
theorem firstL_some {t : Nat → Nat → Bool} {n s : Nat} {q : List Int} {L : List (List Int)} (h : listsC t s [] (List.range n) = q :: L) : firstL t n s = q := by unfold firstL; rw [h]; rfl
set_option maxHeartbeats 8000000 in
set_option maxRecDepth 100000 in
theorem firstTied_any {T : Nat → Nat} {t : Nat → Nat → Bool} (hT : TiesOf T t) (n : Nat) (hn : n ≤ 12) (s : Nat) (hs1 : 1 ≤ s) (hs : s ≤ 12) (w : World) (htab : TabW w) :
    Calls Tryd.prog 41 #[.agg (tcells T), .int .i64 n, .int .i64 s] w fun e w' => ∃ A c, e = .returned (.slice A (firstL t n s).length c) ∧ w'.ownsRow w.heap.size 3 1 (.slice A (firstL t n s).length c) (firstL t n s).length (icells (firstL t n s)) ∧ (firstL t n s = [] → A = none) ∧ Below w.heap.size w w' := by
  have hset := IsSet.people (n := n) (by omega)
  have hcs : ∀ b ∈ List.range n, b < 12 := fun b hb => by have := List.mem_range.1 hb; omega
  have got := fun (X : World) (hX : TabW X) => allTied_got hT hset hcs (size := (s : Int)) (by omega) X hX
  simp only [Int.toNat_natCast] at got
  have hq2 := fun (h : listsC t s [] (List.range n) = []) => firstL_none h
  have hq1 := fun q L (h : listsC t s [] (List.range n) = q :: L) => firstL_some h
  have hq3 := fun l3 h3 => listsC_size t s [] (List.range n) l3 h3
  simp only [List.length_nil, Nat.zero_add] at hq3
  obtain ⟨R, hR⟩ : ∃ R, firstL t n s = R := ⟨_, rfl⟩
  obtain ⟨LL, hLL⟩ : ∃ LL, listsC t s [] (List.range n) = LL := ⟨_, rfl⟩
  simp only [hR, hLL] at hq1 hq2 hq3 got ⊢
  obtain ⟨z, hz⟩ : ∃ z : Int, ((s : Nat) : Int) = z := ⟨_, rfl⟩
  have hz0 : (0 : Int) < z := by omega
  have hz1 : z ≤ 13 := by omega
  simp only [hz] at got
  rw [hz]
  obtain ⟨E, hE⟩ : ∃ E, 2 ^ n - 1 = E := ⟨_, rfl⟩
  have hev := fun (X : World) => everybody_any n hn X
  simp only [hE] at got hev
  refine (callsIn_wide (n := 5)).1 ?_
  refine callsIn_of_wp_marks Tryd.func41 rfl trivial ?_
  simp only [Tryd.ntmps41, List.size_toArray, List.length_cons, List.length_nil, Nat.reduceAdd, Nat.reduceSub, Array.replicate_succ, Array.replicate_zero, List.push_toArray, List.append_toArray, List.nil_append, List.cons_append]
  refine wpIn_wide.2 ?_
  have HTab := Lib.hid htab
  have Hev := Lib.hid hev
  have row0 := Lib.hid (rowIs_u16 w T 64)
  have Hz := Lib.hid hz
  unfold tcells at got row0 ⊢
  have Got1 := Lib.hid got
  have Hq1 := Lib.hid hq1
  have Hq2 := Lib.hid hq2
  have Hq3 := Lib.hid hq3
  clear htab hT hset hcs got hq1 hq2 hq3 hR hLL hE hev hz
  go_wp2_with fail
  obtain ⟨W, hW⟩ : ∃ W, (w.alloc (Obj.cells #[.int .u16 (T 0 : Nat), .int .u16 (T 1 : Nat), .int .u16 (T 2 : Nat), .int .u16 (T 3 : Nat), .int .u16 (T 4 : Nat), .int .u16 (T 5 : Nat), .int .u16 (T 6 : Nat), .int .u16 (T 7 : Nat), .int .u16 (T 8 : Nat), .int .u16 (T 9 : Nat), .int .u16 (T 10 : Nat), .int .u16 (T 11 : Nat)] 64)).alloc (Obj.cells #[.slice none 0 0] 22) = W := ⟨_, rfl⟩
  have kW : Below w.heap.size w W := by rw [← hW]; go_grown
  have zW : W.heap.size = w.heap.size + 2 := by rw [← hW]; simp
  have rgX : W.rangeAt w.heap.size 0 [.int .u16 (T 0 : Nat), .int .u16 (T 1 : Nat), .int .u16 (T 2 : Nat), .int .u16 (T 3 : Nat), .int .u16 (T 4 : Nat), .int .u16 (T 5 : Nat), .int .u16 (T 6 : Nat), .int .u16 (T 7 : Nat), .int .u16 (T 8 : Nat), .int .u16 (T 9 : Nat), .int .u16 (T 10 : Nat), .int .u16 (T 11 : Nat)] := by
    rw [← hW]
    exact World.rangeAt_alloc (World.rangeAt_of_block (heap_alloc_new w (Obj.cells #[.int .u16 (T 0 : Nat), .int .u16 (T 1 : Nat), .int .u16 (T 2 : Nat), .int .u16 (T 3 : Nat), .int .u16 (T 4 : Nat), .int .u16 (T 5 : Nat), .int .u16 (T 6 : Nat), .int .u16 (T 7 : Nat), .int .u16 (T 8 : Nat), .int .u16 (T 9 : Nat), .int .u16 (T 10 : Nat), .int .u16 (T 11 : Nat)] 64)) 0 12) _
  have cW : W.cell? ⟨w.heap.size + 1, 0, none⟩ = some (.slice none 0 0) := by rw [← hW]; simp
  have fW : W.frozen? ⟨w.heap.size + 1, 0, none⟩ = false := by rw [← hW]; simp
  rw [hW]
  clear hW row0
  have hu : Tryd.prog.underlying 64 = some (.array 12 62) := by kernel_rfl
  have hsz12 : (Tryd.prog.info? 64).map (·.size) = some ([.int .u16 (T 0 : Nat), .int .u16 (T 1 : Nat), .int .u16 (T 2 : Nat), .int .u16 (T 3 : Nat), .int .u16 (T 4 : Nat), .int .u16 (T 5 : Nat), .int .u16 (T 6 : Nat), .int .u16 (T 7 : Nat), .int .u16 (T 8 : Nat), .int .u16 (T 9 : Nat), .int .u16 (T 10 : Nat), .int .u16 (T 11 : Nat)] : List Value).length := by kernel_rfl
  have KX := Lib.hid kW
  have CW := Lib.hid cW
  have FW := Lib.hid fW
  have hpos := HTab.out.pos
  clear kW cW fW
  go_region_held3 (fun w' => w'.rangeAt w.heap.size 0 [.int .u16 (T 0 : Nat), .int .u16 (T 1 : Nat), .int .u16 (T 2 : Nat), .int .u16 (T 3 : Nat), .int .u16 (T 4 : Nat), .int .u16 (T 5 : Nat), .int .u16 (T 6 : Nat), .int .u16 (T 7 : Nat), .int .u16 (T 8 : Nat), .int .u16 (T 9 : Nat), .int .u16 (T 10 : Nat), .int .u16 (T 11 : Nat)]) (first | exact rgX | exact yr) ((first
    | (go_at_call 74; refine (Hev.out _).mono ?_; rintro e w' ⟨rfl, rfl⟩)
    | (go_at_call 73; refine (Got1.out _ (HTab.out.below KX.out.drew hpos)).mono ?_; rintro e w1 ⟨lb, rfl, hb1, hseq⟩; have g1 : Below W.heap.size W w1 := (Below.refl _ _).drew.trans hb1; have yr : w1.rangeAt w.heap.size 0 [.int .u16 (T 0 : Nat), .int .u16 (T 1 : Nat), .int .u16 (T 2 : Nat), .int .u16 (T 3 : Nat), .int .u16 (T 4 : Nat), .int .u16 (T 5 : Nat), .int .u16 (T 6 : Nat), .int .u16 (T 7 : Nat), .int .u16 (T 8 : Nat), .int .u16 (T 9 : Nat), .int .u16 (T 10 : Nat), .int .u16 (T 11 : Nat)] := (fun j v hv => (g1.cell (show w.heap.size < W.heap.size by omega)).trans (rgX j v hv)); have k1 := KX.out.trans (g1.mono KX.out.size))))
  have Seq1 := Lib.hid hseq
  clear hseq
  go_wp2_with fail
  have s1 := g1.size
  have bW : Below W.heap.size W w1 := g1
  have cell1 := carry bW CW.out (by omega)
  have frz1 := (bW.frozen (p := ⟨w.heap.size + 1, 0, none⟩) (by simp; omega)).trans FW.out
  have mk1 : Marks [] w1 := Marks.nil _
  have Mk1 := Lib.hid mk1
  have Cell1 := Lib.hid cell1
  have Frz1 := Lib.hid frz1
  have K1 := Lib.hid k1
  clear mk1 cell1 frz1 k1 yr rgX hb1
  have hnoM' : ∀ j, ¬ isMark [] j := fun j ⟨d, hd, _⟩ => by cases hd
  have hnoM : ∀ j, isMark [] j → j ≠ w1.heap.size := fun j hj => absurd hj (hnoM' j)
  refine wp_rangeFunc_asg rfl (enters_of Tryd.func95 (by kernel_rfl) rfl) Seq1.out (fun j hj => by omega) (fun T x args A C h hs => h.stays hs) (fun T x args W h => h.one)
    (fun S pre Y => (∀ j, S j → w1.heap.size ≤ j) ∧ Below w1.heap.size w1 Y ∧ pre = [])
    (fun c pre Y => c = .ret ∧ ∃ (q : List Int) (A : Option Addr) (c' : Nat), pre = [q] ∧ Y.cell? ⟨w.heap.size + 1, 0, none⟩ = some (.slice A q.length c') ∧ Y.ownsRow w.heap.size 3 1 (.slice A q.length c') q.length (icells q) ∧ (∀ k, (Value.slice A q.length c').ownBlock = some k → w1.heap.size + 2 ≤ k) ∧ Below w.heap.size w Y ∧ w1.heap.size ≤ Y.heap.size ∧ Marks [] Y)
    ?held ?heldx ⟨fun _ h => h.elim, Below.refl _ _, rfl⟩ (fun v => { tmps := #[.agg #[.int .u16 (T 0 : Nat), .int .u16 (T 1 : Nat), .int .u16 (T 2 : Nat), .int .u16 (T 3 : Nat), .int .u16 (T 4 : Nat), .int .u16 (T 5 : Nat), .int .u16 (T 6 : Nat), .int .u16 (T 7 : Nat), .int .u16 (T 8 : Nat), .int .u16 (T 9 : Nat), .int .u16 (T 10 : Nat), .int .u16 (T 11 : Nat)], .int .i64 n, .int .i64 z, .pointer (some ⟨w.heap.size, 0, none⟩), undef, undef, .pointer (some ⟨w.heap.size + 1, 0, none⟩), v, .agg #[.int .u16 (T 0 : Nat), .int .u16 (T 1 : Nat), .int .u16 (T 2 : Nat), .int .u16 (T 3 : Nat), .int .u16 (T 4 : Nat), .int .u16 (T 5 : Nat), .int .u16 (T 6 : Nat), .int .u16 (T 7 : Nat), .int .u16 (T 8 : Nat), .int .u16 (T 9 : Nat), .int .u16 (T 10 : Nat), .int .u16 (T 11 : Nat)], .int .i64 n, .int .u16 (E : Nat), .int .i64 z, .func (.func 95) #[] lb, v, undef, undef], defers := [] }) ?assign ?body ?done ?stop
  case held =>
    rintro S S' pre A C ⟨a1, a2, a3⟩ hap hS'
    exact ⟨fun j hj => (hS' j hj).elim (a1 j) (by have := a2.size; omega), a2.trans (hap.below_of a2.size fun j hj => a1 j hj), a3⟩
  case heldx =>
    rintro c pre A C ⟨hc, q, Aq, cq, a1, a2, a3, a4, a5, a6, a7⟩ hap
    refine ⟨hc, q, Aq, cq, a1, hap.cell a2 (by simp; omega), ?_, a4, a5.trans (hap.below_of (by omega) fun j hj => by omega), Nat.le_trans a6 hap.below.size, a7.same fun j hj => hap.same j ?_ ?_⟩
    · obtain ⟨h1, h2⟩ := a3
      rcases h2 with ⟨hv, h0⟩ | ⟨g, cap, cur, hv, hb, hg, hrest⟩
      · exact ⟨h1, .inl ⟨hv, h0⟩⟩
      · have hk := a4 g (by rw [hv]; rfl)
        exact ⟨h1, .inr ⟨g, cap, cur, hv, hb, (hap.same g (Array.getElem?_eq_some_iff.1 hg).1 (by omega)).trans hg, hrest⟩⟩
    · exact (Array.getElem?_eq_some_iff.1 (a7.block hj)).1
    · exact absurd hj (hnoM' j)
  case assign =>
    intro l v Y K hK
    gi_wp2
    exact hK
  case body =>
    rintro l S' S pre x v Y ⟨a1, a2, rfl⟩ hrd hTS hz hS' _
    obtain ⟨A, c, hv, told, hTb, h100⟩ := hrd
    obtain rfl : v = .slice A x.length c := by simpa using hv
    have Told := Lib.hid told
    have cY := carry a2 Cell1.out (by omega)
    have fY := (a2.frozen (p := ⟨w.heap.size + 1, 0, none⟩) (by simp; omega)).trans Frz1.out
    have sY := a2.size
    have mY := Mk1.out.below a2
    have MY := Lib.hid mY
    have A2 := Lib.hid a2
    clear told mY a2 hTb hv
    gi_wp2_with fail
    refine ⟨trivial, (((callsIn_wide (n := 2)).2 (cloneI_any x A c Y (by omega) (CRead.of_own Told.out))).inRound l).mono ?_⟩
    rintro e w2 ⟨Ac, cc, rfl, own2, hb2⟩
    have c2 := carry hb2 cY (by omega)
    have f2 := (hb2.frozen (p := ⟨w.heap.size + 1, 0, none⟩) (by simp; omega)).trans fY
    have s2 := hb2.size
    have Own2 := Lib.hid own2
    have Hb2 := Lib.hid hb2
    clear own2 hb2 cY fY
    gi_wp2
    have kY := K1.out.trans (A2.out.mono (by omega))
    have k2 := kY.trans (Hb2.out.mono (by omega))
    refine ⟨(Stays.of_below Hb2.out).trans (Stays.setCell (p := ⟨w.heap.size + 1, 0, none⟩) (by simp; omega) w2 _), rfl, x, Ac, cc, rfl, World.cell?_setCell_same' _ _ _ (by rw [c2]; rfl), own_lower (ownsRow_setCell_below Own2.out (a := ⟨w.heap.size + 1, 0, none⟩) (by simp; omega) _) (by omega), fun k hk => ?_, k2.setCell (p := ⟨w.heap.size + 1, 0, none⟩) (by simp) _, by simp; omega, (MY.out.below Hb2.out).same fun j hj => Below.heap_setCell w2 _ _ _ ?_⟩
    · have := (own_lies Own2.out k hk).1; omega
    · exact absurd hj (hnoM' j)
  case done =>
    rintro S Y ⟨a1, a2, hpre⟩ hD
    have hRe : R = [] := Hq2.out hpre
    have HRe := Lib.hid hRe
    have sY := a2.size
    have cY := carry a2 Cell1.out (by omega)
    have fY := (a2.frozen (p := ⟨w.heap.size + 1, 0, none⟩) (by simp; omega)).trans Frz1.out
    have kY := K1.out.trans (a2.mono (by omega))
    have mk2 := (Mk1.out.below a2).cons hD fun j hj => hnoM j hj
    have hge : ∀ j, isMark [{ target := .collected w1.heap.size, args := #[] }] j → W.heap.size ≤ j := fun j ⟨d, hd, ht⟩ => by
      rcases List.mem_cons.1 hd with rfl | hd
      · simp only [Target.collected.injEq] at ht; omega
      · cases hd
    have Mk2 := Lib.hid mk2
    have KY := Lib.hid kY
    clear hpre hRe a2 mk2 kY
    go_wp2
    have hM2 : Marks [{ target := .collected w1.heap.size, args := #[] }] (Y.setCell ⟨w.heap.size + 1, 0, none⟩ (.slice none 0 0)) := Mk2.out.same fun j hj => Below.heap_setCell Y _ _ _ (by have := hge j hj; simp; omega)
    have kX2 := KY.out.setCell (p := ⟨w.heap.size + 1, 0, none⟩) (by simp) (.slice none 0 0)
    have c9 : (Y.setCell ⟨w.heap.size + 1, 0, none⟩ (.slice none 0 0)).cell? ⟨w.heap.size + 1, 0, none⟩ = some (.slice none 0 0) := World.cell?_setCell_same' _ _ _ (by rw [cY]; rfl)
    refine leaves_marks _ _ hM2 fun W' ha => ⟨.slice none 0 0, ?_, ?_⟩
    · have c10 := ha.cell c9 (fun h => by have := hge _ h; simp at this; omega)
      simp [results, Tryd.results41, go_sem, c10]
    · rw [HRe.out]
      exact ⟨none, 0, rfl, World.ownsRow_nil _ _ _ _, fun _ => rfl, kX2.trans (ha.below_of (by simp; omega) fun j hj => by have := hge _ hj; omega)⟩
  case stop =>
    rintro c pre x Y hpre ⟨rfl, q, A, c', hq, cell, own, hblk, kY, sY, mY⟩ hD
    have hRq : q = R := by
      obtain ⟨L, hL⟩ := hpre
      rw [hq] at hL
      exact (Hq1.out q L hL.symm).symm
    have hqs : q ≠ [] := by
      intro e0
      obtain ⟨L, hL⟩ := hpre
      rw [hq] at hL
      have h9 := Hq3.out q (by rw [← hL]; simp)
      rw [e0] at h9
      simp at h9
      omega
    subst hRq
    have Own := Lib.hid own
    clear own
    go_wp2
    have mk2 := mY.cons hD fun j hj => hnoM j hj
    have hge : ∀ j, isMark [{ target := .collected w1.heap.size, args := #[] }] j → W.heap.size ≤ j := fun j ⟨d, hd, ht⟩ => by
      rcases List.mem_cons.1 hd with rfl | hd
      · simp only [Target.collected.injEq] at ht; omega
      · cases hd
    refine leaves_marks _ _ mk2 fun W' ha => ⟨.slice A q.length c', ?_, ?_⟩
    · have c10 := ha.cell cell (fun h => by have := hge _ h; simp at this; omega)
      simp [results, Tryd.results41, go_sem, c10]
    · exact ⟨A, c', rfl, own_at Own.out (mk2.rows ha), fun e0 => absurd e0 hqs, kY.trans (ha.below_of (by omega) fun j hj => by have := hge _ hj; omega)⟩
set_option maxHeartbeats 4000000 in
set_option maxRecDepth 100000 in
theorem greatestTied_any {T : Nat → Nat} {t : Nat → Nat → Bool} (hT : TiesOf T t) (n : Nat) (hn : n ≤ 12) (w : World) (htab : TabW w) :
    Calls Tryd.prog 48 #[.agg (tcells T), .int .i64 n] w fun e w' => ∃ A c, e = .returned (.slice A (firstG t n n).length c) ∧ w'.ownsRow w.heap.size 3 1 (.slice A (firstG t n n).length c) (firstG t n n).length (icells (firstG t n n)) ∧ Below w.heap.size w w' := by
  have call := fun (s : Nat) (h1 : 1 ≤ s) (hs : s ≤ 12) (X : World) (hX : TabW X) => firstTied_any hT n hn s h1 hs X hX
  have hnil := fun s (h : firstL t n (s + 1) = []) => show firstG t n (s + 1) = firstG t n s by
    cases e : listsC t (s + 1) [] (List.range n) with
    | nil => exact firstG_none e
    | cons q L =>
      have h2 := listsC_size t (s + 1) [] (List.range n) q (by rw [e]; simp)
      rw [firstL_some e] at h
      rw [h] at h2
      simp at h2
  have hcons := fun s (h : firstL t n (s + 1) ≠ []) => show firstG t n (s + 1) = firstL t n (s + 1) by
    cases e : listsC t (s + 1) [] (List.range n) with
    | nil => exact absurd (firstL_none e) h
    | cons q L => rw [firstG_some e, firstL_some e]
  have h13 := fun s (hs : s ≤ 12) => show (firstL t n s).length ≤ 13 by
    cases e : listsC t s [] (List.range n) with
    | nil => rw [firstL_none e]; simp
    | cons q L =>
      have h2 := listsC_size t s [] (List.range n) q (by rw [e]; simp)
      rw [firstL_some e, h2]
      simp
      omega
  obtain ⟨F, hF⟩ : ∃ F, firstG t n = F := ⟨_, rfl⟩
  have hF0 : F 0 = [] := by rw [← hF]; rfl
  simp only [hF] at hnil hcons ⊢
  obtain ⟨R, hR⟩ : ∃ R, F n = R := ⟨_, rfl⟩
  rw [hR]
  have HTab := Lib.hid htab
  have Call := Lib.hid call
  have Hnil := Lib.hid hnil
  have Hcons := Lib.hid hcons
  have H13 := Lib.hid h13
  have HF0 := Lib.hid hF0
  have HR := Lib.hid hR
  have row0 := Lib.hid (rowIs_u16 w T 64)
  unfold tcells at row0 ⊢
  have call2 := Call.out
  unfold tcells at call2
  have Call2 := Lib.hid call2
  clear htab hT call hnil hcons h13 hF hF0 hR Call call2
  go_enter Tryd.func48, Tryd.ntmps48
  go_wp2_with fail
  obtain ⟨W, hW⟩ : ∃ W, w.alloc (Obj.cells #[.int .u16 (T 0 : Nat), .int .u16 (T 1 : Nat), .int .u16 (T 2 : Nat), .int .u16 (T 3 : Nat), .int .u16 (T 4 : Nat), .int .u16 (T 5 : Nat), .int .u16 (T 6 : Nat), .int .u16 (T 7 : Nat), .int .u16 (T 8 : Nat), .int .u16 (T 9 : Nat), .int .u16 (T 10 : Nat), .int .u16 (T 11 : Nat)] 64) = W := ⟨_, rfl⟩
  have kW : Below w.heap.size w W := by rw [← hW]; go_grown
  have sW : w.heap.size < W.heap.size := by rw [← hW]; simp
  have rw0 : W.rowIs w.heap.size 64 12 (fun j => .int .u16 (T j)) := by rw [← hW]; exact row0.out
  have Rw0 := Lib.hid rw0
  rw [hW]
  clear hW rw0 row0
  go_loopw [5] (fun i wr => ∃ s : Nat, s ≤ n ∧ i = .int .i64 s ∧ F s = R ∧ Below W.heap.size W wr) (fun i _ => (intOf i).toNat)
  case atStart => exact ⟨n, Nat.le_refl _, rfl, HR.out, Below.refl _ _⟩
  case round =>
    obtain ⟨s, hs, rfl, hFs, hb⟩ := hrel
    have s0 := hb.size
    have HFs := Lib.hid hFs
    clear hFs
    cases s with
    | zero =>
      have hRe : [] = R := by rw [← HFs.out, HF0.out]
      have kk := kW.trans (hb.mono kW.size)
      subst hRe
      have hge : ¬ ((0 : Int) < 0) := by omega
      go_wp2
      go_ret
      exact ⟨none, 0, rfl, World.ownsRow_nil _ _ _ _, kk⟩
    | succ s =>
      have hpos := HTab.out.pos
      have kX := kW.trans (hb.mono kW.size)
      have g := Call2.out (s + 1) (by omega) (by omega) wr (HTab.out.below kX hpos)
      have hnil := Hnil.out s
      have hcons := Hcons.out s
      have h13 := H13.out (s + 1) (by omega)
      obtain ⟨q, hq⟩ : ∃ q, firstL t n (s + 1) = q := ⟨_, rfl⟩
      simp only [hq] at g hnil hcons h13
      obtain ⟨z, hz⟩ : ∃ z : Int, ((s + 1 : Nat) : Int) = z := ⟨_, rfl⟩
      have hz0 : (0 : Int) < z := by omega
      have hz1 : z ≤ 13 := by omega
      rw [hz] at g ⊢
      have rwx : wr.rowIs w.heap.size 64 12 (fun j => .int .u16 (T j)) := Rw0.out.of_block (hb.block _ sW)
      have Hz := Lib.hid hz
      have Gg := Lib.hid g
      have KX := Lib.hid kX
      have r0 := rwx.cell (i := 0) (by omega)
      have r1 := rwx.cell (i := 1) (by omega)
      have r2 := rwx.cell (i := 2) (by omega)
      have r3 := rwx.cell (i := 3) (by omega)
      have r4 := rwx.cell (i := 4) (by omega)
      have r5 := rwx.cell (i := 5) (by omega)
      have r6 := rwx.cell (i := 6) (by omega)
      have r7 := rwx.cell (i := 7) (by omega)
      have r8 := rwx.cell (i := 8) (by omega)
      have r9 := rwx.cell (i := 9) (by omega)
      have r10 := rwx.cell (i := 10) (by omega)
      have r11 := rwx.cell (i := 11) (by omega)
      clear hz g kX rwx hq
      go_wp2_with fail
      refine Gg.out.mono ?_
      rintro e w4 ⟨A4, c4, rfl, own4, hnone, hb4⟩
      have b4 := hb.trans (hb4.mono s0)
      have k4 := KX.out.trans (hb4.mono KX.out.size)
      have Own4 := Lib.hid own4
      clear r0 r1 r2 r3 r4 r5 r6 r7 r8 r9 r10 r11 own4 hb4
      by_cases hqe : q = []
      · have hA := hnone hqe
        subst hA
        have hFn := Lib.hid ((hnil hqe).symm.trans HFs.out)
        have hnn : ∀ X : World, (binOp .neq 22 (.slice none 0 c4) (.slice none 0 0)).run Tryd.prog X = .ok (.bool false) X := fun X => run_neq_slice_nil_any X 22 _ none 0 c4 0 0 Tryd.underlying22
        subst hqe
        clear hnone hnil hcons
        go_wp2_with fail
        go_wp2
        go_roundw
        case rel => exact ⟨s, by omega, by have := Hz.out; congr 1; omega, hFn.out, b4⟩
        case measure => simp [intOf]; have := Hz.out; omega
      · have hqR := Lib.hid ((hcons hqe).symm.trans HFs.out)
        have hpl : 0 < q.length := List.length_pos_iff.2 hqe
        obtain ⟨gg, rfl⟩ := own_form Own4.out hpl
        have hsz := KX.out.size
        have hnn : ∀ X : World, (binOp .neq 22 (.slice (some ⟨gg, 0, none⟩) q.length c4) (.slice none 0 0)).run Tryd.prog X = .ok (.bool true) X := fun X => run_neq_slice_nil_any X 22 _ (some ⟨gg, 0, none⟩) q.length c4 0 0 Tryd.underlying22
        clear hnone hnil hcons
        go_wp2
        go_ret
        rw [← hqR.out]
        exact ⟨_, c4, rfl, own_lower Own4.out hsz, k4⟩
set_option maxHeartbeats 2000000 in
set_option maxRecDepth 100000 in
theorem specGreatestGroup_any (p : Int) (l : PL) (A : Option Addr) (c : Nat) (w : World) (hl : l.length ≤ 1048576) (hA : CRead w w.heap.size A (pcells l)) :
    Calls Tryd.prog 26 #[.agg #[.int .i64 p, .slice A l.length c]] w (GotIntsOk w (resGreatestGroup p l).1 (resGreatestGroup p l).2) := by
  have hr : CRead (w.alloc (Obj.cells #[.int .i64 p, .slice A l.length c] 50)) (w.alloc (Obj.cells #[.int .i64 p, .slice A l.length c] 50)).heap.size A (pcells l) := (hA.below (B' := w.heap.size) (by go_grown) (Nat.le_refl _)).more (by go_size)
  cases hp : isP p l with
  | false =>
    have e : resGreatestGroup p l = ([], false) := by simp [resGreatestGroup, hp]
    rw [e]
    have Hp := Lib.hid hp
    clear hp e
    go_enter Tryd.func26, Tryd.ntmps26
    go_wp2_with fail
    refine (paGood_any _ _ _ _ _ hl hr).mono ?_
    rw [Hp.out]
    rintro e w2 ⟨rfl, hb2⟩
    simp only [World.size_alloc] at hb2
    go_wp2
    go_ret2
    exact ⟨none, 0, rfl, World.ownsRow_nil _ _ _ _, Below.trans (b := _) (by go_grown) (hb2.mono (by omega))⟩
  | true =>
    obtain ⟨n, rfl⟩ : ∃ n : Nat, p = n := ⟨p.toNat, by have := isP_range hp; omega⟩
    have e : resGreatestGroup n l = (firstG (adj l) n n, true) := by simp [resGreatestGroup, hp]
    rw [e]
    obtain ⟨R, hR⟩ : ∃ R, firstG (adj l) n n = R := ⟨_, rfl⟩
    have call := fun (X : World) (hX : CRead X X.heap.size A (pcells l)) => trGreatest_any n l A c X hp hX
    simp only [hR] at call ⊢
    have Call := Lib.hid call
    have Hp := Lib.hid hp
    clear hp e hR call
    go_enter Tryd.func26, Tryd.ntmps26
    go_wp2_with fail
    refine (paGood_any _ _ _ _ _ hl hr).mono ?_
    rw [Hp.out]
    rintro e w2 ⟨rfl, hb2⟩
    have k2 : Below w.heap.size w w2 := Below.trans (b := _) (by go_grown) (hb2.mono (by simp))
    have c0 : w2.cell? ⟨w.heap.size, 0, none⟩ = some (.int .i64 n) := carry hb2 (by simp) (by simp)
    have c1 : w2.cell? ⟨w.heap.size, 1, none⟩ = some (.slice A l.length c) := carry hb2 (by simp) (by simp)
    go_wp2_with fail
    refine (Call.out _ ((hA.below k2 (Nat.le_refl _)).more k2.size)).mono ?_
    rintro e w3 ⟨A3, c3, rfl, own, hb3⟩
    have k3 := k2.trans (hb3.mono k2.size)
    have Own := Lib.hid (own_lower own k2.size)
    clear own
    go_wp2
    go_ret2
    exact ⟨A3, c3, rfl, Own.out, k3⟩
set_option maxHeartbeats 4000000 in
set_option maxRecDepth 100000 in
theorem implGreatestGroup_any (p : Int) (l : PL) (A : Option Addr) (c : Nat) (w : World) (hl : l.length ≤ 1048576) (hA : CRead w w.heap.size A (pcells l)) (htab : TabW w) :
    Calls Tryd.prog 28 #[.agg #[.int .i64 p, .slice A l.length c]] w (GotIntsOk w (resGreatestGroup p l).1 (resGreatestGroup p l).2) := by
  have hr : CRead (w.alloc (Obj.cells #[.int .i64 p, .slice A l.length c] 50)) (w.alloc (Obj.cells #[.int .i64 p, .slice A l.length c] 50)).heap.size A (pcells l) := (hA.below (B' := w.heap.size) (by go_grown) (Nat.le_refl _)).more (by go_size)
  have HTab := Lib.hid htab
  clear htab
  cases hp : isP p l with
  | false =>
    have e : resGreatestGroup p l = ([], false) := by simp [resGreatestGroup, hp]
    rw [e]
    have Hp := Lib.hid hp
    clear hp e
    go_enter Tryd.func28, Tryd.ntmps28
    go_wp2_with fail
    refine (isParty_any _ _ _ _ _ hl hr).mono ?_
    rw [Hp.out]
    rintro e w2 ⟨rfl, hb2⟩
    simp only [World.size_alloc] at hb2
    go_wp2
    go_ret2
    exact ⟨none, 0, rfl, World.ownsRow_nil _ _ _ _, Below.trans (b := _) (by go_grown) (hb2.mono (by omega))⟩
  | true =>
    obtain ⟨n, rfl⟩ : ∃ n : Nat, p = n := ⟨p.toNat, by have := isP_range hp; omega⟩
    have hn := isP_range hp
    have e : resGreatestGroup n l = (firstG (adj l) n n, true) := by simp [resGreatestGroup, hp]
    rw [e]
    obtain ⟨R, hR⟩ : ∃ R, firstG (adj l) n n = R := ⟨_, rfl⟩
    have hT := friendsT_of hp
    have h5 := fun (X : World) (hX : TabW X) => greatestTied_any hT n (by omega) X hX
    simp only [hR] at h5 ⊢
    have H5 := Lib.hid h5
    have Hp := Lib.hid hp
    clear hp e hT h5 hR
    go_enter Tryd.func28, Tryd.ntmps28
    go_wp2_with fail
    refine (isParty_any _ _ _ _ _ hl hr).mono ?_
    rw [Hp.out]
    rintro e w2 ⟨rfl, hb2⟩
    have s2 := hb2.size
    simp only [World.size_alloc] at s2
    have k2 : Below w.heap.size w w2 := Below.trans (b := _) (by go_grown) (hb2.mono (by simp))
    have c0 : w2.cell? ⟨w.heap.size, 0, none⟩ = some (.int .i64 n) := carry hb2 (by simp) (by simp)
    have c1 : w2.cell? ⟨w.heap.size, 1, none⟩ = some (.slice A l.length c) := carry hb2 (by simp) (by simp)
    have hpos := HTab.out.pos
    clear hb2
    go_wp2
    go_region_held3 (fun w' => w'.cell? ⟨w.heap.size, 0, none⟩ = some (.int .i64 n) ∧ w'.cell? ⟨w.heap.size, 1, none⟩ = some (.slice A l.length c)) (first | exact ⟨c0, c1⟩ | exact ⟨y0, y1⟩ | exact ⟨x0, x1⟩) ((first
      | (go_at_call 59; refine (friendsIn_any _ l A c _ Hp.out ((hA.below k2.drew (Nat.le_refl _)).more k2.size)).mono ?_; rintro e w3 ⟨rfl, _, hb3⟩; have g3 : Below w2.heap.size w2 w3 := (Below.refl _ _).drew.trans hb3; have y0 := carry g3 c0 (by omega); have y1 := carry g3 c1 (by omega); have s3 := g3.size; have k3 := k2.trans (g3.mono k2.size))
      | (go_at_call 48; refine (H5.out w3 (HTab.out.below k3 hpos)).mono ?_; rintro e w5 ⟨A5, c5, rfl, own5, hb5⟩; have x0 := carry hb5 y0 (by omega); have x1 := carry hb5 y1 (by omega); have k5 := k3.trans (hb5.mono k3.size))))
    all_goals
      have own' := own_lower own5 k3.size
      clear own5
      go_wp2
      go_ret2
      exact ⟨A5, c5, rfl, own', k5⟩
end Go.Proofs.YtepoabbkalhifaaDoor
/-
  'GroupBound', 'LeastMustHave': the model's and the program's, by their contracts.
-/
namespace Go.Proofs.YtepoabbkalhifaaDoor
open Go.RowKit

def kindsI (r s : Int) : Bool := decide (1 ≤ r ∧ r ≤ 4) && decide (1 ≤ s ∧ s ≤ 4)
theorem kindsI_yes {r s : Int} (h : kindsI r s = true) : (1 ≤ r ∧ r ≤ 4) ∧ (1 ≤ s ∧ s ≤ 4) := by simpa [kindsI] using h
/-! ## GroupBound -/
def resGroupBound (r s : Int) : Int × Bool := if kindsI r s then (waysI (r + s - 2) (r - 1).toNat, true) else (0, false)
/-! ## LeastMustHave -/
def resLeastMustHave (r s : Int) : Int × Bool :=
  if kindsI r s && decide (r + s ≤ 7) then (if min r s = 1 then 1 else if min r s = 2 then max r s else if max r s = 3 then 6 else 9, true) else (0, false)
theorem four_cases {r : Int} (h : 1 ≤ r ∧ r ≤ 4) : r = 1 ∨ r = 2 ∨ r = 3 ∨ r = 4 := by omega
end Go.Proofs.YtepoabbkalhifaaDoor
/-
  TWO PARTIES BESIDE EACH OTHER, as lists and as tables.
-/
namespace Go.Proofs.YtepoabbkalhifaaDoor
open Go.RowKit

def shifted (p : Int) (l : PL) : PL := l.map fun q => (q.1 + p, q.2 + p)
def besideP (p : Int) (l m : PL) : PL := l ++ shifted p m
theorem mem_shifted {p : Int} {l : PL} {q : Int × Int} : q ∈ shifted p l ↔ (q.1 - p, q.2 - p) ∈ l := by
  unfold shifted
  rw [List.mem_map]
  constructor
  · rintro ⟨r, hr, rfl⟩
    have e : (r.1 + p - p, r.2 + p - p) = r := Prod.ext (by simp) (by simp)
    rw [e]
    exact hr
  · intro h
    exact ⟨_, h, Prod.ext (by simp) (by simp)⟩
theorem beside_list {p s : Int} {l m : PL} (hl : isP p l = true) (hm : isP s m = true) (h : p + s ≤ 12) : IsList (p + s) (besideP p l m) := by
  obtain ⟨a0, a1, a2, a3⟩ := isP_list hl
  obtain ⟨b0, b1, b2, b3⟩ := isP_list hm
  refine ⟨by omega, h, fun q hq => ?_, ?_⟩
  · unfold besideP at hq
    rcases List.mem_append.1 hq with hq | hq
    · have := a2 q hq
      omega
    · have := b2 _ (mem_shifted.1 hq)
      simp only at this
      omega
  · unfold besideP
    rw [List.pairwise_append]
    refine ⟨a3, ?_, ?_⟩
    · unfold shifted
      rw [List.pairwise_map]
      exact b3.imp fun {x y} h => by unfold plt at *; simp only; omega
    · intro x hx y hy
      have h1 := a2 x hx
      have h2 := b2 _ (mem_shifted.1 hy)
      unfold plt
      simp only at h2
      omega
/-- the table of both: each one's own, and x between them -/
def joinT (p : Nat) (t t' : Nat → Nat → Bool) (x : Bool) : Nat → Nat → Bool := fun i j => if i < p then (if j < p then t i j else x) else if j < p then x else t' (i - p) (j - p)
theorem joinT_adj {p s : Nat} {l m : PL} (hl : isP p l = true) (hm : isP s m = true) {i j : Nat} (hij : i < j) : joinT p (adj l) (adj m) false i j = true ↔ ((i : Int), (j : Int)) ∈ besideP p l m := by
  have a2 := (isP_list hl).2.2.1
  have b2 := (isP_list hm).2.2.1
  unfold joinT besideP
  rw [List.mem_append, mem_shifted]
  by_cases hj : j < p
  · rw [if_pos (by omega), if_pos hj, adj_pair hl hij, List.contains_iff_mem]
    refine ⟨.inl, fun h => h.elim id fun h => ?_⟩
    have := b2 _ h
    simp only at this
    omega
  · have hn : ¬ ((i : Int), (j : Int)) ∈ l := fun h => by
      have := a2 _ h
      simp only at this
      omega
    by_cases hi : i < p
    · rw [if_pos hi, if_neg hj]
      refine ⟨fun h => (by cases h), fun h => ?_⟩
      rcases h with h | h
      · exact absurd h hn
      · have := b2 _ h
        simp only at this
        omega
    · rw [if_neg hi, if_neg hj, adj_pair hm (by omega), List.contains_iff_mem]
      have e1 : ((i - p : Nat) : Int) = (i : Int) - p := by omega
      have e2 : ((j - p : Nat) : Int) = (j : Int) - p := by omega
      rw [e1, e2]
      exact ⟨.inr, fun h => h.elim (fun h => absurd h hn) id⟩
theorem tabP_beside {p s : Nat} {l m : PL} (hl : isP p l = true) (hm : isP s m = true) (h : p + s ≤ 12) : tabP (p + s) (joinT p (adj l) (adj m) false) = besideP p l m := by
  have hb := beside_list hl hm (by omega)
  refine sorted_ext (filter_list h _).2.2.2 hb.2.2.2 fun q => ?_
  unfold tabP
  rw [List.mem_filter, mem_allP]
  constructor
  · rintro ⟨⟨h0, h1, h2⟩, ht⟩
    have e : q = (((q.1.toNat : Nat) : Int), ((q.2.toNat : Nat) : Int)) := Prod.ext (by simp; omega) (by simp; omega)
    rw [e]
    exact (joinT_adj hl hm (by omega)).1 ht
  · intro hq
    have h3 := hb.2.2.1 q hq
    have e : q = (((q.1.toNat : Nat) : Int), ((q.2.toNat : Nat) : Int)) := Prod.ext (by simp; omega) (by simp; omega)
    refine ⟨by omega, (joinT_adj hl hm (by omega)).2 ?_⟩
    rw [← e]
    exact hq
end Go.Proofs.YtepoabbkalhifaaDoor
