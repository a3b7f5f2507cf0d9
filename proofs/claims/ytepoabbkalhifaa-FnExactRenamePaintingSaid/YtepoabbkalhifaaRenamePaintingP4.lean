/-
  Texts put together for the claim of 'RenamePainting' (pack 4): PairsOf, OtherP, Every, ShadesOf, PBox, KBox, PaintOf, NameP, RenP, Has, Own, LRows, OwnRow, PaintS.
-/
import Derived.Test.YtepoabbkalhifaaRenamePaintingP2
import Derived.Test.YtepoabbkalhifaaRenamePaintingP3
import Derived.Deep.RegionHeld3
import Derived.Deep.RegionLaw
import Derived.Deep.AppendLies
import Derived.ArgAppend
import Derived.Laws.AppendOwnNone
/-
  'impl.pairsOf': the pairs of the meetings that are taken, by its contracts: for friends and for strangers.
-/
namespace Go.Proofs.Ytepoabbkalhifaa
open Go.RowKit

def taken (f : Bool → Bool) (l : ML) : PL := (l.filter fun m => f m.2.2).map fun m => (m.1, m.2.1)
theorem taken_le (f : Bool → Bool) (l : ML) : (taken f l).length ≤ l.length := by unfold taken; rw [List.length_map]; exact List.length_filter_le _ _
theorem taken_snoc (f : Bool → Bool) (l : ML) (x y : Int) (b : Bool) : taken f (l ++ [(x, y, b)]) = taken f l ++ if f b = true then [(x, y)] else [] := by
  unfold taken
  rw [List.filter_append, List.map_append]
  congr 1
  by_cases h : f b = true
  · rw [if_pos h, List.filter_cons_of_pos (by exact h)]; rfl
  · rw [if_neg h, List.filter_cons_of_neg (by exact h)]; rfl
theorem taken_meets (f : Bool → Bool) (l qs : PL) : taken f (meets l qs) = qs.filter fun q => f (l.contains q) := by
  unfold taken meets
  rw [List.filter_map, List.map_map]
  have e : ((fun m : Int × Int × Bool => (m.1, m.2.1)) ∘ fun q : Int × Int => (q.1, q.2, l.contains q)) = id := rfl
  rw [e, List.map_id]
  rfl

set_option maxHeartbeats 400000 in
theorem ofStrangers_any (x y : Int) (f : Bool) (w : World) : Calls Try.prog 107 #[.agg #[.int .i64 x, .int .i64 y, .bool f]] w fun e w' => e = .returned (.bool (!f)) ∧ Below w.heap.size w w' := by
  go_enter Try.func107, Try.ntmps107
  go_wp2
  go_ret
  exact ⟨by simp, by go_grown⟩

set_option maxHeartbeats 2000000 in
set_option maxRecDepth 100000 in
theorem pairsOf_ofStrangers_any (l : ML) (A : Option Addr) (c : Nat) (w : World) (hl : l.length ≤ 1000) (hA : CRead w w.heap.size A (mcells l)) :
    Calls Try.prog 105 #[.slice A l.length c, .func (.func 107) #[] #[]] w fun e w' => ∃ A' c', e = .returned (.slice A' (taken (fun b => !b) l).length c') ∧
      w'.ownsRow w.heap.size 85 2 (.slice A' (taken (fun b => !b) l).length c') (taken (fun b => !b) l).length (pcells (taken (fun b => !b) l)) ∧ Below w.heap.size w w' := by
  obtain ⟨i0, hi, hz0, hz1, hz2⟩ := info_parts Try.infoPair
  go_enter Try.func105, Try.ntmps105
  go_wp2
  go_loopw [5, 10] (fun v i wr => ∃ k : Nat, k ≤ l.length ∧ i = .int .i64 k ∧ wr.ownsRow w.heap.size 85 2 v (taken (fun b => !b) (l.take k)).length (pcells (taken (fun b => !b) (l.take k))) ∧ Below w.heap.size w wr) (fun _ i _ => l.length - (intOf i).toNat)
  case atStart => exact ⟨0, Nat.zero_le _, rfl, World.ownsRow_nil _ _ _ _, Below.refl _ _⟩
  case round =>
    obtain ⟨k, hk, rfl, hown, hb⟩ := hrel
    have hs := hb.size
    by_cases hlt : k < l.length
    · obtain ⟨⟨x, y, f⟩, hx⟩ := getSome l k hlt
      obtain ⟨bb, off, rfl, hbb, c0, c1, c2⟩ := (hA.below hb (Nat.le_refl _)).meet hx
      have hki : (k : Int) < (l.length : Int) := by omega
      have htl := taken_le (fun b => !b) (l.take k)
      have htl2 : (l.take k).length ≤ 1000 := Nat.le_trans (List.length_take_le' _ _) hl
      have hsn := taken_snoc (fun b => !b) (l.take k) x y f
      have Hx := Lib.hid hx
      have Hsn := Lib.hid hsn
      clear hx hsn
      cases hf : !f with
      | false =>
        have Hf := Lib.hid hf
        clear hf
        go_wp2_with fail
        refine (ofStrangers_any x y f _).mono ?_
        rw [Hf.out]
        rintro e w2 ⟨rfl, hb2⟩
        simp only [World.size_alloc] at hb2
        have k2 : Below wr.heap.size wr w2 := Below.trans (b := _) (by go_grown) (hb2.mono (by omega))
        go_wp2
        go_roundw
        case rel =>
          refine ⟨k + 1, by omega, by go_num, ?_, hb.trans (k2.mono hs)⟩
          rw [List.take_add_one, Hx.out, Option.toList_some, Hsn.out, Hf.out]
          simp only [Bool.false_eq_true, if_false, List.append_nil]
          exact own_below hown k2 (Nat.le_refl _)
        case measure => simp [intOf]; omega
      | true =>
        have Hf := Lib.hid hf
        clear hf
        go_wp2_with fail
        refine (ofStrangers_any x y f _).mono ?_
        rw [Hf.out]
        rintro e w2 ⟨rfl, hb2⟩
        simp only [World.size_alloc] at hb2
        have k2 : Below wr.heap.size wr w2 := Below.trans (b := _) (by go_grown) (hb2.mono (by omega))
        have d0 : w2.cell? ⟨wr.heap.size, 0, none⟩ = some (.int .i64 x) := carry hb2 (by simp) (by omega)
        have d1 : w2.cell? ⟨wr.heap.size, 1, none⟩ = some (.int .i64 y) := carry hb2 (by simp) (by omega)
        have own2 := own_below hown k2 (Nat.le_refl _)
        have s2 := k2.size
        clear hown c0 c1 c2
        go_wp2_with (at_builtin; refine wpList_append_own _ rfl _ _ 43 rfl w.heap.size 85 i0 _ 2 16 Try.underlying43 hi hz0 hz1 hz2 rfl (by decide) _ _ _ rfl (own2.alloc _) ⟨w2.heap.size, 0, none⟩ 1 1 [.int .i64 x, .int .i64 y] rfl rfl (two_cells (by simp) (by simp)) (two_one rfl rfl) (by unfold maxLen; omega) (by omega) (by simp; omega) ?_; intro v1 w3 hown3 hg3 _; obtain ⟨A1, d1', rfl, _⟩ := own_shape hown3)
        go_roundw
        case rel =>
          refine ⟨k + 1, by omega, by go_num, ?_, ?_⟩
          · rw [List.take_add_one, Hx.out, Option.toList_some, Hsn.out, Hf.out]
            simp only [if_true]
            rw [pcells_append, List.length_append]
            exact hown3
          · exact ((hb.trans (k2.mono hs)).alloc (by omega) _).grown hg3 (by simp; omega) (fun k hk => (own2.lt k hk).1)
        case measure => simp [intOf]; omega
    · have hkl : k = l.length := by omega
      subst hkl
      have hge : ¬ ((l.length : Int) < l.length) := by omega
      rw [List.take_length] at hown
      obtain ⟨A', c', rfl, _⟩ := own_shape hown
      have Hown := Lib.hid hown
      clear hown
      go_wp2
      go_ret
      exact ⟨A', c', rfl, Hown.out, hb⟩
end Go.Proofs.Ytepoabbkalhifaa
/-
  'OtherParty' and 'FullParty': the model's and the program's, by their contracts.
-/
namespace Go.Proofs.Ytepoabbkalhifaa
open Go.RowKit

set_option maxHeartbeats 2000000 in
set_option maxRecDepth 100000 in
theorem other_any (p : Int) (l : PL) (A : Option Addr) (c : Nat) (w : World) (hp : isP p l = true) (hA : CRead w w.heap.size A (pcells l)) :
    Calls Try.prog 82 #[.agg #[.int .i64 p, .slice A l.length c]] w (GotParty w p (otherP p.toNat l)) := by
  have hn := isP_range hp
  have hml : (meets l (allP p.toNat)).length ≤ 1000 := by rw [meets_length]; have := allP_length_le (n := p.toNat) (by omega); omega
  have hrl : (otherP p.toNat l).length ≤ 66 := filter_length_le (by omega) _
  have htk : taken (fun b => !b) (meets l (allP p.toNat)) = otherP p.toNat l := taken_meets _ _ _
  have Htk := Lib.hid htk
  have Hp := Lib.hid hp
  clear hp htk
  go_enter Try.func82, Try.ntmps82
  go_wp2
  generalize hW : (w.alloc (Obj.cells #[.int .i64 p, .slice A l.length c] 45)).alloc (Obj.cells #[.int .i64 0, .slice none 0 0] 45) = W
  have a0 : W.cell? ⟨w.heap.size, 0, none⟩ = some (.int .i64 p) := by rw [← hW]; simp
  have a1 : W.cell? ⟨w.heap.size, 1, none⟩ = some (.slice A l.length c) := by rw [← hW]; simp
  have x0 : W.cell? ⟨w.heap.size + 1, 0, none⟩ = some (.int .i64 0) := by rw [← hW]; simp
  have x1 : W.cell? ⟨w.heap.size + 1, 1, none⟩ = some (.slice none 0 0) := by rw [← hW]; simp
  have z0 : W.frozen? ⟨w.heap.size + 1, 0, none⟩ = false := by rw [← hW]; simp
  have z1 : W.frozen? ⟨w.heap.size + 1, 1, none⟩ = false := by rw [← hW]; simp
  have kW : Below w.heap.size w W := by rw [← hW]; go_grown
  have sW : w.heap.size + 1 < W.heap.size := by rw [← hW]; simp
  clear hW
  go_region_held3 (fun w' => w'.cell? ⟨w.heap.size, 0, none⟩ = some (.int .i64 p) ∧ w'.cell? ⟨w.heap.size, 1, none⟩ = some (.slice A l.length c)) (first | exact ⟨a0, a1⟩ | exact ⟨b0, b1⟩ | exact ⟨d0, d1⟩ | exact ⟨(World.cell?_setCell_other _ _ _ _ (by simp)).trans ((World.cell?_setCell_other _ _ _ _ (by simp)).trans d0), (World.cell?_setCell_other _ _ _ _ (by simp)).trans ((World.cell?_setCell_other _ _ _ _ (by simp)).trans d1)⟩) ((first
    | (go_at_call 106; refine (meetingsOf_any p l A c _ Hp.out ((hA.below kW.drew (Nat.le_refl _)).more kW.size)).mono ?_; rintro e w1 ⟨A1, c1, rfl, own1, hb1⟩; have g1 : Below W.heap.size W w1 := (Below.refl _ _).drew.trans hb1; have b0 := carry g1 a0 (by omega); have b1 := carry g1 a1 (by omega); have y0 := carry g1 x0 (by omega); have y1 := carry g1 x1 (by omega); have y2 := (g1.frozen (p := ⟨w.heap.size + 1, 0, none⟩) (by simp; omega)).trans z0; have y3 := (g1.frozen (p := ⟨w.heap.size + 1, 1, none⟩) (by simp; omega)).trans z1; have s1 := g1.size)
    | (go_at_call 105; refine (pairsOf_ofStrangers_any (meets l (allP p.toNat)) A1 c1 _ hml (CRead.of_own own1)).mono ?_; rw [Htk.out]; rintro e w2 ⟨A2, c2, rfl, own2, hb2⟩; have d0 := carry hb2 b0 (by omega); have d1 := carry hb2 b1 (by omega); have v0 := carry hb2 y0 (by omega); have v1 := carry hb2 y1 (by omega); have v2 := (hb2.frozen (p := ⟨w.heap.size + 1, 0, none⟩) (by simp; omega)).trans y2; have v3 := (hb2.frozen (p := ⟨w.heap.size + 1, 1, none⟩) (by simp; omega)).trans y3; have s2 := hb2.size)
    | skip))
  go_wp2
  refine bodyPost_ret (v := .agg #[.int .i64 p, .slice A2 (otherP p.toNat l).length c2]) (by simp [results, Try.results82, go_sem, v0, v1]) rfl ?_
  exact ⟨A2, c2, rfl, own_lower (ownsRow_setCell_below (ownsRow_setCell_below own2 (a := ⟨w.heap.size + 1, 0, none⟩) (by simp; omega) _) (a := ⟨w.heap.size + 1, 1, none⟩) (by simp; omega) _) (by omega),
    ((kW.trans ((g1.trans (hb2.mono s1)).mono kW.size)).setCell (p := ⟨w.heap.size + 1, 0, none⟩) (by simp) _).setCell (p := ⟨w.heap.size + 1, 1, none⟩) (by simp) _⟩

def resOtherParty (p : Int) (l : PL) : Int × PL × Bool := if isP p l then (p, otherP p.toNat l, true) else (0, [], false)
theorem resOtherParty_len (p : Int) (l : PL) : (resOtherParty p l).2.1.length ≤ 1048576 := by
  unfold resOtherParty
  split
  · rename_i h
    have := isP_range h
    exact Nat.le_trans (filter_length_le (n := p.toNat) (by omega) _) (by omega)
  · simp

end Go.Proofs.Ytepoabbkalhifaa
/-
  ALL PAIRS: 'everyPair', by its contract.
-/
namespace Go.Proofs.Ytepoabbkalhifaa
open Go.RowKit

theorem otherP_nil (n : Nat) : otherP n [] = allP n := by
  unfold otherP
  rw [List.filter_eq_self]
  intro q _
  rfl
theorem Try.run_pairsE (a b : Value) (X : World) : (Instr.field 45 (.agg #[a, b]) 1).run Try.prog X = .ok b X := by
  simp [Instr.field, go_sem]
  rfl
set_option maxHeartbeats 1000000 in
set_option maxRecDepth 100000 in
theorem everyPair_any (n : Nat) (hn : n ≤ 12) (w : World) :
    Calls Try.prog 94 #[.int .i64 n] w fun e w' => ∃ A c, e = .returned (.slice A (allP n).length c) ∧ w'.ownsRow w.heap.size 85 2 (.slice A (allP n).length c) (allP n).length (pcells (allP n)) ∧ Below w.heap.size w w' := by
  have hp : isP (n : Int) [] = true := by unfold isP; simp; omega
  have call := fun X : World => other_any (n : Int) [] none 0 X hp CRead.nil
  rw [Int.toNat_natCast, otherP_nil] at call
  have Call := Lib.hid call
  have hf := Try.run_pairsE
  clear call hp
  go_enter Try.func94, Try.ntmps94
  go_wp2_with fail
  refine (Call.out _).mono ?_
  rintro e w2 ⟨A2, c2, rfl, own2, hb2⟩
  go_wp2
  go_ret
  exact ⟨A2, c2, rfl, own2, hb2⟩
end Go.Proofs.Ytepoabbkalhifaa
/-
  SHADES made of a painting, a painting made of shades: pure parts, 'shadesOf' by its contract.
-/
namespace Go.Proofs.Ytepoabbkalhifaa
open Go.RowKit

def pairAt (n q : Nat) : Nat × Nat := (((allP n).getD q (0, 0)).1.toNat, ((allP n).getD q (0, 0)).2.toNat)
theorem pairAt_of {n q : Nat} (hn : n ≤ 8) (hq : q < (allP n).length) : ∃ a b : Nat, a < b ∧ b < n ∧ q = atP n a b ∧ (allP n)[q]? = some ((a : Int), (b : Int)) ∧ pairAt n q = (a, b) := by
  obtain ⟨a, b, hab, hb, e⟩ := atP_of hn hq
  have h := atP_get hn hab hb
  rw [← e] at h
  refine ⟨a, b, hab, hb, e, h, ?_⟩
  unfold pairAt
  rw [List.getD_eq_getElem?_getD, h]
  simp
/-- the table behind so many pairs painted -/
def shK (n : Nat) (l : List Int) : Nat → Nat → Nat → Int
  | 0 => fun _ _ => 0
  | q + 1 => paintF (shK n l q) (pairAt n q).1 (pairAt n q).2 (l.getD q 0)
theorem shK_next {n q a b : Nat} {l : List Int} {x : Int} (hp : pairAt n q = (a, b)) (hx : l[q]? = some x) : shK n l (q + 1) = paintF (shK n l q) a b x := by
  show paintF (shK n l q) (pairAt n q).1 (pairAt n q).2 (l.getD q 0) = _
  rw [hp, List.getD_eq_getElem?_getD, hx]
  rfl
theorem atP_inj {n a b a' b' : Nat} (hn : n ≤ 8) (hab : a < b) (hb : b < n) (hab' : a' < b') (hb' : b' < n) (h : atP n a b = atP n a' b') : a = a' ∧ b = b' := by
  have h1 := atP_get hn hab hb
  have h2 := atP_get hn hab' hb'
  rw [h, h2] at h1
  simp only [Option.some.injEq, Prod.mk.injEq] at h1
  omega
theorem shK_at {n : Nat} {l : List Int} (hn : n ≤ 8) : ∀ q, q ≤ (allP n).length → ∀ i j, shK n l q i j = if i ≠ j ∧ i < n ∧ j < n ∧ atP n (min i j) (max i j) < q then l.getD (atP n (min i j) (max i j)) 0 else 0
  | 0, _, i, j => by rw [if_neg (by omega)]; rfl
  | q + 1, hq, i, j => by
    obtain ⟨a, b, hab, hb, e, h, hp⟩ := pairAt_of hn (show q < (allP n).length by omega)
    show paintF (shK n l q) (pairAt n q).1 (pairAt n q).2 (l.getD q 0) i j = _
    rw [hp]
    unfold paintF
    simp only
    by_cases hit : (i = a ∧ j = b) ∨ (i = b ∧ j = a)
    · rw [if_pos hit]
      have e1 : min i j = a := by omega
      have e2 : max i j = b := by omega
      rw [e1, e2, ← e, if_pos (by omega)]
    · rw [if_neg hit, shK_at hn q (by omega) i j]
      by_cases hc : i ≠ j ∧ i < n ∧ j < n
      · have hne : atP n (min i j) (max i j) ≠ q := by
          intro h2
          rw [e] at h2
          have := atP_inj hn (by omega) (by omega) hab hb h2
          omega
        by_cases h3 : atP n (min i j) (max i j) < q
        · rw [if_pos ⟨hc.1, hc.2.1, hc.2.2, h3⟩, if_pos ⟨hc.1, hc.2.1, hc.2.2, by omega⟩]
        · rw [if_neg (by omega), if_neg (by omega)]
      · rw [if_neg (by omega), if_neg (by omega)]
/-- the table of a painting -/
def shX (n : Nat) (l : List Int) : Nat → Nat → Int := shK n l (allP n).length
theorem shX_col {n : Nat} {l : List Int} (hn : n ≤ 8) {i j : Nat} (hi : i < n) (hj : j < n) (hij : i ≠ j) : shX n l i j = colX n l i j := by
  unfold shX colX
  rw [shK_at hn _ (Nat.le_refl _), if_pos ⟨hij, hi, hj, atP_lt hn (by omega) (by omega)⟩]
theorem shX_out {n : Nat} {l : List Int} (hn : n ≤ 8) {i j : Nat} (h : ¬ (i ≠ j ∧ i < n ∧ j < n)) : shX n l i j = 0 := by
  unfold shX
  rw [shK_at hn _ (Nat.le_refl _), if_neg (by omega)]

set_option maxHeartbeats 4000000 in
set_option maxRecDepth 100000 in
theorem shadesOf_any (n : Nat) (k : Int) (l : List Int) (A : Option Addr) (c : Nat) (w : World) (hx : isX n k l = true) (hA : CRead w w.heap.size A (icells l)) :
    Calls Try.prog 70 #[.agg #[.int .i64 n, .int .i64 k, .slice A l.length c]] w fun e w' => e = .returned (.agg (shC (shX n l))) ∧ Below w.heap.size w w' := by
  have hn := (isX_parts hx).1
  have hn8 : n ≤ 8 := by omega
  have hlen := isX_len hx
  have hsm := isX_small hx
  rw [Int.toNat_natCast] at hlen
  obtain ⟨F, hF⟩ : ∃ F, shC (shX n l) = F := ⟨_, rfl⟩
  have hFs : F.size = 64 := by rw [← hF]; exact shC_size _
  have hF1 : F.all (·.oneCell') = true := by rw [← hF]; exact shC_one _
  rw [hF]
  have HF := Lib.hid hF
  have HFs := Lib.hid hFs
  have HF1 := Lib.hid hF1
  have Hlen := Lib.hid hlen
  have Hx := Lib.hid hx
  clear hF hFs hF1 hx hlen
  obtain ⟨W, hW⟩ : ∃ W, ((w.alloc (Obj.cells #[.int .i64 n, .int .i64 k, .slice A l.length c] 27)).alloc (Obj.cells (shC fun _ _ => 0) 78)).alloc (Obj.cells (shC fun _ _ => 0) 78) = W := ⟨_, rfl⟩
  have kW : Below w.heap.size w W := by rw [← hW]; go_grown
  have a0 : W.cell? ⟨w.heap.size, 0, none⟩ = some (.int .i64 n) := by rw [← hW]; exact (World.cell?_alloc_lt _ _ _ (by simp; omega)).trans ((World.cell?_alloc_lt _ _ _ (by simp)).trans (by simp))
  have a2 : W.cell? ⟨w.heap.size, 2, none⟩ = some (.slice A l.length c) := by rw [← hW]; exact (World.cell?_alloc_lt _ _ _ (by simp; omega)).trans ((World.cell?_alloc_lt _ _ _ (by simp)).trans (by simp))
  have rowR : W.rowIs (w.heap.size + 1) 78 64 (fun _ => .int .i64 0) := by
    rw [← hW]
    have := (rowIs_sh (w.alloc (Obj.cells #[.int .i64 n, .int .i64 k, .slice A l.length c] 27)) (fun _ _ => 0) 78).alloc (Obj.cells (shC fun _ _ => 0) 78)
    simp only [World.size_alloc] at this
    exact this
  have rowS : W.rowIs (w.heap.size + 2) 78 64 (fun _ => .int .i64 0) := by
    rw [← hW]
    have := rowIs_sh ((w.alloc (Obj.cells #[.int .i64 n, .int .i64 k, .slice A l.length c] 27)).alloc (Obj.cells (shC fun _ _ => 0) 78)) (fun _ _ => 0) 78
    simp only [World.size_alloc] at this
    exact this
  have sW : W.heap.size = w.heap.size + 3 := by rw [← hW]; simp
  have s1 : w.heap.size + 2 < W.heap.size := by omega
  have bR := sh_block (f := fun _ _ => 0) rowR
  have bS := sh_block (f := fun _ _ => 0) rowS
  rw [shC_zero] at hW
  have HW := Lib.hid hW
  clear hW rowR rowS sW
  go_enter Try.func70, Try.ntmps70
  go_upto_region 2 with fail
  rw [HW.out]
  go_wp2_with fail
  refine (everyPair_any n (by omega) _).mono ?_
  rintro e w1 ⟨P1, c1, rfl, own1, hb1⟩
  have s2 := hb1.size
  have b0 := carry hb1 a0 (by omega)
  have b2 := carry hb1 a2 (by omega)
  have k1 := kW.trans (hb1.mono kW.size)
  have br1 := (hb1.block (w.heap.size + 2) s1).trans bS
  have bq1 := (hb1.block (w.heap.size + 1) (by omega)).trans bR
  have Own1 := Lib.hid own1
  clear a0 a2 bR bS own1 hb1
  obtain ⟨N, hN⟩ : ∃ N, (allP n).length = N := ⟨_, rfl⟩
  have HN := Lib.hid hN
  rw [hN]
  clear hN
  go_wp2_with fail
  go_loopw [10] (fun i wr => ∃ q : Nat, q ≤ N ∧ i = .int .i64 q ∧ wr.heap[w.heap.size + 2]? = some (.cells (shC (shK n l q)) 78 (0, 0)) ∧ Below (w.heap.size + 2) w1 wr ∧ w1.heap.size ≤ wr.heap.size ∧ (∀ j, j ≠ w.heap.size + 2 → j < w1.heap.size → wr.heap[j]? = w1.heap[j]?)) (fun i _ => N - (intOf i).toNat)
  case atStart => exact ⟨0, Nat.zero_le _, rfl, br1, Below.refl _ _, Nat.le_refl _, fun _ _ _ => rfl⟩
  case round =>
    obtain ⟨q, hq, rfl, bq, hb, sb, hk⟩ := hrel
    have sq : Below w.heap.size w wr := k1.trans (hb.mono (by omega))
    have e2 := (cell_of_blk (o := 2) (hk w.heap.size (by omega) (by omega))).trans b2
    have Hb := Lib.hid hb
    have Hk := Lib.hid hk
    clear hb hk
    by_cases hlt : q < N
    · obtain ⟨a, b, hab, hbn, hat, hpq, hpair⟩ := pairAt_of hn8 (show q < (allP n).length by rw [HN.out]; exact hlt)
      obtain ⟨b1, off, rfl, hbb, c0, c1⟩ := (CRead.of_own Own1.out).pair hpq
      have hgb := (Own1.out.lt b1 rfl).1
      have d0 := (cell_of_blk (o := off + q * 2) (Hk.out b1 (by omega) hbb)).trans c0
      have d1 := (cell_of_blk (o := off + q * 2 + 1) (Hk.out b1 (by omega) hbb)).trans c1
      obtain ⟨x, hx⟩ := getSome l q (by rw [Hlen.out, HN.out]; exact hlt)
      obtain ⟨bb, off2, rfl, hbb2, c2⟩ := (hA.below sq (Nat.le_refl _)).int hx
      have hqi : (q : Int) < (N : Int) := by omega
      have hql : (q : Int) < (l.length : Int) := by rw [Hlen.out, HN.out]; exact hqi
      have hnext := shK_next hpair hx
      obtain ⟨S, hS⟩ : ∃ S, shC (shK n l q) = S := ⟨_, rfl⟩
      have hSs : S.size = 64 := by rw [← hS]; exact shC_size _
      have call := fun X : World => with_any (shK n l q) a b x (by omega) (by omega) X
      rw [hS] at bq call
      rw [← hnext] at call
      obtain ⟨T, hT⟩ : ∃ T, shC (shK n l (q + 1)) = T := ⟨_, rfl⟩
      have hTs : T.size = 64 := by rw [← hT]; exact shC_size _
      have hT1 : T.all (·.oneCell') = true := by rw [← hT]; exact shC_one _
      rw [hT] at call
      have hi : (Try.prog.info? 78).map (·.size) = some S.size := by rw [hSs]; exact sh_info
      have hi' : (Try.prog.info? 78).map (·.size) = some T.size := by rw [hTs]; exact sh_info
      have Call := Lib.hid call
      have HT := Lib.hid hT
      have HSs := Lib.hid hSs
      have HTs := Lib.hid hTs
      have HT1 := Lib.hid hT1
      have Bq := Lib.hid bq
      clear c0 c1 hx hpq hpair hat hnext hS call hT hSs hTs hT1 bq
      go_upto_region 5 with fail
      obtain ⟨X, hX⟩ : ∃ X, wr.alloc (Obj.cells #[.int .i64 a, .int .i64 b] 85) = X := ⟨_, rfl⟩
      have kX : Below wr.heap.size wr X := by rw [← hX]; exact (Below.refl _ _).alloc (Nat.le_refl _) _
      have m0 : X.cell? ⟨wr.heap.size, 0, none⟩ = some (.int .i64 a) := by rw [← hX]; simp
      have m1 : X.cell? ⟨wr.heap.size, 1, none⟩ = some (.int .i64 b) := by rw [← hX]; simp
      have hwr : w.heap.size + 2 < wr.heap.size := by omega
      have e2X := carry kX e2 (by omega)
      have c2X := carry kX c2 (by have := sq.size; omega)
      have bqX : X.heap[w.heap.size + 2]? = some (.cells S 78 (0, 0)) := (kX.block _ hwr).trans Bq.out
      rw [hX]
      have BqX := Lib.hid bqX
      have KX := Lib.hid kX
      clear hX d0 d1 e2 c2 bqX kX
      refine wp_region_still_tail 7 (by kernel_rfl) (by kernel_rfl) ?_
      simp only [List.take_succ_cons, List.take_zero, List.drop_succ_cons, List.drop_zero]
      refine wpStill_load_row rfl 78 _ rfl (w.heap.size + 2) rfl 78 S (0, 0) _ BqX.out sh_under rfl hi ?_
      repeat still_step
      refine wpStill_nil ?_
      change wpList _ _ _ _ _ (World.drew _)
      clear m0 m1 e2X c2X
      go_wp2_with fail
      refine (Call.out _).mono ?_
      rintro e w2 ⟨rfl, hb2⟩
      have g2 : Below X.heap.size X w2 := (Below.refl _ _).drew.trans hb2
      have g3 : Below wr.heap.size wr w2 := KX.out.trans (g2.mono KX.out.size)
      have bq2 : w2.heap[w.heap.size + 2]? = some (.cells S 78 (0, 0)) := (g2.block _ (by have := KX.out.size; omega)).trans BqX.out
      have Bq2 := Lib.hid bq2
      clear bq2 hb2
      go_wp2_with (first | (refine wpList_store_row rfl 78 _ _ rfl (w.heap.size + 2) T rfl rfl 78 S Bq2.out hi' (by rw [HSs.out, HTs.out]) HT1.out ?_))
      go_roundw
      case rel =>
        refine ⟨q + 1, by omega, by go_num, ?_, below_setRow (Hb.out.trans (g3.mono (by omega))) (Nat.le_refl _) T, ?_, fun j hj hjl => ?_⟩
        · rw [HT.out]
          exact setRow_heap w2 _ S T _ (0, 0) Bq2.out
        · rw [size_setRow]
          have := g3.size
          omega
        · rw [setRow_other _ _ _ _ hj]
          exact (g3.block j (by omega)).trans (Hk.out j hj hjl)
      case measure => simp [intOf]; omega
    · have hqN : q = N := by omega
      subst hqN
      have hge : ¬ ((q : Int) < (q : Int)) := by omega
      have hfin : shC (shK n l q) = F := by rw [← HF.out, ← HN.out]; rfl
      rw [hfin] at bq
      have bg := (Hk.out (w.heap.size + 1) (by omega) (by omega)).trans bq1
      obtain ⟨G, hG⟩ : ∃ G, shC (fun _ _ => 0) = G := ⟨_, rfl⟩
      have hGs : G.size = 64 := by rw [← hG]; exact shC_size _
      rw [hG] at bg
      have hi : (Try.prog.info? 78).map (·.size) = some F.size := by rw [HFs.out]; exact sh_info
      have Bq := Lib.hid bq
      have Bg := Lib.hid bg
      have Sq := Lib.hid sq
      clear bq bg hG hfin sq e2
      go_wp2_with (first | (refine wpList_load_row rfl 78 _ rfl (w.heap.size + 2) rfl 78 F (0, 0) _ Bq.out sh_under rfl hi ?_) | (refine wpList_store_row rfl 78 _ _ rfl (w.heap.size + 1) F rfl rfl 78 G Bg.out hi (by rw [hGs, HFs.out]) HF1.out ?_))
      refine bodyPost_ret (v := .agg F) (results_cell_row rfl _ _ (w.heap.size + 1) 78 F (0, 0) _ rfl (setRow_heap wr (w.heap.size + 1) G F 78 (0, 0) Bg.out) sh_under rfl hi) rfl ?_
      exact ⟨rfl, below_setRow Sq.out (by omega) F⟩
end Go.Proofs.Ytepoabbkalhifaa
/-
  A PAINTING IN A BOX OF THE CALL's OWN, whose colours are appended one by one.
-/
namespace Go.Proofs.Ytepoabbkalhifaa
open Go.RowKit

/-- The worlds above w0: a box at g holds a painting of n people and k colours, whose colours so far, L, lie in a row of the call's own. -/
structure PBox (B : Nat) (w0 wr : World) (n k : Int) (g : Nat) (v : Value) (L : List Int) : Prop where
  below : Below B w0 wr
  gB : B ≤ g
  box : wr.heap[g]? = some (.cells #[.int .i64 n, .int .i64 k, v] 27 (0, 0))
  own : wr.ownsRow B 3 1 v L.length (icells L)
section
variable {B g : Nat} {w0 wr W1 w1 : World} {n k : Int} {v v' : Value} {L : List Int}
theorem PBox.lt (h : PBox B w0 wr n k g v L) : g < wr.heap.size := lt_of_heap h.box
theorem ne_of_pbox (h : wr.heap[g]? = some (.cells #[.int .i64 n, .int .i64 k, v] 27 (0, 0))) {m : Nat} {xs : List Value} (ho : wr.ownsRow B 3 1 v' m xs) : v'.ownBlock ≠ some g := by
  rcases ho.2 with ⟨rfl, _⟩ | ⟨g', cap, cur, rfl, _, hh, _⟩
  · simp [Value.ownBlock]
  · intro e
    have hgb : g' = g := by simpa [Value.ownBlock] using e
    subst hgb
    rw [hh] at h
    injection h with h
    injection h with _ ht
    exact absurd ht (by decide)
theorem PBox.ne (h : PBox B w0 wr n k g v L) : v.ownBlock ≠ some g := ne_of_pbox h.box h.own
theorem PBox.cells (h : PBox B w0 wr n k g v L) : wr.cell? ⟨g, 0, none⟩ = some (.int .i64 n) ∧ wr.cell? ⟨g, 1, none⟩ = some (.int .i64 k) ∧ wr.cell? ⟨g, 2, none⟩ = some v ∧ ∀ j, wr.frozen? ⟨g, j, none⟩ = false :=
  ⟨by rw [cell_of_row _ _ _ _ _ _ h.box]; rfl, by rw [cell_of_row _ _ _ _ _ _ h.box]; rfl, by rw [cell_of_row _ _ _ _ _ _ h.box]; rfl, fun j => frozen_of_row _ _ j _ _ h.box⟩
theorem PBox.kept (h : PBox B w0 wr n k g v L) (hW : Below wr.heap.size wr W1) (hB : B ≤ wr.heap.size) : PBox B w0 W1 n k g v L :=
  ⟨h.below.trans (hW.mono hB), h.gB, (hW.block _ h.lt).trans h.box, own_below h.own hW (Nat.le_refl _)⟩
theorem PBox.le (h : PBox B w0 wr n k g v L) : B ≤ wr.heap.size := Nat.le_trans h.gB (Nat.le_of_lt h.lt)
/-- what stands behind an append -/
theorem PBox.grown (h : PBox B w0 wr n k g v L) (hW : Below wr.heap.size wr W1) (hg : W1.grownBy w1 v.ownBlock) :
    w1.heap[g]? = some (.cells #[.int .i64 n, .int .i64 k, v] 27 (0, 0)) ∧ w1.cell? ⟨g, 0, none⟩ = some (.int .i64 n) ∧ w1.cell? ⟨g, 1, none⟩ = some (.int .i64 k) ∧ w1.cell? ⟨g, 2, none⟩ = some v ∧ (∀ j, w1.frozen? ⟨g, j, none⟩ = false) ∧ Below B w0 w1 ∧ wr.heap.size ≤ w1.heap.size := by
  have hlt := h.lt
  have e : w1.heap[g]? = some (.cells #[.int .i64 n, .int .i64 k, v] 27 (0, 0)) := by
    rw [hg.block g (Nat.lt_of_lt_of_le hlt hW.size) (fun e => h.ne e.symm), hW.block g hlt]
    exact h.box
  refine ⟨e, by rw [cell_of_row _ _ _ _ _ _ e]; rfl, by rw [cell_of_row _ _ _ _ _ _ e]; rfl, by rw [cell_of_row _ _ _ _ _ _ e]; rfl, fun j => frozen_of_row _ _ j _ _ e, ?_, Nat.le_trans hW.size hg.size⟩
  exact (h.below.trans (hW.mono h.le)).grown hg (Nat.le_trans h.le hW.size) (fun k hk => (h.own.lt k hk).1)
/-- one colour more -/
theorem PBox.push {x : Int} (h : PBox B w0 wr n k g v L) (hW : Below wr.heap.size wr W1) (hg : W1.grownBy w1 v.ownBlock) (hown : w1.ownsRow B 3 1 v' (L.length + 1) (icells L ++ [.int .i64 x])) :
    PBox B w0 (w1.setCell ⟨g, 2, none⟩ v') n k g v' (L ++ [x]) := by
  obtain ⟨e, _, _, _, _, hb, _⟩ := h.grown hW hg
  have hne := ne_of_pbox e hown
  refine ⟨hb.setCell (p := ⟨g, 2, none⟩) h.gB _, h.gB, heap_setCell_same w1 g 2 _ _ v' e, ?_⟩
  have el : (L ++ [x]).length = L.length + 1 := by simp
  have ec : icells (L ++ [x]) = icells L ++ [.int .i64 x] := by simp [icells]
  rw [el, ec]
  exact hown.kept (row := some g) ⟨rfl, rfl, rfl, by simp, fun k _ hk => heap_setCell_other _ _ _ _ (fun e => hk (by rw [e]))⟩ (.inr hne)
/-- a colour is set -/
theorem PBox.set {g' m cap : Nat} (h : PBox B w0 wr n k g (.slice (some ⟨g', 0, none⟩) m cap) L) (hm : m = L.length) (j : Nat) (x : Int) :
    PBox B w0 (wr.setCell ⟨g', j, none⟩ (.int .i64 x)) n k g (.slice (some ⟨g', 0, none⟩) m cap) (L.set j x) := by
  subst hm
  have hne : g' ≠ g := fun e => h.ne (by rw [e]; rfl)
  have hlt := (h.own.lt g' rfl).1
  refine ⟨h.below.setCell (p := ⟨g', j, none⟩) hlt _, h.gB, (heap_setCell_other _ _ _ _ (fun e => hne e.symm)).trans h.box, ?_⟩
  rw [List.length_set]
  exact own_setInt h.own j x
end
end Go.Proofs.Ytepoabbkalhifaa
/-
  A STRUCT IN A BOX OF THE CALL's OWN that was laid ahead of what is read: its slice is appended to, all else that was there is kept.
-/
namespace Go.Proofs.Ytepoabbkalhifaa
open Go.RowKit

/-- behind w1, in which the box at g lies: the box holds a slice of the call's own, made later than w1; all other blocks of w1 are as they were -/
structure KBox (ty e : TypeId) (s : Nat) (mk : Value → Array Value) (w1 wr : World) (g : Nat) (v : Value) (m : Nat) (xs : List Value) : Prop where
  keep : ∀ j, j ≠ g → j < w1.heap.size → wr.heap[j]? = w1.heap[j]?
  below : Below g w1 wr
  size : w1.heap.size ≤ wr.heap.size
  lt : g < w1.heap.size
  box : wr.heap[g]? = some (.cells (mk v) ty (0, 0))
  own : wr.ownsRow w1.heap.size e s v m xs
section
variable {ty e : TypeId} {s : Nat} {mk : Value → Array Value} {w1 wr W1 w2 : World} {g : Nat} {v v' : Value} {m m' : Nat} {xs xs' : List Value}
theorem KBox.cell (h : KBox ty e s mk w1 wr g v m xs) {i : Nat} {u : Value} (hi : (mk v)[i]? = some u) : wr.cell? ⟨g, i, none⟩ = some u := by
  rw [cell_of_row _ _ _ _ _ _ h.box]; exact hi
theorem KBox.frozen (h : KBox ty e s mk w1 wr g v m xs) (i : Nat) : wr.frozen? ⟨g, i, none⟩ = false := frozen_of_row _ _ i _ _ h.box
theorem KBox.other (h : KBox ty e s mk w1 wr g v m xs) {b o : Nat} {u : Value} (hb : b ≠ g) (hlt : b < w1.heap.size) (hc : w1.cell? ⟨b, o, none⟩ = some u) : wr.cell? ⟨b, o, none⟩ = some u := by
  rw [← hc]
  simp [World.cell?, h.keep b hb hlt]
/-- what stands behind an append -/
theorem KBox.grown (h : KBox ty e s mk w1 wr g v m xs) (hW : Below wr.heap.size wr W1) (hg : W1.grownBy w2 v.ownBlock) : w2.heap[g]? = some (.cells (mk v) ty (0, 0)) ∧ Below g w1 w2 ∧ (∀ j, j < w1.heap.size → w2.heap[j]? = wr.heap[j]?) := by
  have hl := h.lt
  have hs := h.size
  have hb : ∀ j, j < w1.heap.size → w2.heap[j]? = wr.heap[j]? := fun j hj =>
    (hg.block j (by have := hW.size; omega) (fun e => by have := (h.own.lt j e.symm).1; omega)).trans (hW.block j (by omega))
  refine ⟨(hb g hl).trans h.box, ?_, hb⟩
  have h2 : Below g w1 W1 := h.below.trans (hW.mono (by omega))
  exact h2.grown hg (by have := hW.size; omega) (fun k hk => by have := (h.own.lt k hk).1; omega)
/-- the slice behind an append is stored -/
theorem KBox.push (h : KBox ty e s mk w1 wr g v m xs) (hW : Below wr.heap.size wr W1) (hg : W1.grownBy w2 v.ownBlock) (i : Nat) (hmk : (mk v).setIfInBounds i v' = mk v') (hown : w2.ownsRow w1.heap.size e s v' m' xs') :
    KBox ty e s mk w1 (w2.setCell ⟨g, i, none⟩ v') g v' m' xs' := by
  obtain ⟨hbx, hb2, hk⟩ := h.grown hW hg
  have hl := h.lt
  refine ⟨fun j hj hjl => ?_, hb2.setCell (p := ⟨g, i, none⟩) (Nat.le_refl _) _, ?_, hl, ?_, ownsRow_setCell_below hown (a := ⟨g, i, none⟩) hl _⟩
  · rw [heap_setCell_other _ _ _ _ hj, hk j hjl]
    exact h.keep j hj hjl
  · have h1 := h.size; have h2 := hW.size; have h3 := hg.size
    simp only [World.size_setCell]
    omega
  · rw [← hmk]
    exact heap_setCell_same w2 g i _ _ v' hbx
end
end Go.Proofs.Ytepoabbkalhifaa
/-
  A PAINTING made of shades: '(shades).painting', by its contract.
-/
namespace Go.Proofs.Ytepoabbkalhifaa
open Go.RowKit

/-- the colours that a table gives to all pairs, in order -/
def colsP (n : Nat) (f : Nat → Nat → Int) : List Int := (allP n).map fun q => f q.1.toNat q.2.toNat
theorem colsP_len (n : Nat) (f : Nat → Nat → Int) : (colsP n f).length = (allP n).length := by simp [colsP]
def mkX (n k : Int) (v : Value) : Array Value := #[.int .i64 n, .int .i64 k, v]
set_option maxHeartbeats 4000000 in
set_option maxRecDepth 100000 in
theorem painting_any (f : Nat → Nat → Int) (n : Nat) (k : Int) (hn : n ≤ 8) (w : World) :
    Calls Try.prog 75 #[.agg (shC f), .int .i64 n, .int .i64 k] w (GotPaint w n k (colsP n f)) := by
  obtain ⟨i0, hi, hz0, hz1, hz2⟩ := info_parts Try.infoInt
  have hcount := (count_of (p := (n : Int)) (by omega)).2.1
  rw [Int.toNat_natCast] at hcount
  obtain ⟨W, hW⟩ : ∃ W, ((w.alloc (Obj.cells (shC f) 78)).alloc (Obj.cells #[.int .i64 0, .int .i64 0, .slice none 0 0] 27)).alloc (Obj.cells #[.int .i64 n, .int .i64 k, .slice none 0 0] 27) = W := ⟨_, rfl⟩
  have kW : Below w.heap.size w W := by rw [← hW]; go_grown
  have row0 : W.rowIs w.heap.size 78 64 (fun q => .int .i64 (f (q / 8) (q % 8))) := by rw [← hW]; exact ((rowIs_sh w f _).alloc _).alloc _
  have bR : W.heap[w.heap.size + 1]? = some (.cells #[.int .i64 0, .int .i64 0, .slice none 0 0] 27 (0, 0)) := by
    rw [← hW]
    have := heap_alloc_new (w.alloc (Obj.cells (shC f) 78)) (Obj.cells #[.int .i64 0, .int .i64 0, .slice none 0 0] 27)
    simp only [World.size_alloc] at this
    exact (((Below.refl _ ((w.alloc (Obj.cells (shC f) 78)).alloc (Obj.cells #[.int .i64 0, .int .i64 0, .slice none 0 0] 27))).alloc (Nat.le_refl _) _).block _ (by simp)).trans this
  have x0 : W.cell? ⟨w.heap.size + 1, 0, none⟩ = some (.int .i64 0) := by rw [cell_of_row _ _ _ _ _ _ bR]; rfl
  have x1 : W.cell? ⟨w.heap.size + 1, 1, none⟩ = some (.int .i64 0) := by rw [cell_of_row _ _ _ _ _ _ bR]; rfl
  have x2 : W.cell? ⟨w.heap.size + 1, 2, none⟩ = some (.slice none 0 0) := by rw [cell_of_row _ _ _ _ _ _ bR]; rfl
  have z0 : ∀ j, W.frozen? ⟨w.heap.size + 1, j, none⟩ = false := fun j => frozen_of_row _ _ j _ _ bR
  clear bR
  have bx : W.heap[w.heap.size + 1 + 1]? = some (.cells #[.int .i64 n, .int .i64 k, .slice none 0 0] 27 (0, 0)) := by
    rw [← hW]
    have := heap_alloc_new ((w.alloc (Obj.cells (shC f) 78)).alloc (Obj.cells #[.int .i64 0, .int .i64 0, .slice none 0 0] 27)) (Obj.cells #[.int .i64 n, .int .i64 k, .slice none 0 0] 27)
    simp only [World.size_alloc] at this
    exact this
  have sW : w.heap.size + 1 + 1 < W.heap.size := by rw [← hW]; simp
  have HW := Lib.hid hW
  clear hW
  go_enter Try.func75, Try.ntmps75
  go_upto_region 2 with fail
  rw [HW.out]
  go_wp2_with fail
  refine (everyPair_any n (by omega) _).mono ?_
  rintro e w1 ⟨P1, c1, rfl, own1, hb1⟩
  have s1 := hb1.size
  have k1 := kW.trans (hb1.mono kW.size)
  have row1 : w1.rowIs w.heap.size 78 64 (fun q => .int .i64 (f (q / 8) (q % 8))) := row0.of_block (hb1.block _ (by omega))
  have y0 := carry hb1 x0 (by omega)
  have y1 := carry hb1 x1 (by omega)
  have y2 := carry hb1 x2 (by omega)
  have v0 := fun j => (hb1.frozen (p := ⟨w.heap.size + 1, j, none⟩) (by simp; omega)).trans (z0 j)
  have rel0 : KBox 27 3 1 (mkX n k) w1 w1 (w.heap.size + 1 + 1) (.slice none 0 0) ((colsP n f).take 0).length (icells ((colsP n f).take 0)) :=
    ⟨fun _ _ _ => rfl, Below.refl _ _, Nat.le_refl _, by omega, (hb1.block _ sW).trans bx, World.ownsRow_nil _ _ _ _⟩
  have Own1 := Lib.hid own1
  have Row1 := Lib.hid row1
  clear row0 x0 x1 x2 z0 bx own1 row1 hb1
  obtain ⟨N, hN⟩ : ∃ N, (allP n).length = N := ⟨_, rfl⟩
  have HN := Lib.hid hN
  have HC := Lib.hid (colsP_len n f)
  rw [hN] at hcount ⊢
  clear hN
  go_wp2_with fail
  go_loopw [16] (fun i wr => ∃ (q : Nat) (v : Value), q ≤ N ∧ i = .int .i64 q ∧ KBox 27 3 1 (mkX n k) w1 wr (w.heap.size + 1 + 1) v ((colsP n f).take q).length (icells ((colsP n f).take q))) (fun i _ => N - (intOf i).toNat)
  case atStart => exact ⟨0, _, Nat.zero_le _, rfl, rel0⟩
  case round =>
    clear rel0
    obtain ⟨q, v, hq, rfl, rel⟩ := hrel
    have kX : Below w.heap.size w wr := k1.trans (rel.below.mono (by omega))
    have hlen : ((colsP n f).take q).length ≤ 28 := by rw [List.length_take, HC.out, HN.out]; omega
    obtain ⟨L, hL⟩ : ∃ L, (colsP n f).take q = L := ⟨_, rfl⟩
    rw [hL] at rel hlen
    have HL := Lib.hid hL
    clear hL
    have hsz := rel.size
    have hlt2 := rel.lt
    have b2 : wr.cell? ⟨w.heap.size + 1 + 1, 2, none⟩ = some v := rel.cell rfl
    have bf2 := rel.frozen 2
    have rowr : wr.rowIs w.heap.size 78 64 (fun q => .int .i64 (f (q / 8) (q % 8))) := Row1.out.of_block (rel.keep _ (by omega) (by omega))
    by_cases hlt : q < N
    · obtain ⟨a, b, hab, hbn, hat, hpq, _⟩ := pairAt_of hn (show q < (allP n).length by rw [HN.out]; exact hlt)
      obtain ⟨b1, off, rfl, hbb, c0, c1'⟩ := (CRead.of_own Own1.out).pair hpq
      have hgb := (Own1.out.lt b1 rfl).1
      have d0 := rel.other (by omega) hbb c0
      have d1 := rel.other (by omega) hbb c1'
      have hqi : (q : Int) < (N : Int) := by omega
      have hval : (colsP n f)[q]? = some (f a b) := by
        unfold colsP
        rw [List.getElem?_map, hpq]
        simp
      have hs := rowr.cell (show a * 8 + b < 64 by omega)
      have e1 : (a * 8 + b) / 8 = a := by omega
      have e2 : (a * 8 + b) % 8 = b := by omega
      simp only [e1, e2] at hs
      obtain ⟨x, hx⟩ : ∃ x, f a b = x := ⟨_, rfl⟩
      rw [hx] at hs hval
      have hai : (a : Int) < 8 := by omega
      have hbi : (b : Int) < 8 := by omega
      have Hval := Lib.hid hval
      clear c0 c1' hpq hat hval hx e1 e2 rowr
      go_upto_region 5 with fail
      obtain ⟨X, hX⟩ : ∃ X, wr.alloc (Obj.cells #[.int .i64 a, .int .i64 b] 85) = X := ⟨_, rfl⟩
      have kWX : Below wr.heap.size wr X := by rw [← hX]; exact (Below.refl _ _).alloc (Nat.le_refl _) _
      have m0 : X.cell? ⟨wr.heap.size, 0, none⟩ = some (.int .i64 a) := by rw [← hX]; simp
      have m1 : X.cell? ⟨wr.heap.size, 1, none⟩ = some (.int .i64 b) := by rw [← hX]; simp
      have q1 := carry kWX b2 (by omega)
      have hsX := carry kWX hs (by omega)
      rw [hX]
      have kb : Below wr.heap.size wr (X.alloc (Obj.cells #[.int .i64 x] 3)).drew := (kWX.alloc kWX.size _).drew
      have ownX := own_below rel.own kb (Nat.le_refl _)
      have ks : (X.alloc (Obj.cells #[.int .i64 x] 3)).drew.heap.size = X.heap.size + 1 := by
        show (X.alloc (Obj.cells #[.int .i64 x] 3)).heap.size = X.heap.size + 1
        simp
      have kc : ∀ (j : Nat) (u : Value), ([.int .i64 x] : List Value)[j]? = some u → (X.alloc (Obj.cells #[.int .i64 x] 3)).drew.cell? ((⟨X.heap.size, 0, none⟩ : Addr).add j) = some u := by
        refine one_cell ?_
        show (X.alloc (Obj.cells #[.int .i64 x] 3)).cell? ⟨X.heap.size, 0, none⟩ = _
        simp
      have kq : w1.heap.size ≤ (X.alloc (Obj.cells #[.int .i64 x] 3)).drew.heap.size := by rw [ks]; have := kWX.size; omega
      have k63 : L.length + 1 ≤ maxLen := by unfold maxLen; omega
      have kby : (L.length + 1) * 8 ≤ 140737488355328 := by omega
      have kq1 : ∀ o : Obj, (X.alloc o).cell? ⟨w.heap.size + 1 + 1, 2, none⟩ = some v := fun o => (World.cell?_alloc_lt X _ _ (by have := kWX.size; simp; omega)).trans q1
      have Rel := Lib.hid rel
      clear hX d0 d1 b2 hs rel
      go_region_law (first
        | (refine step_append_lies _ (by rfl) _ _ _ (by rfl) w1.heap.size 3 i0 _ 1 8 Try.underlying22 hi hz0 hz1 hz2 (by rfl) (by decide) v L.length (icells L) (by rfl) ownX ⟨X.heap.size, 0, none⟩ 1 1 [.int .i64 x] (by rfl) rfl kc (one_one rfl) (by decide) k63 kby kq (X.heap.size + 1) ks ?_; intro g3 c3 w3 own3 gr3 hat3 hlt3; obtain ⟨mid, _, _⟩ := Rel.out.grown kb gr3; have z1 : w3.cell? ⟨w.heap.size + 1 + 1, 2, none⟩ = some v := (by rw [cell_of_row _ _ _ _ _ _ mid]; rfl); have z2 : w3.frozen? ⟨w.heap.size + 1 + 1, 2, none⟩ = false := frozen_of_row _ _ 2 _ _ mid; have rel3 := Rel.out.push kb gr3 2 rfl own3; clear mid)
        | fail)
      all_goals (go_wp2_with fail)
      all_goals (go_roundw)
      all_goals first
        | exact ⟨q + 1, _, by omega, by go_num, by rw [List.take_add_one, Hval.out, Option.toList_some, HL.out, List.length_append, List.length_singleton, show icells (L ++ [x]) = icells L ++ [.int .i64 x] by simp [icells]]; exact rel3⟩
        | (simp [intOf]; omega)
    · have hqN : q = N := by omega
      subst hqN
      have hge : ¬ ((q : Int) < (q : Int)) := by omega
      have hLL := HL.out
      rw [List.take_of_length_le (by rw [HC.out, HN.out]; exact Nat.le_refl _)] at hLL
      subst hLL
      have hll : (colsP n f).length = q := by rw [HC.out, HN.out]
      obtain ⟨A', c', rfl, _⟩ := own_shape rel.own
      have r0 := rel.other (by omega) (by omega) y0
      have r1 := rel.other (by omega) (by omega) y1
      have r2 := rel.other (by omega) (by omega) y2
      have b0 : wr.cell? ⟨w.heap.size + 1 + 1, 0, none⟩ = some (.int .i64 n) := rel.cell rfl
      have b1 : wr.cell? ⟨w.heap.size + 1 + 1, 1, none⟩ = some (.int .i64 k) := rel.cell rfl
      have hfz : ∀ j, wr.frozen? ⟨w.heap.size + 1, j, none⟩ = false := fun j => by
        rw [← v0 j]
        simp [World.frozen?, rel.keep (w.heap.size + 1) (by omega) (by omega)]
      have f0 := hfz 0
      have f1 := hfz 1
      have f2 := hfz 2
      have Rel := Lib.hid rel
      clear rel hfz y0 y1 y2 v0 hll
      go_wp2
      refine bodyPost_ret (v := .agg #[.int .i64 n, .int .i64 k, .slice A' (colsP n f).length c']) (by simp [results, Try.results75, go_sem, r0, r1, r2]) rfl ?_
      exact ⟨A', c', rfl, own_lower (ownsRow_setCell_below (ownsRow_setCell_below (ownsRow_setCell_below Rel.out.own (a := ⟨w.heap.size + 1, 0, none⟩) (by simp; omega) _) (a := ⟨w.heap.size + 1, 1, none⟩) (by simp; omega) _) (a := ⟨w.heap.size + 1, 2, none⟩) (by simp; omega) _) (by omega),
        ((kX.setCell (p := ⟨w.heap.size + 1, 0, none⟩) (by simp) _).setCell (p := ⟨w.heap.size + 1, 1, none⟩) (by simp) _).setCell (p := ⟨w.heap.size + 1, 2, none⟩) (by simp) _⟩
end Go.Proofs.Ytepoabbkalhifaa
/-
  PEOPLE RENAMED, as plain lists and as tables. Nothing here speaks of the program.
-/
namespace Go.Proofs.Ytepoabbkalhifaa
open Go.RowKit

/-- a list of all p people, each once -/
def isNamingI (p : Int) (q : List Int) : Bool := decide ((q.length : Int) = p) && (q.all (fun x => decide (0 ≤ x ∧ x < p)) && decide q.Nodup)
theorem isNamingI_len {p : Int} {q : List Int} (h : (q.length : Int) ≠ p) : isNamingI p q = false := by simp [isNamingI, h]
theorem isNamingI_bad {p : Int} {q : List Int} {k : Nat} {x : Int} (hx : q[k]? = some x) (h : ¬ (0 ≤ x ∧ x < p)) : isNamingI p q = false := by
  cases he : isNamingI p q with
  | false => rfl
  | true =>
    simp only [isNamingI, Bool.and_eq_true, decide_eq_true_eq, List.all_eq_true] at he
    exact absurd (he.2.1 x (List.mem_of_getElem? hx)) h
theorem isNamingI_dup {p : Int} {q : List Int} {k : Nat} {x : Int} (hx : q[k]? = some x) (h : x ∈ q.take k) : isNamingI p q = false := by
  cases he : isNamingI p q with
  | false => rfl
  | true =>
    simp only [isNamingI, Bool.and_eq_true, decide_eq_true_eq] at he
    have hn := he.2.2
    rw [List.Nodup, List.pairwise_iff_getElem] at hn
    obtain ⟨i, hi, e⟩ := List.getElem_of_mem h
    rw [List.length_take] at hi
    rw [List.getElem_take] at e
    have hk : k < q.length := (List.getElem?_eq_some_iff.1 hx).1
    rw [List.getElem?_eq_getElem hk] at hx
    simp only [Option.some.injEq] at hx
    exact absurd (e.trans hx.symm) (hn i k (by omega) hk (by omega))
theorem isNamingI_of {p : Int} {q : List Int} (hl : (q.length : Int) = p) (h : ∀ (k : Nat) (x : Int), k < q.length → q[k]? = some x → (0 ≤ x ∧ x < p) ∧ x ∉ q.take k) : isNamingI p q = true := by
  simp only [isNamingI, Bool.and_eq_true, decide_eq_true_eq, List.all_eq_true]
  refine ⟨hl, fun x hx => ?_, ?_⟩
  · obtain ⟨i, hi, rfl⟩ := List.getElem_of_mem hx
    exact (h i _ hi (List.getElem?_eq_getElem hi)).1
  · rw [List.Nodup, List.pairwise_iff_getElem]
    intro i j hi hj hij e
    refine (h j _ hj (List.getElem?_eq_getElem hj)).2 ?_
    rw [← e, List.mem_iff_getElem?]
    exact ⟨i, by rw [List.getElem?_take, if_pos hij, List.getElem?_eq_getElem hi]⟩
theorem isNamingI_parts {p : Int} {q : List Int} (h : isNamingI p q = true) : (q.length : Int) = p ∧ (∀ x ∈ q, 0 ≤ x ∧ x < p) ∧ q.Nodup := by
  simp only [isNamingI, Bool.and_eq_true, decide_eq_true_eq, List.all_eq_true] at h
  exact h

theorem nodup_le : ∀ (l m : List Int), l.Nodup → (∀ x ∈ l, x ∈ m) → l.length ≤ m.length
  | [], m, _, _ => Nat.zero_le _
  | a :: l, m, hn, hs => by
    rw [List.nodup_cons] at hn
    have h1 := nodup_le l (m.erase a) hn.2 fun x hx => by
      have hne : x ≠ a := by rintro rfl; exact hn.1 hx
      exact (List.mem_erase_of_ne hne).2 (hs x (List.mem_cons_of_mem _ hx))
    have ha := hs a (List.mem_cons_self ..)
    have h2 := List.length_erase_of_mem ha
    have h3 := List.length_pos_of_mem ha
    rw [List.length_cons]
    omega
theorem naming_all {p : Int} {q : List Int} (h : isNamingI p q = true) {i : Nat} (hi : (i : Int) < p) : (i : Int) ∈ q := by
  obtain ⟨hl, hm, hn⟩ := isNamingI_parts h
  apply Classical.byContradiction
  intro hc
  have := nodup_le ((i : Int) :: q) ((List.range q.length).map fun k : Nat => (k : Int)) (List.nodup_cons.2 ⟨hc, hn⟩) (by
    intro x hx
    rw [List.mem_map]
    rcases List.mem_cons.1 hx with rfl | hx
    · exact ⟨i, by rw [List.mem_range]; omega, rfl⟩
    · have := hm x hx
      exact ⟨x.toNat, by rw [List.mem_range]; omega, by omega⟩)
  rw [List.length_cons, List.length_map, List.length_range] at this
  omega

/-- the name of a person -/
def nameI (q : List Int) (x : Int) : Int := q.getD x.toNat 0
theorem nameI_at {q : List Int} {i : Nat} {x : Int} (hx : q[i]? = some x) : nameI q i = x := by
  unfold nameI
  rw [List.getD_eq_getElem?_getD, Int.toNat_natCast, hx]
  rfl
/-- who has a name -/
def whoI (q : List Int) (i : Nat) : Nat := q.idxOf (i : Int)
theorem whoI_at {q : List Int} (hn : q.Nodup) {a i : Nat} (h : q[a]? = some (i : Int)) : whoI q i = a := by
  have ha : a < q.length := (List.getElem?_eq_some_iff.1 h).1
  rw [List.getElem?_eq_getElem ha] at h
  simp only [Option.some.injEq] at h
  unfold whoI
  rw [← h]
  exact hn.idxOf_getElem a ha
theorem whoI_name {p : Int} {q : List Int} (h : isNamingI p q = true) {i : Nat} (hi : (i : Int) < p) : q[whoI q i]? = some (i : Int) := by
  have hm := naming_all h hi
  unfold whoI
  have hlt := List.idxOf_lt_length_of_mem hm
  rw [List.getElem?_eq_getElem hlt, List.getElem_idxOf]
theorem whoI_lt {p : Int} {q : List Int} (h : isNamingI p q = true) {i : Nat} (hi : (i : Int) < p) : (whoI q i : Int) < p := by
  have := (List.getElem?_eq_some_iff.1 (whoI_name h hi)).1
  have hl := (isNamingI_parts h).1
  omega

/-- the table renamed -/
def namedT (q : List Int) (t : Nat → Nat → Bool) : Nat → Nat → Bool := fun i j => t (whoI q i) (whoI q j)
/-- in the middle of being filled -/
def namedTo (q : List Int) (t : Nat → Nat → Bool) (a b : Nat) : Nat → Nat → Bool := fun i j => if whoI q i < a ∨ whoI q i = a ∧ whoI q j < b then t (whoI q i) (whoI q j) else false
theorem namedTo_start (q : List Int) (t : Nat → Nat → Bool) : namedTo q t 0 0 = fun _ _ => false := by funext i j; simp [namedTo]
theorem namedTo_next {n : Nat} {q : List Int} (h : isNamingI n q = true) (t : Nat → Nat → Bool) {a b x y : Nat} (hx : q[a]? = some (x : Int)) (hy : q[b]? = some (y : Int)) :
    ∀ i j, i < n → j < n → upd (namedTo q t a b) x y (t a b) i j = namedTo q t a (b + 1) i j := by
  intro i j hi hj
  have hn := (isNamingI_parts h).2.2
  unfold upd namedTo
  have ex := whoI_at hn hx
  have ey := whoI_at hn hy
  by_cases hc : i = x ∧ j = y
  · obtain ⟨rfl, rfl⟩ := hc
    rw [if_pos ⟨rfl, rfl⟩, ex, ey, if_pos (by omega)]
  · rw [if_neg hc]
    have hne : ¬ (whoI q i = a ∧ whoI q j = b) := by
      rintro ⟨e1, e2⟩
      have h1 := whoI_name h (i := i) (by omega)
      have h2 := whoI_name h (i := j) (by omega)
      rw [e1, hx] at h1
      rw [e2, hy] at h2
      simp only [Option.some.injEq] at h1 h2
      exact hc ⟨by omega, by omega⟩
    have : (whoI q i < a ∨ whoI q i = a ∧ whoI q j < b) ↔ (whoI q i < a ∨ whoI q i = a ∧ whoI q j < b + 1) := by omega
    simp only [this]
theorem namedTo_row {n : Nat} {q : List Int} (h : isNamingI n q = true) (t : Nat → Nat → Bool) (a : Nat) : ∀ i j, i < n → j < n → namedTo q t a n i j = namedTo q t (a + 1) 0 i j := by
  intro i j hi hj
  have := whoI_lt h (i := j) (by omega)
  unfold namedTo
  have : (whoI q i < a ∨ whoI q i = a ∧ whoI q j < n) ↔ (whoI q i < a + 1 ∨ whoI q i = a + 1 ∧ whoI q j < 0) := by omega
  simp only [this]
theorem namedTo_all {n : Nat} {q : List Int} (h : isNamingI n q = true) (t : Nat → Nat → Bool) : ∀ i j, i < n → j < n → namedTo q t n 0 i j = namedT q t i j := by
  intro i j hi hj
  have := whoI_lt h (i := i) (by omega)
  unfold namedTo namedT
  rw [if_pos (by omega)]

/-! ## Pairs, sorted -/
def pairI (a b : Int) : Int × Int := (min a b, max a b)
def sortP (l : PL) : PL := l.mergeSort fun x y => !pairLess y x
theorem pairLess_plt {a b : Int × Int} : pairLess a b = true ↔ plt a b := by unfold pairLess plt; simp
theorem sortP_perm (l : PL) : (sortP l).Perm l := List.mergeSort_perm _ _
theorem sortP_mem {l : PL} {r : Int × Int} : r ∈ sortP l ↔ r ∈ l := (sortP_perm l).mem_iff
theorem sortP_length (l : PL) : (sortP l).length = l.length := (sortP_perm l).length_eq
theorem sortP_sorted {l : PL} (hn : l.Nodup) : (sortP l).Pairwise plt := by
  have h := List.pairwise_mergeSort (le := fun x y : Int × Int => !pairLess y x) (by
    intro a b c
    simp only [Bool.not_eq_true', ← Bool.not_eq_true, pairLess_plt]
    unfold plt
    omega) (by
    intro a b
    simp only [Bool.or_eq_true, Bool.not_eq_true', ← Bool.not_eq_true, pairLess_plt]
    unfold plt
    omega) l
  have hn' : (sortP l).Nodup := (sortP_perm l).nodup_iff.2 hn
  refine (h.and hn').imp fun {a b} hab => ?_
  obtain ⟨h1, h2⟩ := hab
  simp only [Bool.not_eq_true', ← Bool.not_eq_true, pairLess_plt] at h1
  unfold plt at h1 ⊢
  apply Classical.byContradiction
  intro hc
  exact h2 (Prod.ext (by omega) (by omega))
/-- the pairs of people renamed, as they come -/
def namesP (l : PL) (q : List Int) : PL := l.map fun r => pairI (nameI q r.1) (nameI q r.2)
theorem namesP_snoc (l : PL) (q : List Int) (x y : Int) : namesP (l ++ [(x, y)]) q = namesP l q ++ [pairI (nameI q x) (nameI q y)] := by simp [namesP]
theorem namesP_length (l : PL) (q : List Int) : (namesP l q).length = l.length := by simp [namesP]
theorem name_of {p : Int} {q : List Int} (h : isNamingI p q = true) {x : Int} (hx : 0 ≤ x ∧ x < p) : ∃ i : Nat, nameI q x = i ∧ (i : Int) < p ∧ q[x.toNat]? = some (i : Int) ∧ whoI q i = x.toNat := by
  obtain ⟨hl, hm, hn⟩ := isNamingI_parts h
  obtain ⟨y, hy⟩ := getSome q x.toNat (by omega)
  have h1 := hm y (List.mem_of_getElem? hy)
  have e : ((x.toNat : Nat) : Int) = x := by omega
  have h2 := nameI_at hy
  rw [e] at h2
  refine ⟨y.toNat, by omega, by omega, by rw [hy]; congr 1; omega, whoI_at hn ?_⟩
  rw [hy]
  congr 1
  omega
theorem namesP_nodup {p : Int} {l : PL} {q : List Int} (hp : isP p l = true) (h : isNamingI p q = true) : (namesP l q).Nodup := by
  obtain ⟨_, _, hm, hs⟩ := isP_list hp
  unfold namesP
  rw [List.Nodup, List.pairwise_map]
  refine List.Pairwise.imp_of_mem (fun {r s} hr hs' hlt e => ?_) hs
  have a0 := hm r hr
  have b0 := hm s hs'
  obtain ⟨i1, e1, _, _, w1⟩ := name_of h (x := r.1) (by omega)
  obtain ⟨i2, e2, _, _, w2⟩ := name_of h (x := r.2) (by omega)
  obtain ⟨i3, e3, _, _, w3⟩ := name_of h (x := s.1) (by omega)
  obtain ⟨i4, e4, _, _, w4⟩ := name_of h (x := s.2) (by omega)
  rw [e1, e2, e3, e4] at e
  unfold pairI at e
  simp only [Prod.mk.injEq] at e
  have hc : i1 = i3 ∧ i2 = i4 ∨ i1 = i4 ∧ i2 = i3 := by omega
  unfold plt at hlt
  rcases hc with ⟨c1, c2⟩ | ⟨c1, c2⟩
  · subst c1; subst c2; omega
  · subst c1; subst c2; omega
theorem tabP_named {n : Nat} {l : PL} {q : List Int} (hp : isP n l = true) (h : isNamingI n q = true) : tabP n (namedT q (adj l)) = sortP (namesP l q) := by
  obtain ⟨_, h12, hm, hs⟩ := isP_list hp
  refine sorted_ext (filter_list (by omega) _).2.2.2 (sortP_sorted (namesP_nodup hp h)) fun r => ?_
  unfold tabP
  rw [List.mem_filter, mem_allP, sortP_mem]
  unfold namesP
  rw [List.mem_map]
  constructor
  · rintro ⟨⟨h0, h1, h2⟩, ht⟩
    have w1 := whoI_name h (i := r.1.toNat) (by omega)
    have w2 := whoI_name h (i := r.2.toNat) (by omega)
    unfold namedT adj at ht
    rw [Bool.or_eq_true, List.contains_iff_mem, List.contains_iff_mem] at ht
    rcases ht with ht | ht
    · refine ⟨_, ht, ?_⟩
      simp only
      rw [nameI_at w1, nameI_at w2]
      unfold pairI
      exact Prod.ext (by simp only; omega) (by simp only; omega)
    · refine ⟨_, ht, ?_⟩
      simp only
      rw [nameI_at w1, nameI_at w2]
      unfold pairI
      exact Prod.ext (by simp only; omega) (by simp only; omega)
  · rintro ⟨s, hsl, rfl⟩
    have b0 := hm s hsl
    obtain ⟨i1, e1, l1, _, w1⟩ := name_of h (x := s.1) (by omega)
    obtain ⟨i2, e2, l2, _, w2⟩ := name_of h (x := s.2) (by omega)
    rw [e1, e2]
    have hne : i1 ≠ i2 := by
      rintro rfl
      omega
    unfold pairI namedT adj
    have d1 : ((s.1.toNat : Nat) : Int) = s.1 := by omega
    have d2 : ((s.2.toNat : Nat) : Int) = s.2 := by omega
    rcases Nat.lt_or_ge i1 i2 with hlt | hge
    · have m1 : min (i1 : Int) i2 = i1 := by omega
      have m2 : max (i1 : Int) i2 = i2 := by omega
      rw [m1, m2]
      refine ⟨⟨by simp only; omega, by simp only; omega, by simp only; omega⟩, ?_⟩
      simp only [Int.toNat_natCast, w1, w2, d1, d2, Bool.or_eq_true, List.contains_iff_mem]
      exact .inl hsl
    · have m1 : min (i1 : Int) i2 = i2 := by omega
      have m2 : max (i1 : Int) i2 = i1 := by omega
      rw [m1, m2]
      refine ⟨⟨by simp only; omega, by simp only; omega, by simp only; omega⟩, ?_⟩
      simp only [Int.toNat_natCast, w1, w2, d1, d2, Bool.or_eq_true, List.contains_iff_mem]
      exact .inr hsl
end Go.Proofs.Ytepoabbkalhifaa
/-
  'RenamePainting', PURE: the colours behind other names, as a table and as a list, as far as so many pairs go.
-/
namespace Go.Proofs.Ytepoabbkalhifaa

def nmN (m : List Int) (a : Nat) : Nat := (nameI m (a : Int)).toNat
theorem nm_of {n : Nat} {m : List Int} (h : isNamingI n m = true) {a : Nat} (ha : a < n) : m[a]? = some ((nmN m a : Nat) : Int) ∧ nmN m a < n ∧ whoI m (nmN m a) = a := by
  obtain ⟨i, e1, e2, e3, e4⟩ := name_of h (x := (a : Int)) (by omega)
  have e : nmN m a = i := by unfold nmN; rw [e1]; simp
  rw [e]
  simp only [Int.toNat_natCast] at e3 e4
  exact ⟨e3, by omega, e4⟩
theorem who_of {n : Nat} {m : List Int} (h : isNamingI n m = true) {i : Nat} (hi : i < n) : whoI m i < n ∧ nmN m (whoI m i) = i := by
  have h1 := whoI_lt h (i := i) (by omega)
  have h2 := nameI_at (whoI_name h (i := i) (by omega))
  exact ⟨by omega, by unfold nmN; rw [h2]; simp⟩
theorem nm_iff {n : Nat} {m : List Int} (h : isNamingI n m = true) {i a : Nat} (hi : i < n) (ha : a < n) : i = nmN m a ↔ whoI m i = a :=
  ⟨fun e => by rw [e]; exact (nm_of h ha).2.2, fun e => by rw [← e]; exact (who_of h hi).2.symm⟩
/-- the table behind so many pairs -/
def rT (n : Nat) (m l : List Int) : Nat → Nat → Nat → Int
  | 0 => fun _ _ => 0
  | q + 1 => paintF (rT n m l q) (nmN m (pairAt n q).1) (nmN m (pairAt n q).2) (l.getD q 0)
theorem rT_next {n q a b : Nat} {m l : List Int} {x : Int} (hp : pairAt n q = (a, b)) (hx : l[q]? = some x) : rT n m l (q + 1) = paintF (rT n m l q) (nmN m a) (nmN m b) x := by
  show paintF (rT n m l q) (nmN m (pairAt n q).1) (nmN m (pairAt n q).2) (l.getD q 0) = _
  rw [hp, List.getD_eq_getElem?_getD, hx]
  rfl
theorem rT_at {n : Nat} {m l : List Int} (hn : n ≤ 8) (h : isNamingI n m = true) : ∀ q, q ≤ (allP n).length → ∀ i j, i < n → j < n → rT n m l q i j = shK n l q (whoI m i) (whoI m j)
  | 0, _, i, j, _, _ => rfl
  | q + 1, hq, i, j, hi, hj => by
    obtain ⟨a, b, hab, hb, e, _, hp⟩ := pairAt_of hn (show q < (allP n).length by omega)
    show paintF (rT n m l q) (nmN m (pairAt n q).1) (nmN m (pairAt n q).2) (l.getD q 0) i j = paintF (shK n l q) (pairAt n q).1 (pairAt n q).2 (l.getD q 0) (whoI m i) (whoI m j)
    rw [hp]
    unfold paintF
    simp only
    have ih := rT_at (l := l) hn h q (by omega) i j hi hj
    have e1 := nm_iff h hi (show a < n by omega)
    have e2 := nm_iff h hi (show b < n by omega)
    have e3 := nm_iff h hj (show a < n by omega)
    have e4 := nm_iff h hj (show b < n by omega)
    rw [ih]
    simp only [e1, e2, e3, e4]
/-- the colours behind other names -/
def renX (n : Nat) (l m : List Int) : List Int := (allP n).map fun q => colX n l (whoI m q.1.toNat) (whoI m q.2.toNat)
theorem renX_len (n : Nat) (l m : List Int) : (renX n l m).length = (allP n).length := by simp [renX]
theorem who_ne {n : Nat} {m : List Int} (h : isNamingI n m = true) {i j : Nat} (hi : i < n) (hj : j < n) (hij : i ≠ j) : whoI m i ≠ whoI m j := fun e => hij (by rw [← (who_of h hi).2, e, (who_of h hj).2])
theorem cols_rT {n : Nat} {m l : List Int} (hn : n ≤ 8) (h : isNamingI n m = true) : colsP n (rT n m l (allP n).length) = renX n l m := by
  unfold colsP renX
  apply List.map_congr_left
  intro q hq
  have hm := mem_allP.1 hq
  obtain ⟨x, y⟩ := q
  simp only at hm ⊢
  rw [rT_at hn h _ (Nat.le_refl _) _ _ (by omega) (by omega)]
  exact shX_col hn (who_of h (by omega)).1 (who_of h (by omega)).1 (who_ne h (by omega) (by omega) (by omega))
/-- the list behind so many pairs -/
def sL (n : Nat) (m l : List Int) : Nat → List Int
  | 0 => l
  | q + 1 => (sL n m l q).set (atP n (min (nmN m (pairAt n q).1) (nmN m (pairAt n q).2)) (max (nmN m (pairAt n q).1) (nmN m (pairAt n q).2))) (l.getD q 0)
theorem sL_len (n : Nat) (m l : List Int) : ∀ q, (sL n m l q).length = l.length
  | 0 => rfl
  | q + 1 => by show (List.set _ _ _).length = _; rw [List.length_set]; exact sL_len n m l q
theorem sL_next {n q a b : Nat} {m l : List Int} (hp : pairAt n q = (a, b)) : sL n m l (q + 1) = (sL n m l q).set (atP n (min (nmN m a) (nmN m b)) (max (nmN m a) (nmN m b))) (l.getD q 0) := by
  show (sL n m l q).set (atP n (min (nmN m (pairAt n q).1) (nmN m (pairAt n q).2)) (max (nmN m (pairAt n q).1) (nmN m (pairAt n q).2))) (l.getD q 0) = _
  rw [hp]
theorem sL_at {n : Nat} {m l : List Int} (hn : n ≤ 8) (h : isNamingI n m = true) (hl : l.length = (allP n).length) {i j : Nat} (hij : i < j) (hj : j < n) : ∀ q, q ≤ (allP n).length →
    (sL n m l q)[atP n i j]? = some (if atP n (min (whoI m i) (whoI m j)) (max (whoI m i) (whoI m j)) < q then colX n l (whoI m i) (whoI m j) else l.getD (atP n i j) 0)
  | 0, _ => by
    have hlt := atP_lt hn hij hj
    rw [if_neg (by omega)]
    show l[atP n i j]? = _
    rw [List.getD_eq_getElem?_getD, List.getElem?_eq_getElem (by omega)]
    rfl
  | q + 1, hq => by
    obtain ⟨a, b, hab, hb, e, _, hp⟩ := pairAt_of hn (show q < (allP n).length by omega)
    rw [sL_next hp]
    have ih := sL_at hn h hl hij hj q (by omega)
    have hi : i < n := by omega
    have ha : a < n := by omega
    obtain ⟨_, na, wa⟩ := nm_of h ha
    obtain ⟨_, nb, wb⟩ := nm_of h hb
    have hne := who_ne h hi hj (by omega)
    have wi := (who_of h hi).1
    have wj := (who_of h hj).1
    have nne : nmN m a ≠ nmN m b := fun e => by rw [e, wb] at wa; omega
    by_cases hu : atP n (min (nmN m a) (nmN m b)) (max (nmN m a) (nmN m b)) = atP n i j
    · have hin := atP_inj hn (by omega) (by omega) hij hj hu
      rw [hu, List.getElem?_set_self (by rw [sL_len, hl]; exact atP_lt hn hij hj)]
      have hab2 : (whoI m i = a ∧ whoI m j = b) ∨ (whoI m i = b ∧ whoI m j = a) := by
        rcases Nat.lt_or_ge (nmN m a) (nmN m b) with h1 | h1
        · left
          have h2 : i = nmN m a := by omega
          have h3 : j = nmN m b := by omega
          rw [h2, h3]
          exact ⟨wa, wb⟩
        · right
          have h2 : i = nmN m b := by omega
          have h3 : j = nmN m a := by omega
          rw [h2, h3]
          exact ⟨wb, wa⟩
      have e1 : min (whoI m i) (whoI m j) = a := by omega
      have e2 : max (whoI m i) (whoI m j) = b := by omega
      unfold colX
      rw [e1, e2, ← e, if_pos (by omega)]
    · rw [List.getElem?_set_ne hu, ih]
      have hq2 : atP n (min (whoI m i) (whoI m j)) (max (whoI m i) (whoI m j)) ≠ q := by
        intro h2
        rw [e] at h2
        have h3 := atP_inj hn (by omega) (by omega) hab hb h2
        apply hu
        have h5 : (i = nmN m a ∧ j = nmN m b) ∨ (i = nmN m b ∧ j = nmN m a) := by
          rcases Nat.lt_or_ge (whoI m i) (whoI m j) with h4 | h4
          · exact .inl ⟨(nm_iff h hi ha).2 (by omega), (nm_iff h hj hb).2 (by omega)⟩
          · exact .inr ⟨(nm_iff h hi hb).2 (by omega), (nm_iff h hj ha).2 (by omega)⟩
        rw [show min (nmN m a) (nmN m b) = i by omega, show max (nmN m a) (nmN m b) = j by omega]
      by_cases h3 : atP n (min (whoI m i) (whoI m j)) (max (whoI m i) (whoI m j)) < q
      · rw [if_pos h3, if_pos (by omega)]
      · rw [if_neg h3, if_neg (by omega)]
theorem sL_all {n : Nat} {m l : List Int} (hn : n ≤ 8) (h : isNamingI n m = true) (hl : l.length = (allP n).length) : sL n m l (allP n).length = renX n l m := by
  refine List.ext_getElem? fun t => ?_
  by_cases ht : t < (allP n).length
  · obtain ⟨i, j, hij, hj, e, hp, _⟩ := pairAt_of hn ht
    have hi : i < n := by omega
    have hne := who_ne h hi hj (by omega)
    have wi := (who_of h hi).1
    have wj := (who_of h hj).1
    rw [e, sL_at hn h hl hij hj _ (Nat.le_refl _), if_pos (atP_lt hn (by omega) (by omega))]
    unfold renX
    rw [List.getElem?_map, ← e, hp]
    simp
  · rw [List.getElem?_eq_none (by rw [sL_len, hl]; omega), List.getElem?_eq_none (by rw [renX_len]; omega)]
theorem atP_row_all : ∀ n : Fin 9, (∀ a : Fin 9, a.val < n.val → atP n.val a.val n.val = atP n.val (a.val + 1) (a.val + 1 + 1)) ∧ atP n.val n.val (n.val + 1) = (allP n.val).length := by decide +kernel
theorem atP_row {n a : Nat} (hn : n ≤ 8) (ha : a < n) : atP n a n = atP n (a + 1) (a + 1 + 1) := (atP_row_all ⟨n, by omega⟩).1 ⟨a, by omega⟩ ha
theorem atP_end {n : Nat} (hn : n ≤ 8) : atP n n (n + 1) = (allP n).length := (atP_row_all ⟨n, by omega⟩).2
theorem atP_succ {n a b : Nat} (hab : a < b) : atP n a (b + 1) = atP n a b + 1 := by unfold atP; omega
theorem pairAt_at {n a b : Nat} (hn : n ≤ 8) (hab : a < b) (hb : b < n) : pairAt n (atP n a b) = (a, b) := by
  unfold pairAt
  rw [List.getD_eq_getElem?_getD, atP_get hn hab hb]
  simp
def resRenamePainting (p k : Int) (l m : List Int) : Int × Int × List Int × Bool := if isX p k l && isNamingI p m then (p, k, renX p.toNat l m, true) else (0, 0, [], false)
theorem resRenamePainting_len (p k : Int) (l m : List Int) : (resRenamePainting p k l m).2.2.1.length ≤ 1048576 := by
  unfold resRenamePainting
  split
  · rename_i h
    simp only [Bool.and_eq_true] at h
    have h1 := (count_of (isX_parts h.1).1).2.1
    simp only [renX_len]
    omega
  · simp
end Go.Proofs.Ytepoabbkalhifaa
/-
  WHETHER A NUMBER IS IN A LIST: the model's look; a list's front.
-/
namespace Go.Proofs.Ytepoabbkalhifaa
open Go.RowKit

theorem icells_getD {l : List Int} {j : Nat} (h : j < l.length) : (icells l)[j]? = some (.int .i64 (l.getD j 0)) := by
  simp [icells, List.getD_eq_getElem?_getD, List.getElem?_eq_getElem h]
theorem CRead.ints {w : World} {B : Nat} {A : Option Addr} {q : List Int} (h : CRead w B A (icells q)) (hq : 0 < q.length) : ∃ b off, A = some ⟨b, off, none⟩ ∧ b < B ∧ ∀ j, j < q.length → w.cell? ⟨b, off + j, none⟩ = some (.int .i64 (q.getD j 0)) := by
  obtain ⟨b, off, rfl, hb, _⟩ := h 0 _ (icells_getD hq)
  refine ⟨b, off, rfl, hb, fun j hj => ?_⟩
  obtain ⟨b', off', e, _, hc⟩ := h j _ (icells_getD hj)
  simp only [Option.some.injEq, Addr.mk.injEq, and_true] at e
  obtain ⟨rfl, rfl⟩ := e
  exact hc

theorem CRead.front {w : World} {B : Nat} {A : Option Addr} {q : List Int} (h : CRead w B A (icells q)) (k : Nat) : CRead w B A (icells (q.take k)) := fun j u hu => by
  refine h j u ?_
  unfold icells at hu ⊢
  rw [List.map_take, List.getElem?_take] at hu
  split at hu
  · exact hu
  · cases hu


/-- whether a number is in a list -/
def hasI (q : List Int) (x : Int) : Bool := q.contains x
theorem hasI_mem {q : List Int} {x : Int} : hasI q x = true ↔ x ∈ q := List.contains_iff_mem
set_option maxHeartbeats 1000000 in
theorem l1Has_any (q : List Int) (x : Int) (A : Option Addr) (c : Nat) (w : World) (hl : q.length ≤ 1048576) (hA : CRead w w.heap.size A (icells q)) :
    Calls Try.prog 114 #[.slice A q.length c, .int .i64 x] w fun e w' => e = .returned (.bool (hasI q x)) ∧ w = w' := by
  go_enter Try.func114, Try.ntmps114
  go_wp2
  go_loop [9] (fun i => ∃ k : Nat, k ≤ q.length ∧ i = .int .i64 k ∧ ∀ (j : Nat) (y : Int), j < k → q[j]? = some y → y ≠ x) (fun i => q.length - (intOf i).toNat)
  case atStart => exact ⟨0, Nat.zero_le _, rfl, fun j x hj => by omega⟩
  case round =>
    obtain ⟨k, hk, rfl, hg⟩ := hrel
    have Hg := Lib.hid hg
    clear hg
    by_cases hlt : k < q.length
    · obtain ⟨y, hy⟩ := getSome q k hlt
      obtain ⟨b, off, rfl, hbb, c0⟩ := hA.int hy
      have hki : (k : Int) < (q.length : Int) := by omega
      have Hy := Lib.hid hy
      clear hy
      by_cases hyx : y = x
      · subst hyx
        have He := Lib.hid (show hasI q y = true from hasI_mem.2 (List.mem_of_getElem? Hy.out))
        go_wp2
        go_ret
        exact ⟨by rw [He.out]; rfl, rfl⟩
      · go_wp2
        go_round
        case rel =>
          refine ⟨k + 1, by omega, by go_num, fun j z hj hz => ?_⟩
          by_cases hjk : j = k
          · subst hjk
            rw [Hy.out] at hz
            simp only [Option.some.injEq] at hz
            subst hz
            exact hyx
          · exact Hg.out j z (by omega) hz
        case measure => simp [intOf]; omega
    · have hkl : k = q.length := by omega
      have e : hasI q x = false := by
        rw [Bool.eq_false_iff]
        intro hc
        rw [hasI_mem] at hc
        obtain ⟨i, hi, e⟩ := List.getElem_of_mem hc
        exact Hg.out i _ (by omega) (List.getElem?_eq_getElem hi) e
      have He := Lib.hid e
      clear e
      have hge : ¬ ((k : Int) < (q.length : Int)) := by omega
      go_wp2
      go_ret
      exact ⟨by rw [He.out]; rfl, rfl⟩
end Go.Proofs.Ytepoabbkalhifaa
/-
  'spec.l1Own': a copy of a list of numbers, by its contract.
-/
namespace Go.Proofs.Ytepoabbkalhifaa
open Go.RowKit

set_option maxHeartbeats 1000000 in
set_option maxRecDepth 100000 in
theorem l1Own_any (q : List Int) (A : Option Addr) (c : Nat) (w : World) (hq : q.length ≤ 1048576) (h0 : 0 < q.length) (hA : CRead w w.heap.size A (icells q)) :
    Calls Try.prog 101 #[.slice A q.length c] w fun e w' => ∃ A' c', e = .returned (.slice A' q.length c') ∧ w'.ownsRow w.heap.size 3 1 (.slice A' q.length c') q.length (icells q) ∧ Below w.heap.size w w' := by
  obtain ⟨i0, hi, hz0, hz1, hz2⟩ := info_parts Try.infoInt
  obtain ⟨b, off, rfl, hb, hr⟩ := hA.ints h0
  go_enter Try.func101, Try.ntmps101
  have hc : ∀ j u, (icells q)[j]? = some u → (w.alloc (Obj.cells #[] 3)).cell? ((⟨b, off, none⟩ : Addr).add j) = some u := fun j u hu => by
    rw [Addr.add_lit]
    obtain ⟨b', off', e, _, hcell⟩ := hA j u hu
    simp only [Option.some.injEq, Addr.mk.injEq, and_true] at e
    obtain ⟨rfl, rfl⟩ := e
    exact (World.cell?_alloc_lt _ _ _ hb).trans hcell
  clear hr
  go_wp2_with (at_builtin; refine wpList_append_grows _ rfl _ _ 22 rfl 3 i0 _ 1 8 Try.underlying22 hi hz0 hz1 hz2 rfl (by decide) (some ⟨w.heap.size, 0, none⟩) 0 0 [] rfl (fun h => by cases h) rfl (fun b' hb' m u hu => by simp at hu) ⟨b, off, none⟩ q.length c (icells q) rfl (by simp [icells]) hc (icells_one q) (by omega) (by unfold maxLen; omega) (by omega) ?_; intro v1 w4 own4 gr4; simp only [Nat.zero_add, List.nil_append] at own4; obtain ⟨A4, d4, rfl, _⟩ := own_shape own4)
  go_ret
  exact ⟨A4, d4, rfl, own_lower own4 (by simp), below_of_gb (gb_trans (World.grownBy_alloc w _ none) gr4) (Nat.le_refl _)⟩
end Go.Proofs.Ytepoabbkalhifaa
/-
  LISTS OF NUMBERS UNDER ONE SLICE, each row in a block of the call's own; 'spec.l1Own' of any list; 'spec.trGroups' as a plain list.
-/
namespace Go.Proofs.Ytepoabbkalhifaa
open Go.RowKit

structure LRows (w : World) (B : Nat) (v : Value) (LL : List (List Int)) (hs : List Value) : Prop where
  own : w.ownsRow B 22 1 v LL.length hs
  row : ∀ (i : Nat) (l : List Int), LL[i]? = some l → ∃ A c, hs[i]? = some (Value.slice A l.length c) ∧ w.ownsRow B 3 1 (Value.slice A l.length c) l.length (icells l)
  nil : LL = [] → v = Value.slice none 0 0
section
variable {w w' : World} {B B' : Nat} {v v' v2 : Value} {LL L2 : List (List Int)} {hs hs2 : List Value}
theorem LRows.none (w : World) (B : Nat) : LRows w B (Value.slice Option.none 0 0) [] [] := ⟨World.ownsRow_nil _ _ _ _, fun i l h => by simp at h, fun _ => rfl⟩
theorem LRows.below (h : LRows w B v LL hs) (hb : Below w.heap.size w w') : LRows w' B v LL hs :=
  ⟨own_below h.own hb (Nat.le_refl _), fun i l hi => by obtain ⟨A, c, e, o⟩ := h.row i l hi; exact ⟨A, c, e, own_below o hb (Nat.le_refl _)⟩, h.nil⟩
theorem LRows.lower (h : LRows w B v LL hs) (hB : B' ≤ B) : LRows w B' v LL hs :=
  ⟨own_lower h.own hB, fun i l hi => by obtain ⟨A, c, e, o⟩ := h.row i l hi; exact ⟨A, c, e, own_lower o hB⟩, h.nil⟩
theorem LRows.length (h : LRows w B v LL hs) : hs.length = LL.length := by have := h.own.1; omega
theorem LRows.one (h : LRows w B v LL hs) : ∀ u ∈ hs, u.oneCell' = true := by
  intro u hu
  obtain ⟨i, hi, rfl⟩ := List.getElem_of_mem hu
  have hl := h.length
  obtain ⟨A, c, e, _⟩ := h.row i LL[i] (List.getElem?_eq_getElem (by omega))
  rw [List.getElem?_eq_getElem hi] at e
  simp only [Option.some.injEq] at e
  rw [e]
  rfl
theorem blocks_apart {e e' : TypeId} {size size' n m : Nat} {xs ys : List Value} (h : w.ownsRow B e size v n xs) (h' : w.ownsRow B' e' size' v' m ys) (hne : e ≠ e') : v'.ownBlock = .none ∨ v'.ownBlock ≠ v.ownBlock := by
  rcases h'.2 with ⟨rfl, _⟩ | ⟨g, cap, cur, rfl, _, hg, _⟩
  · exact .inl rfl
  · refine .inr fun e => ?_
    rcases h.2 with ⟨rfl, _⟩ | ⟨g2, cap2, cur2, rfl, _, hg2, _⟩
    · simp [Value.ownBlock] at e
    · have : g = g2 := by simpa [Value.ownBlock] using e
      subst this
      rw [hg] at hg2
      simp only [Option.some.injEq, Obj.cells.injEq] at hg2
      exact hne hg2.2.1.symm
/-- rows appended to rows -/
theorem LRows.append (h : LRows w B v LL hs) (h2 : LRows w B v2 L2 hs2) (hown : w'.ownsRow B 22 1 v' (LL.length + L2.length) (hs ++ hs2)) (hg : w.grownBy w' v.ownBlock) (hn : L2 ≠ []) : LRows w' B v' (LL ++ L2) (hs ++ hs2) := by
  have keep : ∀ A c l, w.ownsRow B 3 1 (.slice A l.length c) l.length (icells l) → w'.ownsRow B 3 1 (.slice A l.length c) l.length (icells l) := fun A c l o => o.kept hg (blocks_apart h.own o (show (22 : TypeId) ≠ 3 by decide))
  refine ⟨by rw [List.length_append]; exact hown, fun i l hi => ?_, fun e => ?_⟩
  · have hl := h.length
    by_cases hlt : i < LL.length
    · rw [List.getElem?_append_left hlt] at hi
      obtain ⟨A, c, e, o⟩ := h.row i l hi
      exact ⟨A, c, by rw [List.getElem?_append_left (by omega)]; exact e, keep A c l o⟩
    · rw [List.getElem?_append_right (by omega)] at hi
      obtain ⟨A, c, e, o⟩ := h2.row _ l hi
      exact ⟨A, c, by rw [List.getElem?_append_right (by omega), hl]; exact e, keep A c l o⟩
  · simp at e
    exact absurd e.2 hn
end
/-- A call came back with lists of numbers. -/
def GotLL (w : World) (LL : List (List Int)) (e : Ending) (w' : World) : Prop := ∃ A c hs, e = .returned (.slice A LL.length c) ∧ LRows w' w.heap.size (.slice A LL.length c) LL hs ∧ Below w.heap.size w w'

set_option maxHeartbeats 1000000 in
set_option maxRecDepth 100000 in
theorem l1Own_all (q : List Int) (A : Option Addr) (c : Nat) (w : World) (hq : q.length ≤ 1048576) (hA : CRead w w.heap.size A (icells q)) (h0 : q = [] → A = none ∧ c = 0) :
    Calls Try.prog 101 #[.slice A q.length c] w fun e w' => ∃ A' c', e = .returned (.slice A' q.length c') ∧ w'.ownsRow w.heap.size 3 1 (.slice A' q.length c') q.length (icells q) ∧ Below w.heap.size w w' := by
  by_cases hz : q = []
  · obtain ⟨rfl, rfl⟩ := h0 hz
    subst hz
    obtain ⟨i0, hi, hz0, hz1, hz2⟩ := info_parts Try.infoInt
    have h1 : (w.alloc (.cells #[] 3)).ownsRow w.heap.size 3 1 (.slice (some ⟨w.heap.size, 0, none⟩) 0 0) 0 [] := World.ownsRow_made w #[] 0 (Nat.le_refl _) (Nat.zero_le _) rfl
    go_enter Try.func101, Try.ntmps101
    go_wp2_with (at_builtin; refine wpList_append_own_none rfl _ _ 22 rfl w.heap.size 3 i0 1 Try.underlying22 hi (.slice (some ⟨w.heap.size, 0, none⟩) 0 0) 0 [] rfl h1 rfl ?_)
    go_ret
    exact ⟨_, _, rfl, h1, by go_grown⟩
  · have hpos : 0 < q.length := by cases q with | nil => exact absurd rfl hz | cons x q => simp
    exact l1Own_any q A c w hq hpos hA

/-! ## The model's candidates -/
def fromQ (q : List Int) : Nat := match q.getLast? with | none => 0 | some x => x.toNat + 1
def candR (t : Nat → Nat → Bool) (n : Nat) (q : List Int) (a : Nat) : List Nat := (List.range' a (n - a)).filter fun b => q.all fun y => t b y.toNat
theorem candR_end (t : Nat → Nat → Bool) (n : Nat) (q : List Int) {a : Nat} (h : n ≤ a) : candR t n q a = [] := by unfold candR; rw [Nat.sub_eq_zero_of_le h]; rfl
theorem candR_no {t : Nat → Nat → Bool} {n : Nat} {q : List Int} {a : Nat} (h : a < n) (hk : (q.all fun y => t a y.toNat) = false) : candR t n q a = candR t n q (a + 1) := by
  unfold candR
  rw [show n - a = (n - (a + 1)) + 1 from by omega, List.range'_succ, List.filter_cons_of_neg (by simp [hk])]
theorem candR_yes {t : Nat → Nat → Bool} {n : Nat} {q : List Int} {a : Nat} (h : a < n) (hk : (q.all fun y => t a y.toNat) = true) : candR t n q a = a :: candR t n q (a + 1) := by
  unfold candR
  rw [show n - a = (n - (a + 1)) + 1 from by omega, List.range'_succ, List.filter_cons_of_pos (by simpa using hk)]
theorem candR_tied {t : Nat → Nat → Bool} (hs : ∀ i j, t i j = t j i) (n : Nat) (q : List Int) (a : Nat) : (candR t n q (a + 1)).filter (t a) = candR t n (q ++ [(a : Int)]) (fromQ (q ++ [(a : Int)])) := by
  unfold candR fromQ
  simp only [List.getLast?_append, List.getLast?_singleton, Option.some_or, Int.toNat_natCast]
  rw [List.filter_filter]
  refine List.filter_congr fun b _ => ?_
  rw [List.all_append]
  simp [hs a b, Bool.and_comm]
end Go.Proofs.Ytepoabbkalhifaa
/-
  A COPY OF A LIST of any length, and what an own row's slice looks like.
-/
namespace Go.Proofs.Ytepoabbkalhifaa
open Go.RowKit

theorem own_none {w : World} {B : Nat} {e : TypeId} {m c : Nat} {A : Option Addr} {xs : List Value} (h : w.ownsRow B e 1 (.slice A m c) m xs) : (A = none ∧ m = 0 ∧ c = 0) ∨ ∃ g, A = some ⟨g, 0, none⟩ := by
  rcases h.2 with ⟨h1, h2⟩ | ⟨g, cap, cur, hv, _⟩
  · simp only [Value.slice.injEq] at h1
    exact .inl ⟨h1.1, h2, h1.2.2⟩
  · simp only [Value.slice.injEq] at hv
    exact .inr ⟨g, hv.1⟩

theorem own_zero {w : World} {B : Nat} {e : TypeId} {m c : Nat} {A : Option Addr} {xs : List Value} (h : w.ownsRow B e 1 (.slice A m c) m xs) : A = none → c = 0 := by
  intro hA
  rcases own_none h with ⟨_, _, h3⟩ | ⟨g, h1⟩
  · exact h3
  · rw [hA] at h1; cases h1
set_option maxHeartbeats 4000000 in
set_option maxRecDepth 100000 in
theorem l1Own_row (q : List Int) (A : Option Addr) (c : Nat) (w : World) (hq : q.length ≤ 1048576) (hA : CRead w w.heap.size A (icells q)) (h0 : A = none → c = 0) :
    Calls Try.prog 101 #[.slice A q.length c] w fun e w' => ∃ A' c', e = .returned (.slice A' q.length c') ∧ w'.ownsRow w.heap.size 3 1 (.slice A' q.length c') q.length (icells q) ∧ Below w.heap.size w w' := by
  by_cases hz : q = []
  · cases A with
    | none => exact l1Own_all q none c w hq hA fun _ => ⟨rfl, h0 rfl⟩
    | some ad =>
      subst hz
      obtain ⟨i0, hi, hz0, hz1, hz2⟩ := info_parts Try.infoInt
      have h1 : (w.alloc (.cells #[] 3)).ownsRow w.heap.size 3 1 (.slice (some ⟨w.heap.size, 0, none⟩) 0 0) 0 [] := World.ownsRow_made w #[] 0 (Nat.le_refl _) (Nat.zero_le _) rfl
      go_enter Try.func101, Try.ntmps101
      go_wp2_with (at_builtin; refine wpList_append_own _ rfl _ _ 22 rfl w.heap.size 3 i0 _ 1 8 Try.underlying22 hi hz0 hz1 hz2 rfl (by decide) (.slice (some ⟨w.heap.size, 0, none⟩) 0 0) 0 [] rfl h1 ad 0 c [] rfl rfl (fun j u hj => by simp at hj) (by simp) (by unfold maxLen; omega) (by omega) (by simp) ?_; intro v1 w1 own1 gr1 _; have k1 : Below w.heap.size w w1 := ((Below.refl _ w).alloc (Nat.le_refl _) _).grown gr1 (by simp) (by intro m hm; simp [Value.ownBlock] at hm; omega); obtain ⟨A1, c1, rfl, _⟩ := own_shape own1)
      go_ret
      exact ⟨A1, c1, rfl, own1, k1⟩
  · exact l1Own_all q A c w hq hA fun e => absurd e hz
end Go.Proofs.Ytepoabbkalhifaa
/-
  PAINTINGS, THE MODEL's own small functions: two people, the place of a pair, its colour, a copy; by their contracts.
-/
namespace Go.Proofs.Ytepoabbkalhifaa
open Go.RowKit

/-- a painting and two different people of it -/
def twoX (p k : Int) (l : List Int) (a b : Int) : Bool := isX p k l && (decide (0 ≤ a ∧ a ≤ p - 1) && (decide (0 ≤ b ∧ b ≤ p - 1) && decide (a ≠ b)))
theorem twoX_parts {p k a b : Int} {l : List Int} (h : twoX p k l a b = true) : isX p k l = true ∧ (0 ≤ a ∧ a ≤ p - 1) ∧ (0 ≤ b ∧ b ≤ p - 1) ∧ a ≠ b := by
  simp only [twoX, Bool.and_eq_true, decide_eq_true_eq] at h
  exact ⟨h.1, h.2.1, h.2.2.1, h.2.2.2⟩
set_option maxHeartbeats 2000000 in
set_option maxRecDepth 100000 in
theorem ptTwo_any (p k : Int) (l : List Int) (A : Option Addr) (c : Nat) (a b : Int) (w : World) (hl : l.length ≤ 1048576) (hA : CRead w w.heap.size A (icells l)) :
    Calls Try.prog 67 #[.agg #[.int .i64 p, .int .i64 k, .slice A l.length c], .int .i64 a, .int .i64 b] w fun e w' => e = .returned (.bool (twoX p k l a b)) ∧ Below w.heap.size w w' := by
  have RA : CRead (w.alloc (Obj.cells #[.int .i64 p, .int .i64 k, .slice A l.length c] 27)) (w.alloc (Obj.cells #[.int .i64 p, .int .i64 k, .slice A l.length c] 27)).heap.size A (icells l) := (hA.below (B' := w.heap.size) (by go_grown) (Nat.le_refl _)).more (by go_size)
  cases hp : isX p k l with
  | false =>
    have e : twoX p k l a b = false := by simp [twoX, hp]
    rw [e]
    have Hp := Lib.hid hp
    clear hp e
    go_enter Try.func67, Try.ntmps67
    go_wp2_with fail
    refine (ptGood_any _ _ _ _ _ _ hl RA).mono ?_
    rw [Hp.out]
    rintro e w2 ⟨rfl, hb2⟩
    simp only [World.size_alloc] at hb2
    go_wp2
    go_ret
    exact ⟨rfl, Below.trans (b := _) (by go_grown) (hb2.mono (by omega))⟩
  | true =>
    have hr := (isX_parts hp).1
    obtain ⟨hr0, hr1⟩ := hr
    have Hp := Lib.hid hp
    by_cases ha : 0 ≤ a ∧ a ≤ p - 1
    · obtain ⟨ha0, ha1⟩ := ha
      by_cases hb : 0 ≤ b ∧ b ≤ p - 1
      · obtain ⟨hb0, hb1⟩ := hb
        obtain ⟨r, hr⟩ : ∃ r, (a != b) = r := ⟨_, rfl⟩
        have e : twoX p k l a b = r := by
          rw [← hr]
          simp only [twoX, hp, ha0, ha1, hb0, hb1, and_self, decide_true, Bool.true_and]
          by_cases hab : a = b <;> simp [hab]
        rw [e]
        clear hp e
        go_enter Try.func67, Try.ntmps67
        go_wp2_with fail
        refine (ptGood_any _ _ _ _ _ _ hl RA).mono ?_
        rw [Hp.out]
        rintro e w2 ⟨rfl, hb2⟩
        simp only [World.size_alloc] at hb2
        have c0 : w2.cell? ⟨w.heap.size, 0, none⟩ = some (.int .i64 p) := carry hb2 (by simp) (by omega)
        go_wp2_with fail
        refine (l1In_yes a 0 (p - 1) ha0 ha1 _).mono ?_
        rintro e w' ⟨rfl, rfl⟩
        go_wp2_with fail
        refine (l1In_yes b 0 (p - 1) hb0 hb1 _).mono ?_
        rintro e w' ⟨rfl, rfl⟩
        go_wp2
        go_ret
        exact ⟨by rw [← hr]; rfl, Below.trans (b := _) (by go_grown) (hb2.mono (by omega))⟩
      · have e : twoX p k l a b = false := by simp [twoX, hb]
        rw [e]
        clear hp e
        go_enter Try.func67, Try.ntmps67
        go_wp2_with fail
        refine (ptGood_any _ _ _ _ _ _ hl RA).mono ?_
        rw [Hp.out]
        rintro e w2 ⟨rfl, hb2⟩
        simp only [World.size_alloc] at hb2
        have c0 : w2.cell? ⟨w.heap.size, 0, none⟩ = some (.int .i64 p) := carry hb2 (by simp) (by omega)
        go_wp2_with fail
        refine (l1In_yes a 0 (p - 1) ha0 ha1 _).mono ?_
        rintro e w' ⟨rfl, rfl⟩
        go_wp2_with fail
        refine (l1In_no b 0 (p - 1) (by omega) _).mono ?_
        rintro e w' ⟨rfl, rfl⟩
        go_wp2
        go_ret
        exact ⟨rfl, Below.trans (b := _) (by go_grown) (hb2.mono (by omega))⟩
    · have e : twoX p k l a b = false := by simp [twoX, ha]
      rw [e]
      clear hp e
      go_enter Try.func67, Try.ntmps67
      go_wp2_with fail
      refine (ptGood_any _ _ _ _ _ _ hl RA).mono ?_
      rw [Hp.out]
      rintro e w2 ⟨rfl, hb2⟩
      simp only [World.size_alloc] at hb2
      have c0 : w2.cell? ⟨w.heap.size, 0, none⟩ = some (.int .i64 p) := carry hb2 (by simp) (by omega)
      go_wp2_with fail
      refine (l1In_no a 0 (p - 1) (by omega) _).mono ?_
      rintro e w' ⟨rfl, rfl⟩
      go_wp2
      go_ret
      exact ⟨rfl, Below.trans (b := _) (by go_grown) (hb2.mono (by omega))⟩
/-- the place, in the model's own words -/
theorem ptAt_num : ∀ n : Fin 9, ∀ a : Fin 8, ∀ b : Fin 8, a.val < b.val → b.val < n.val →
    ((a.val : Int) * (2 * (n.val : Int) - a.val - 1)).tdiv 2 + b.val - a.val - 1 = (atP n.val a.val b.val : Int) ∧ (0 ≤ (a.val : Int) * (2 * (n.val : Int) - a.val - 1) ∧ (a.val : Int) * (2 * (n.val : Int) - a.val - 1) ≤ 1000) ∧ (0 ≤ ((a.val : Int) * (2 * (n.val : Int) - a.val - 1)).tdiv 2 ∧ ((a.val : Int) * (2 * (n.val : Int) - a.val - 1)).tdiv 2 ≤ 1000) := by decide +kernel
set_option maxHeartbeats 2000000 in
set_option maxRecDepth 100000 in
theorem ptAt_any (n a b : Nat) (hn : n ≤ 8) (ha : a < n) (hb : b < n) (hab : a ≠ b) (w : World) :
    Calls Try.prog 73 #[.int .i64 n, .int .i64 a, .int .i64 b] w fun e w' => e = .returned (.int .i64 (atP n (min a b) (max a b))) ∧ w = w' := by
  rcases Nat.lt_or_gt_of_ne hab with h | h
  · rw [Nat.min_eq_left (by omega), Nat.max_eq_right (by omega)]
    obtain ⟨e, ⟨q0, q1⟩, r0, r1⟩ := ptAt_num ⟨n, by omega⟩ ⟨a, by omega⟩ ⟨b, by omega⟩ h hb
    simp only at e q0 q1 r0 r1
    have w1 : IntKind.i64.wrap ((a : Int) * (2 * (n : Int) - a - 1)) = (a : Int) * (2 * (n : Int) - a - 1) := wrap_small (by omega)
    have w2 : IntKind.i64.wrap (((a : Int) * (2 * (n : Int) - a - 1)).tdiv 2) = ((a : Int) * (2 * (n : Int) - a - 1)).tdiv 2 := wrap_small (by omega)
    have hgt : ¬ ((b : Int) < (a : Int)) := by omega
    rw [← e]
    clear e
    go_enter Try.func73, Try.ntmps73
    go_wp2
    go_ret
    exact ⟨rfl, rfl⟩
  · rw [Nat.min_eq_right (by omega), Nat.max_eq_left (by omega)]
    obtain ⟨e, ⟨q0, q1⟩, r0, r1⟩ := ptAt_num ⟨n, by omega⟩ ⟨b, by omega⟩ ⟨a, by omega⟩ h ha
    simp only at e q0 q1 r0 r1
    have w1 : IntKind.i64.wrap ((b : Int) * (2 * (n : Int) - b - 1)) = (b : Int) * (2 * (n : Int) - b - 1) := wrap_small (by omega)
    have w2 : IntKind.i64.wrap (((b : Int) * (2 * (n : Int) - b - 1)).tdiv 2) = ((b : Int) * (2 * (n : Int) - b - 1)).tdiv 2 := wrap_small (by omega)
    have hgt : (b : Int) < (a : Int) := by omega
    rw [← e]
    clear e
    go_enter Try.func73, Try.ntmps73
    go_wp2
    go_ret
    exact ⟨rfl, rfl⟩
set_option maxHeartbeats 2000000 in
set_option maxRecDepth 100000 in
theorem ptOf_any (n : Nat) (k : Int) (l : List Int) (A : Option Addr) (c : Nat) (a b : Nat) (w : World) (hx : isX n k l = true) (ha : a < n) (hb : b < n) (hab : a ≠ b) (hA : CRead w w.heap.size A (icells l)) :
    Calls Try.prog 68 #[.agg #[.int .i64 n, .int .i64 k, .slice A l.length c], .int .i64 a, .int .i64 b] w fun e w' => e = .returned (.int .i64 (colX n l a b)) ∧ Below w.heap.size w w' := by
  have hn := (isX_parts hx).1
  have hi : atP n (min a b) (max a b) < l.length := by
    rw [isX_len hx, Int.toNat_natCast]
    exact atP_lt (by omega) (by omega) (by omega)
  obtain ⟨i, hi2⟩ : ∃ i, atP n (min a b) (max a b) = i := ⟨_, rfl⟩
  rw [hi2] at hi
  obtain ⟨x, hx2⟩ := getSome l i hi
  have e : colX n l a b = x := by unfold colX; rw [hi2, List.getD_eq_getElem?_getD, hx2]; rfl
  rw [e]
  have call := fun X : World => ptAt_any n a b (by omega) ha hb hab X
  simp only [hi2] at call
  obtain ⟨bb, off, rfl, hbb, c0⟩ := (hA.below (B' := w.heap.size) (w' := w.alloc (Obj.cells #[.int .i64 n, .int .i64 k, .slice A l.length c] 27)) (by go_grown) (Nat.le_refl _)).int hx2
  have hii : (i : Int) < (l.length : Int) := by omega
  have Call := Lib.hid call
  clear call e hx2 hi2 hx hn
  obtain ⟨X, hX⟩ : ∃ X, w.alloc (Obj.cells #[.int .i64 n, .int .i64 k, .slice (some ⟨bb, off, none⟩) l.length c] 27) = X := ⟨_, rfl⟩
  have x0 : X.cell? ⟨w.heap.size, 0, none⟩ = some (.int .i64 n) := by rw [← hX]; simp
  have x2 : X.cell? ⟨w.heap.size, 2, none⟩ = some (.slice (some ⟨bb, off, none⟩) l.length c) := by rw [← hX]; simp
  have kX : Below w.heap.size w X := by rw [← hX]; go_grown
  rw [hX] at c0
  have HX := Lib.hid hX
  have KX := Lib.hid kX
  clear hX kX
  go_enter Try.func68, Try.ntmps68
  go_wp2_with fail
  rw [HX.out]
  go_quiet (first | (go_at_call 73; refine Calls.quiet_of_same ((Call.out _).mono fun _ _ ⟨he, hw⟩ => ⟨he, hw.symm⟩)))
  go_wp2
  go_ret
  exact ⟨rfl, ⟨KX.out.os, KX.out.tape, KX.out.output, KX.out.size, KX.out.block⟩⟩
set_option maxHeartbeats 2000000 in
set_option maxRecDepth 100000 in
theorem ptOwn_any (p k : Int) (l : List Int) (A : Option Addr) (c : Nat) (w : World) (hl : l.length ≤ 1048576) (hA : CRead w w.heap.size A (icells l)) (h0 : A = none → c = 0) :
    Calls Try.prog 72 #[.agg #[.int .i64 p, .int .i64 k, .slice A l.length c]] w (GotPaint w p k l) := by
  go_enter Try.func72, Try.ntmps72
  go_wp2
  obtain ⟨W, hW⟩ : ∃ W, (w.alloc (Obj.cells #[.int .i64 p, .int .i64 k, .slice A l.length c] 27)).alloc (Obj.cells #[.int .i64 0, .int .i64 0, .slice none 0 0] 27) = W := ⟨_, rfl⟩
  have a0 : W.cell? ⟨w.heap.size, 0, none⟩ = some (.int .i64 p) := by rw [← hW]; simp
  have a1 : W.cell? ⟨w.heap.size, 1, none⟩ = some (.int .i64 k) := by rw [← hW]; simp
  have a2 : W.cell? ⟨w.heap.size, 2, none⟩ = some (.slice A l.length c) := by rw [← hW]; simp
  have x0 : W.cell? ⟨w.heap.size + 1, 0, none⟩ = some (.int .i64 0) := by rw [← hW]; simp
  have x1 : W.cell? ⟨w.heap.size + 1, 1, none⟩ = some (.int .i64 0) := by rw [← hW]; simp
  have x2 : W.cell? ⟨w.heap.size + 1, 2, none⟩ = some (.slice none 0 0) := by rw [← hW]; simp
  have z0 : W.frozen? ⟨w.heap.size + 1, 0, none⟩ = false := by rw [← hW]; simp
  have z1 : W.frozen? ⟨w.heap.size + 1, 1, none⟩ = false := by rw [← hW]; simp
  have z2 : W.frozen? ⟨w.heap.size + 1, 2, none⟩ = false := by rw [← hW]; simp
  have kW : Below w.heap.size w W := by rw [← hW]; go_grown
  have sW : w.heap.size + 1 < W.heap.size := by rw [← hW]; simp
  rw [hW]
  clear hW
  go_region_held3 (fun w' => w'.cell? ⟨w.heap.size, 0, none⟩ = some (.int .i64 p) ∧ w'.cell? ⟨w.heap.size, 1, none⟩ = some (.int .i64 k) ∧ w'.cell? ⟨w.heap.size, 2, none⟩ = some (.slice A l.length c)) (first | exact ⟨a0, a1, a2⟩ | exact ⟨b0, b1, b2⟩ | exact ⟨(World.cell?_setCell_other _ _ _ _ (by simp)).trans ((World.cell?_setCell_other _ _ _ _ (by simp)).trans ((World.cell?_setCell_other _ _ _ _ (by simp)).trans b0)), (World.cell?_setCell_other _ _ _ _ (by simp)).trans ((World.cell?_setCell_other _ _ _ _ (by simp)).trans ((World.cell?_setCell_other _ _ _ _ (by simp)).trans b1)), (World.cell?_setCell_other _ _ _ _ (by simp)).trans ((World.cell?_setCell_other _ _ _ _ (by simp)).trans ((World.cell?_setCell_other _ _ _ _ (by simp)).trans b2))⟩) ((first
    | (go_at_call 101; refine (l1Own_row l A c _ hl ((hA.below kW.drew (Nat.le_refl _)).more kW.size) h0).mono ?_; rintro e w1 ⟨A1, c1, rfl, own1, hb1⟩; have g1 : Below W.heap.size W w1 := (Below.refl _ _).drew.trans hb1; have b0 := carry g1 a0 (by omega); have b1 := carry g1 a1 (by omega); have b2 := carry g1 a2 (by omega); have y0 := carry g1 x0 (by omega); have y1 := carry g1 x1 (by omega); have y2 := carry g1 x2 (by omega); have v0 := (g1.frozen (p := ⟨w.heap.size + 1, 0, none⟩) sW).trans z0; have v1 := (g1.frozen (p := ⟨w.heap.size + 1, 1, none⟩) sW).trans z1; have v2 := (g1.frozen (p := ⟨w.heap.size + 1, 2, none⟩) sW).trans z2; have s1 := g1.size)
    | skip))
  go_wp2
  refine bodyPost_ret (v := .agg #[.int .i64 p, .int .i64 k, .slice A1 l.length c1]) (by simp [results, Try.results72, go_sem, y0, y1, y2]) rfl ?_
  exact ⟨A1, c1, rfl, own_lower (ownsRow_setCell_below (ownsRow_setCell_below (ownsRow_setCell_below own1 (a := ⟨w.heap.size + 1, 0, none⟩) sW _) (a := ⟨w.heap.size + 1, 1, none⟩) sW _) (a := ⟨w.heap.size + 1, 2, none⟩) sW _) (show w.heap.size ≤ W.heap.size by omega),
    (((kW.trans (g1.mono kW.size)).setCell (p := ⟨w.heap.size + 1, 0, none⟩) (by simp) _).setCell (p := ⟨w.heap.size + 1, 1, none⟩) (by simp) _).setCell (p := ⟨w.heap.size + 1, 2, none⟩) (by simp) _⟩
theorem colIn_any (k x : Int) (w : World) : Calls Try.prog 71 #[.int .i64 x, .int .i64 0, .int .i64 (k - 1)] w fun e w' => e = .returned (.bool (isColB k x)) ∧ Below w.heap.size w w' :=
  (l1In_any x 0 (k - 1) w).mono fun _ _ h => by
    have e : l1InB x 0 (k - 1) = isColB k x := by
      unfold l1InB isColB
      by_cases h0 : 0 ≤ x <;> by_cases h1 : x < k <;> simp [h0, h1] <;> omega
    rw [e] at h
    exact ⟨h.1, h.2 ▸ Below.refl _ _⟩
end Go.Proofs.Ytepoabbkalhifaa
