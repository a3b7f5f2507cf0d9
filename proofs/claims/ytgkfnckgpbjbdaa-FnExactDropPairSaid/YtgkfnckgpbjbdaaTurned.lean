/-
  The program's 'turned', by its contract.
-/
import Derived.Test.YtgkfnckgpbjbdaaPairsOf
import Derived.Test.YtgkfnckgpbjbdaaChange
import Derived.Deep.RegionHeld3
namespace Go.Proofs.Ytgkfnckgpbjbdaa
open Go.RowKit

def flipM (x y : Int) (m : Int × Int × Bool) : Int × Int × Bool := if m.1 = x ∧ m.2.1 = y then (m.1, m.2.1, !m.2.2) else m
def flipTo (x y : Int) (l : ML) (k : Nat) : ML := (l.take k).map (flipM x y) ++ l.drop k
theorem flipTo_start (x y : Int) (l : ML) : flipTo x y l 0 = l := by simp [flipTo]
theorem flipTo_all (x y : Int) (l : ML) : flipTo x y l l.length = l.map (flipM x y) := by simp [flipTo]
theorem flipTo_length (x y : Int) (l : ML) (k : Nat) : (flipTo x y l k).length = l.length := by simp [flipTo]; omega
theorem flipTo_at {x y : Int} {l : ML} {k : Nat} {m : Int × Int × Bool} (h : l[k]? = some m) : (flipTo x y l k)[k]? = some m := by
  have hk := (List.getElem?_eq_some_iff.1 h).1
  unfold flipTo
  rw [List.getElem?_append_right (by simp; omega)]
  simp only [List.length_map, List.length_take, List.getElem?_drop]
  rw [← h]
  congr 1
  omega
theorem flipTo_next {x y : Int} {l : ML} {k : Nat} {m : Int × Int × Bool} (h : l[k]? = some m) : flipTo x y l (k + 1) = (flipTo x y l k).set k (flipM x y m) := by
  have hk := (List.getElem?_eq_some_iff.1 h).1
  unfold flipTo
  have e : l.drop k = m :: l.drop (k + 1) := by
    rw [List.drop_eq_getElem_cons hk]
    congr 1
    exact (List.getElem?_eq_some_iff.1 h).2
  rw [List.take_add_one, h, Option.toList_some, List.map_append, e, List.set_append_right _ _ (by simp; omega)]
  have e2 : k - ((l.take k).map (flipM x y)).length = 0 := by simp; omega
  rw [e2]
  simp
theorem set_same {l : ML} {k : Nat} {m : Int × Int × Bool} (h : l[k]? = some m) : l.set k m = l := by
  have hk := (List.getElem?_eq_some_iff.1 h).1
  rw [← (List.getElem?_eq_some_iff.1 h).2]
  exact List.set_getElem_self hk
theorem mcells_set : ∀ {l : ML} {k : Nat} {x y : Int} {f : Bool} (_ : l[k]? = some (x, y, f)) (u : Bool), (mcells l).set (k * 3 + 2) (.bool u) = mcells (l.set k (x, y, u))
  | [], k, x, y, f, h, u => by simp at h
  | m :: l, 0, x, y, f, h, u => by
    simp at h
    subst h
    rfl
  | (a, b, t) :: l, k + 1, x, y, f, h, u => by
    have h' : l[k]? = some (x, y, f) := by simpa using h
    have e : (k + 1) * 3 + 2 = (k * 3 + 2) + 3 := by omega
    rw [e]
    show Value.int .i64 a :: Value.int .i64 b :: Value.bool t :: (mcells l).set (k * 3 + 2) (.bool u) = _
    rw [mcells_set h' u]
    rfl
def flipped (n : Nat) (l : PL) (x y : Int) : PL := (allP n).filter fun q => if q.1 = x ∧ q.2 = y then !l.contains q else l.contains q
theorem taken_flip (x y : Int) (l qs : PL) : taken (fun b => b) ((meets l qs).map (flipM x y)) = qs.filter fun q => if q.1 = x ∧ q.2 = y then !l.contains q else l.contains q := by
  induction qs with
  | nil => rfl
  | cons q qs ih =>
    have e : meets l (q :: qs) = (q.1, q.2, l.contains q) :: meets l qs := rfl
    unfold taken at ih ⊢
    rw [e, List.map_cons]
    by_cases h : q.1 = x ∧ q.2 = y
    · have e2 : flipM x y (q.1, q.2, l.contains q) = (q.1, q.2, !l.contains q) := by simp [flipM, h]
      rw [e2]
      cases hc : l.contains q with
      | false =>
        rw [List.filter_cons_of_pos (by rfl), List.filter_cons_of_pos (by show (if _ then _ else _) = true; rw [if_pos h, hc]; rfl), List.map_cons, ih]
      | true =>
        rw [List.filter_cons_of_neg (by simp), List.filter_cons_of_neg (by show ¬ (if _ then _ else _) = true; rw [if_pos h, hc]; decide), ih]
    · have e2 : flipM x y (q.1, q.2, l.contains q) = (q.1, q.2, l.contains q) := by simp [flipM, h]
      rw [e2]
      cases hc : l.contains q with
      | false =>
        rw [List.filter_cons_of_neg (by simp), List.filter_cons_of_neg (by show ¬ (if _ then _ else _) = true; rw [if_neg h, hc]; decide), ih]
      | true =>
        rw [List.filter_cons_of_pos (by rfl), List.filter_cons_of_pos (by show (if _ then _ else _) = true; rw [if_neg h, hc]), List.map_cons, ih]

set_option maxHeartbeats 2000000 in
set_option maxRecDepth 100000 in
theorem turned_any (p : Int) (l : PL) (A : Option Addr) (c : Nat) (x y : Int) (w : World) (hp : isP p l = true) (hA : CRead w w.heap.size A (pcells l)) :
    Calls Try.prog 84 #[.agg #[.int .i64 p, .slice A l.length c], .agg #[.int .i64 x, .int .i64 y]] w (GotParty w p (flipped p.toNat l x y)) := by
  have hn := isP_range hp
  have hml : (meets l (allP p.toNat)).length ≤ 1000 := by rw [meets_length]; have := allP_length_le (n := p.toNat) (by omega); omega
  have hfl : flipped p.toNat l x y = taken (fun b => b) ((meets l (allP p.toNat)).map (flipM x y)) := (taken_flip x y l (allP p.toNat)).symm
  rw [hfl]
  have hgot := fun W h => meetingsOf_any p l A c W hp h
  generalize meets l (allP p.toNat) = M at hml hgot
  have Hgot := Lib.hid hgot
  clear hp hfl hgot
  go_enter Try.func84, Try.ntmps84
  go_wp2_with fail
  have hs2 : ((w.alloc (Obj.cells #[.int .i64 p, .slice A l.length c] 29)).alloc (Obj.cells #[.int .i64 x, .int .i64 y] 65)).heap.size = w.heap.size + 1 + 1 := by simp
  generalize hW2 : (w.alloc (Obj.cells #[.int .i64 p, .slice A l.length c] 29)).alloc (Obj.cells #[.int .i64 x, .int .i64 y] 65) = W2 at hs2
  generalize hW : W2.alloc (Obj.cells #[.int .i64 0, .slice none 0 0] 29) = W0
  have w0 : W0.cell? ⟨w.heap.size, 0, none⟩ = some (.int .i64 p) := by rw [← hW, World.cell?_alloc_lt _ _ _ (by rw [hs2]; show w.heap.size < _; omega), ← hW2]; simp
  have w1' : W0.cell? ⟨w.heap.size, 1, none⟩ = some (.slice A l.length c) := by rw [← hW, World.cell?_alloc_lt _ _ _ (by rw [hs2]; show w.heap.size < _; omega), ← hW2]; simp
  have w2 : W0.cell? ⟨w.heap.size + 1, 0, none⟩ = some (.int .i64 x) := by rw [← hW, World.cell?_alloc_lt _ _ _ (by rw [hs2]; show w.heap.size + 1 < _; omega), ← hW2]; simp
  have w3 : W0.cell? ⟨w.heap.size + 1, 1, none⟩ = some (.int .i64 y) := by rw [← hW, World.cell?_alloc_lt _ _ _ (by rw [hs2]; show w.heap.size + 1 < _; omega), ← hW2]; simp
  have w4 : W0.cell? ⟨w.heap.size + 1 + 1, 0, none⟩ = some (.int .i64 0) := by rw [← hW, ← hs2]; simp
  have w5 : W0.cell? ⟨w.heap.size + 1 + 1, 1, none⟩ = some (.slice none 0 0) := by rw [← hW, ← hs2]; simp
  have w6 : W0.frozen? ⟨w.heap.size + 1 + 1, 0, none⟩ = false := by rw [← hW, ← hs2]; simp
  have w7 : W0.frozen? ⟨w.heap.size + 1 + 1, 1, none⟩ = false := by rw [← hW, ← hs2]; simp
  have k0 : Below w.heap.size w W0 := by rw [← hW, ← hW2]; go_grown
  have s0 : W0.heap.size = w.heap.size + 1 + 1 + 1 := by rw [← hW]; simp [hs2]
  clear hW hs2 hW2
  refine (Hgot.out _ ((hA.below k0 (Nat.le_refl _)).more k0.size)).mono ?_
  rintro e w1 ⟨A1, c1, rfl, own1, hb1⟩
  rw [s0] at hb1 own1
  have x0 := carry hb1 w0 (by omega)
  have x1 := carry hb1 w1' (by omega)
  have x2 := carry hb1 w2 (by omega)
  have x3 := carry hb1 w3 (by omega)
  have x4 := carry hb1 w4 (by omega)
  have x5 := carry hb1 w5 (by omega)
  have z0 := (hb1.frozen (p := ⟨w.heap.size + 1 + 1, 0, none⟩) (by show w.heap.size + 1 + 1 < _; omega)).trans w6
  have z1 := (hb1.frozen (p := ⟨w.heap.size + 1 + 1, 1, none⟩) (by show w.heap.size + 1 + 1 < _; omega)).trans w7
  have k1 : Below w.heap.size w w1 := k0.trans (hb1.mono (by omega))
  have s1 := hb1.size
  clear w0 w1' w2 w3 w4 w5 w6 w7
  go_wp2
  clear hb1
  go_loopw [12] (fun i wr => ∃ k : Nat, k ≤ M.length ∧ i = .int .i64 k ∧ wr.ownsRow (w.heap.size + 1 + 1 + 1) 107 3 (.slice A1 M.length c1) M.length (mcells (flipTo x y M k)) ∧ Below (w.heap.size + 1 + 1 + 1) w1 wr) (fun i _ => M.length - (intOf i).toNat)
  case atStart => exact ⟨0, Nat.zero_le _, rfl, by rw [flipTo_start]; exact own1, Below.refl _ _⟩
  case round =>
    obtain ⟨k, hk, rfl, hown, hb⟩ := hrel
    have hs := hb.size
    have y0 := carry hb x0 (by omega)
    have y1 := carry hb x1 (by omega)
    have y2 := carry hb x2 (by omega)
    have y3 := carry hb x3 (by omega)
    have y4 := carry hb x4 (by omega)
    have y5 := carry hb x5 (by omega)
    have v0 := (hb.frozen (p := ⟨w.heap.size + 1 + 1, 0, none⟩) (by show w.heap.size + 1 + 1 < _; omega)).trans z0
    have v1 := (hb.frozen (p := ⟨w.heap.size + 1 + 1, 1, none⟩) (by show w.heap.size + 1 + 1 < _; omega)).trans z1
    clear x0 x1 x2 x3 x4 x5 z0 z1
    by_cases hlt : k < M.length
    · obtain ⟨g, rfl⟩ := own_form hown (by omega)
      have hg := own_lt hown
      obtain ⟨⟨a, b, t⟩, hx⟩ := getSome M k hlt
      have hx' := flipTo_at (x := x) (y := y) hx
      obtain ⟨m0, m1, m2⟩ := mcells_at hx'
      have d0 := (hown.cellAt (k * 3) (by omega)).trans m0
      have d1 := (hown.cellAt (k * 3 + 1) (by omega)).trans m1
      have d2 := (hown.cellAt (k * 3 + 2) (by omega)).trans m2
      have d3 := hown.frozenAt (k * 3 + 2)
      have hki : (k : Int) < (M.length : Int) := by omega
      have hnext := flipTo_next (x := x) (y := y) hx
      have Hx' := Lib.hid hx'
      have Hnext := Lib.hid hnext
      have Hown := Lib.hid hown
      clear hx hx' m0 m1 m2 hnext hown
      by_cases hax : a = x
      · subst hax
        by_cases hby : b = y
        · subst hby
          have e2 : (wr.alloc (Obj.cells #[.int .i64 a, .int .i64 b, .bool t] 107)).cell? ⟨w.heap.size + 1, 0, none⟩ = some (.int .i64 a) := (World.cell?_alloc_lt _ _ _ (show w.heap.size + 1 < wr.heap.size by omega)).trans y2
          have e3 : (wr.alloc (Obj.cells #[.int .i64 a, .int .i64 b, .bool t] 107)).cell? ⟨w.heap.size + 1, 1, none⟩ = some (.int .i64 b) := (World.cell?_alloc_lt _ _ _ (show w.heap.size + 1 < wr.heap.size by omega)).trans y3
          have e4 : (wr.alloc (Obj.cells #[.int .i64 a, .int .i64 b, .bool t] 107)).cell? ⟨g, k * 3 + 2, none⟩ = some (.bool t) := (World.cell?_alloc_lt _ _ _ (show g < wr.heap.size by omega)).trans d2
          have e5 : (wr.alloc (Obj.cells #[.int .i64 a, .int .i64 b, .bool t] 107)).frozen? ⟨g, k * 3 + 2, none⟩ = false := by rw [Below.frozen (Below.alloc (Below.refl wr.heap.size wr) (Nat.le_refl _) _) (show g < wr.heap.size by omega)]; exact d3
          go_wp2
          go_roundw
          case rel =>
            refine ⟨k + 1, by omega, by go_num, ?_, (hb.setCell (p := ⟨g, k * 3 + 2, none⟩) hg.1 _).alloc (by simp; omega) _⟩
            rw [Hnext.out, show flipM a b (a, b, t) = (a, b, !t) by simp [flipM], ← mcells_set Hx'.out]
            exact ((Hown.out.stored _ _).1).alloc _
          case measure => simp [intOf]; omega
        · skip
          have e2 : (wr.alloc (Obj.cells #[.int .i64 a, .int .i64 b, .bool t] 107)).cell? ⟨w.heap.size + 1, 0, none⟩ = some (.int .i64 a) := (World.cell?_alloc_lt _ _ _ (show w.heap.size + 1 < wr.heap.size by omega)).trans y2
          have e3 : (wr.alloc (Obj.cells #[.int .i64 a, .int .i64 b, .bool t] 107)).cell? ⟨w.heap.size + 1, 1, none⟩ = some (.int .i64 y) := (World.cell?_alloc_lt _ _ _ (show w.heap.size + 1 < wr.heap.size by omega)).trans y3
          have e4 : (wr.alloc (Obj.cells #[.int .i64 a, .int .i64 b, .bool t] 107)).cell? ⟨g, k * 3 + 2, none⟩ = some (.bool t) := (World.cell?_alloc_lt _ _ _ (show g < wr.heap.size by omega)).trans d2
          have e5 : (wr.alloc (Obj.cells #[.int .i64 a, .int .i64 b, .bool t] 107)).frozen? ⟨g, k * 3 + 2, none⟩ = false := by rw [Below.frozen (Below.alloc (Below.refl wr.heap.size wr) (Nat.le_refl _) _) (show g < wr.heap.size by omega)]; exact d3
          go_wp2
          go_roundw
          case rel =>
            refine ⟨k + 1, by omega, by go_num, ?_, hb.alloc (by omega) _⟩
            rw [Hnext.out, show flipM a y (a, b, t) = (a, b, t) by simp [flipM, hby], set_same Hx'.out]
            exact Hown.out.alloc _
          case measure => simp [intOf]; omega
      · skip
        have e2 : (wr.alloc (Obj.cells #[.int .i64 a, .int .i64 b, .bool t] 107)).cell? ⟨w.heap.size + 1, 0, none⟩ = some (.int .i64 x) := (World.cell?_alloc_lt _ _ _ (show w.heap.size + 1 < wr.heap.size by omega)).trans y2
        have e3 : (wr.alloc (Obj.cells #[.int .i64 a, .int .i64 b, .bool t] 107)).cell? ⟨w.heap.size + 1, 1, none⟩ = some (.int .i64 y) := (World.cell?_alloc_lt _ _ _ (show w.heap.size + 1 < wr.heap.size by omega)).trans y3
        have e4 : (wr.alloc (Obj.cells #[.int .i64 a, .int .i64 b, .bool t] 107)).cell? ⟨g, k * 3 + 2, none⟩ = some (.bool t) := (World.cell?_alloc_lt _ _ _ (show g < wr.heap.size by omega)).trans d2
        have e5 : (wr.alloc (Obj.cells #[.int .i64 a, .int .i64 b, .bool t] 107)).frozen? ⟨g, k * 3 + 2, none⟩ = false := by rw [Below.frozen (Below.alloc (Below.refl wr.heap.size wr) (Nat.le_refl _) _) (show g < wr.heap.size by omega)]; exact d3
        go_wp2
        go_roundw
        case rel =>
          refine ⟨k + 1, by omega, by go_num, ?_, hb.alloc (by omega) _⟩
          rw [Hnext.out, show flipM x y (a, b, t) = (a, b, t) by simp [flipM, hax], set_same Hx'.out]
          exact Hown.out.alloc _
        case measure => simp [intOf]; omega
    · have hkl : k = M.length := by omega
      subst hkl
      have hge : ¬ ((M.length : Int) < M.length) := by omega
      rw [flipTo_all] at hown
      have hcall := fun W h => pairsOf_ofFriends_any (M.map (flipM x y)) A1 c1 W (by rw [List.length_map]; exact hml) h
      simp only [List.length_map] at hcall
      have Hcall := Lib.hid hcall
      have Hown := Lib.hid hown
      have kr : Below w.heap.size w wr := k1.trans (hb.mono (by omega))
      clear hcall hown
      go_wp2
      go_region_held3 (fun w' => w'.cell? ⟨w.heap.size, 0, none⟩ = some (.int .i64 p) ∧ w'.cell? ⟨w.heap.size, 1, none⟩ = some (.slice A l.length c)) (first | exact ⟨y0, y1⟩ | exact ⟨b0, b1⟩ | exact ⟨(World.cell?_setCell_other _ _ _ _ (by simp)).trans ((World.cell?_setCell_other _ _ _ _ (by simp)).trans b0), (World.cell?_setCell_other _ _ _ _ (by simp)).trans ((World.cell?_setCell_other _ _ _ _ (by simp)).trans b1)⟩) ((first
        | (go_at_call 114; refine (Hcall.out _ (CRead.of_own (Hown.out.kept (below_grownBy ((Below.refl _ wr).drew) (Nat.le_refl _) none) (by cases (Value.slice A1 M.length c1).ownBlock <;> simp)))).mono ?_; rintro e w2 ⟨A2, c2, rfl, own2, hb2'⟩; have hb2 : Below wr.heap.size wr w2 := (Below.refl _ _).drew.trans hb2'; have b0 := carry hb2 y0 (by omega); have b1 := carry hb2 y1 (by omega); have b4 := carry hb2 y4 (by omega); have b5 := carry hb2 y5 (by omega); have u0 := (hb2.frozen (p := ⟨w.heap.size + 1 + 1, 0, none⟩) (by show w.heap.size + 1 + 1 < _; omega)).trans v0; have u1 := (hb2.frozen (p := ⟨w.heap.size + 1 + 1, 1, none⟩) (by show w.heap.size + 1 + 1 < _; omega)).trans v1; have s2 := hb2.size)
        | skip))
      have own3 : w2.ownsRow wr.heap.size 65 2 (.slice A2 (taken (fun b => b) (M.map (flipM x y))).length c2) (taken (fun b => b) (M.map (flipM x y))).length (pcells (taken (fun b => b) (M.map (flipM x y)))) := own2
      have Own3 := Lib.hid own3
      clear own2 own3
      go_wp2
      refine bodyPost_ret (v := .agg #[.int .i64 p, .slice A2 (taken (fun b => b) (M.map (flipM x y))).length c2]) (by simp [results, Try.results84, go_sem, b4, b5]) rfl ?_
      exact ⟨A2, c2, rfl, own_lower (ownsRow_setCell_below (ownsRow_setCell_below Own3.out (a := ⟨w.heap.size + 1 + 1, 0, none⟩) (by show w.heap.size + 1 + 1 < _; omega) _) (a := ⟨w.heap.size + 1 + 1, 1, none⟩) (by show w.heap.size + 1 + 1 < _; omega) _) (by omega),
        ((kr.trans (hb2.mono kr.size)).setCell (p := ⟨w.heap.size + 1 + 1, 0, none⟩) (by show w.heap.size ≤ w.heap.size + 1 + 1; omega) _).setCell (p := ⟨w.heap.size + 1 + 1, 1, none⟩) (by show w.heap.size ≤ w.heap.size + 1 + 1; omega) _⟩
end Go.Proofs.Ytgkfnckgpbjbdaa
