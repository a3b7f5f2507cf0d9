/-
  PAIRS SORTED BY THE PROGRAM: the comparison as the sort wants it said.
-/
import Derived.Test.YtaemodpolopcfaaSortI
import Derived.Test.YtaemodpolopcfaaNameP
namespace Go.Proofs.Ytaemodpolopcfaa
open Go.RowKit Go.Shelf Go.Lib Go.Sort

theorem grow_three (w : World) (o1 o2 o3 : Obj) : (((w.alloc o1).alloc o2).alloc o3).drew = grow (w.drewN 1) #[o1, o2, o3] := by
  first
    | rfl
    | (unfold grow World.drewN World.drew World.alloc; rfl)
    | (unfold grow World.drewN World.drew World.alloc; simp only [World.mk.injEq, true_and, and_true]; first | rfl | simp)

set_option maxHeartbeats 1000000 in
set_option maxRecDepth 100000 in
theorem comparePairs_grow (a b c d : Int) (w : World) :
    Calls Try.prog 65 #[.agg #[.int .i64 a, .int .i64 b], .agg #[.int .i64 c, .int .i64 d]] w fun e w' => e = .returned (.int .i64 (cmpP a b c d)) ∧ ∃ q os, w' = grow (w.drewN q) os := by
  go_enter Try.func65, Try.ntmps65
  go_wp2
  generalize hW : (w.alloc (Obj.cells #[.int .i64 a, .int .i64 b] 72)).alloc (Obj.cells #[.int .i64 c, .int .i64 d] 72) = W
  have c0 : W.cell? ⟨w.heap.size, 0, none⟩ = some (.int .i64 a) := by rw [← hW]; simp
  have c1 : W.cell? ⟨w.heap.size, 1, none⟩ = some (.int .i64 b) := by rw [← hW]; simp
  have c2 : W.cell? ⟨w.heap.size + 1, 0, none⟩ = some (.int .i64 c) := by rw [← hW]; simp
  have c3 : W.cell? ⟨w.heap.size + 1, 1, none⟩ = some (.int .i64 d) := by rw [← hW]; simp
  have HW := Lib.hid hW
  clear hW
  refine wp_region_still_tail 10 (by kernel_rfl) (by kernel_rfl) ?_
  simp only [List.take_succ_cons, List.take_zero, List.drop_succ_cons, List.drop_zero]
  still_step
  still_step
  still_step
  still_step
  still_call ((compare_any a c _).mono fun _ _ h => ⟨h.1, h.2.symm⟩)
  still_step
  still_step
  still_step
  still_step
  still_call ((compare_any b d _).mono fun _ _ h => ⟨h.1, h.2.symm⟩)
  refine wpStill_nil ?_
  change wpList _ _ _ _ _ (World.drew _)
  go_wp2_with (go_at_call 96; refine (or_any (cmpI a c) (cmpI b d) _ _ (by simp) (by simp)).mono ?_; rintro e w2 ⟨rfl, rfl⟩)
  · have h : cmpI a c = 0 := by assumption
    go_ret
    exact ⟨by simp [cmpP, h], by rw [← HW.out]; exact ⟨_, _, grow_three _ _ _ _⟩⟩
  · have h : ¬ cmpI a c = 0 := by assumption
    go_ret
    exact ⟨by simp [cmpP, h], by rw [← HW.out]; exact ⟨_, _, grow_three _ _ _ _⟩⟩

theorem holdsV {w : World} {base : Nat} {e : TypeId} {s g n cap : Nat} {xs : List Value} (h : w.ownsRow base e s (.slice (some ⟨g, 0, none⟩) n cap) n xs) : Holds id w g 0 xs.toArray ∧ base ≤ g ∧ g < w.heap.size := by
  have hl := h.1
  have hlt := own_lt h
  rcases h.2 with ⟨e0, _⟩ | ⟨g', cap', cur, e0, hb, hg, hn, hm, hs, ht⟩
  · cases e0
  · injection e0 with e1 _ e3
    injection e1 with e1
    injection e1 with e1
    subst e1; subst e3
    refine ⟨fun j hj => ?_, hlt⟩
    have hj' : j < xs.length := by simpa using hj
    refine ⟨?_, by simp [World.frozen?, hg]⟩
    have e1 : (cur.toList.take (n * s))[j]? = xs[j]? := by rw [ht]
    rw [List.getElem?_take, if_pos (by omega), Array.getElem?_toList, List.getElem?_eq_getElem hj'] at e1
    simp only [World.cell?, hg, Nat.zero_add]
    simp only [Option.isSome_none, Bool.false_eq_true, if_false]
    rw [e1]
    simp [hj']
theorem ownV_putRow {w : World} {base : Nat} {e : TypeId} {s g n cap q : Nat} {xs ys : List Value} (h : w.ownsRow base e s (.slice (some ⟨g, 0, none⟩) n cap) n xs) (hy : ys.length = n * s) :
    (putRow id (Sort.ahead w q) g 0 ys.toArray).ownsRow base e s (.slice (some ⟨g, 0, none⟩) n cap) n ys := by
  rcases h.2 with ⟨e0, _⟩ | ⟨g', cap', cur, e0, hb, hg, hn, hm, hs, ht⟩
  · cases e0
  · injection e0 with e1 _ e3
    injection e1 with e1
    injection e1 with e1
    subst e1; subst e3
    have hle : n * s ≤ cap * s := Nat.mul_le_mul_right s hn
    refine ⟨hy, .inr ⟨g, cap, putCells id 0 ys.toArray cur, rfl, hb, ?_, hn, hm, by simpa [putCells] using hs, ?_⟩⟩
    · simp [putRow, mapBlock, Sort.ahead, Array.getElem?_modify, hg, onCells]
    · apply List.ext_getElem?
      intro j
      rw [List.getElem?_take, Array.getElem?_toList]
      by_cases hj : j < n * s
      · have hjc : j < cur.size := by omega
        simp only [if_pos hj, putCells, Array.getElem?_mapIdx, Array.getElem?_eq_getElem hjc, Option.map_some]
        rw [if_pos (by simp; omega), List.getElem?_eq_getElem (by omega)]
        simp [show j < ys.length by omega]
      · rw [if_neg hj, List.getElem?_eq_none (by omega)]
def encP (r : Int × Int) : List Value := [.int .i64 r.1, .int .i64 r.2]
theorem flat_pcells (q : PL) : flatK encP 2 q.toArray = (pcells q).toArray := by
  apply Array.ext
  · simp [pcells_length]
  · intro i h1 h2
    have hi : i < q.length * 2 := by simpa using h1
    have hq : i / 2 < q.length := by omega
    have e := List.getElem?_eq_getElem hq
    have hg : (flatK encP 2 q.toArray)[i] = (flatK encP 2 q.toArray)[i]! := by rw [getElem!_pos _ i h1]
    rw [hg, get_flatK _ _ _ _ (by simpa using hi)]
    have hd : q.toArray[i / 2]! = q[i / 2] := by rw [getElem!_pos _ _ (by simpa using hq)]; simp
    rw [hd]
    rcases Nat.mod_two_eq_zero_or_one i with h | h
    · have h3 := pcells_fst (k := i / 2) (x := q[i / 2].1) (y := q[i / 2].2) e
      rw [show i / 2 * 2 = i by omega, List.getElem?_eq_getElem (by rw [pcells_length]; omega)] at h3
      simp only [Option.some.injEq] at h3
      simp [h, encP, h3]
    · have h3 := pcells_snd (k := i / 2) (x := q[i / 2].1) (y := q[i / 2].2) e
      rw [show i / 2 * 2 + 1 = i by omega, List.getElem?_eq_getElem (by rw [pcells_length]; omega)] at h3
      simp only [Option.some.injEq] at h3
      simp [h, encP, h3]
def cmpPP (x y : Int × Int) : Int := cmpP x.1 x.2 y.1 y.2
theorem ltPP (x y : Int × Int) : ltOf cmpPP x y = pairLess x y := by
  unfold ltOf cmpPP pairLess
  rw [Bool.eq_iff_iff]
  simp only [decide_eq_true_eq, cmpP_less]
theorem swoPP : SWO (ltOf cmpPP) where
  irrefl x := by rw [ltPP, Bool.eq_false_iff, ne_eq, pairLess_plt]; unfold plt; omega
  trans x y z h1 h2 := by rw [ltPP, pairLess_plt] at *; unfold plt at *; omega
  ntrans x y z h1 h2 := by rw [ltPP, Bool.eq_false_iff, ne_eq, pairLess_plt] at *; unfold plt at *; omega
theorem totPP (x y : Int × Int) (h1 : ltOf cmpPP x y = false) (h2 : ltOf cmpPP y x = false) : x = y := by
  rw [ltPP, Bool.eq_false_iff, ne_eq, pairLess_plt] at *
  unfold plt at *
  exact Prod.ext (by omega) (by omega)

theorem gb_sorted {w : World} {g n : Nat} {os : Array Obj} (d : Array Value) : w.grownBy (grow (putRow id (Sort.ahead w n) g 0 d) os) (some g) := by
  refine ⟨rfl, rfl, rfl, by simp [grow, putRow, mapBlock, Sort.ahead], fun k hk hne => ?_⟩
  have hkg : g ≠ k := fun e => hne (by rw [e])
  simp only [grow, putRow, mapBlock, Sort.ahead]
  rw [Array.getElem?_append_left (by simpa using hk), Array.getElem?_modify, if_neg hkg]
set_option maxRecDepth 100000 in
/-- slices.SortFunc over a row of pairs of the call's own. -/
theorem sortP_any (q : PL) (A : Option Addr) (c : Nat) (base : Nat) (w : World) (hl : q.length ≤ 1048576) (hown : w.ownsRow base 72 2 (.slice A q.length c) q.length (pcells q)) :
    Calls Try.prog 64 #[.slice A q.length c, .func (.func 65) #[] #[]] w fun e w' => e = .returned (.tuple #[]) ∧
      w'.ownsRow base 72 2 (.slice A q.length c) q.length (pcells (sortP q)) ∧ (∀ B, B ≤ base → B ≤ w.heap.size → Below B w w') ∧ w.heap.size ≤ w'.heap.size ∧ w.grownBy w' (Value.ownBlock (.slice A q.length c)) := by
  by_cases h0 : q.length = 0
  · have hq : q = [] := List.eq_nil_of_length_eq_zero h0
    subst hq
    have h := AnyF.slices_SortFunc_none (P := Try.prog) (ρ := Try.sortP_ren) { Try.sortP with } A c (.func (.func 65) #[] #[]) w
    change Calls Try.prog 64 _ _ _ at h
    refine h.mono ?_
    rintro e w' ⟨rfl, rfl⟩
    exact ⟨rfl, by rw [show sortP [] = [] from by simp [sortP]]; exact hown, fun B _ _ => Below.refl _ _, Nat.le_refl _, World.grownBy.refl _ _⟩
  · obtain ⟨g, rfl⟩ := own_form hown (by omega)
    obtain ⟨hH, hbg, hgl⟩ := holdsV hown
    rw [← flat_pcells] at hH
    have eg : ∀ args w, (callFunc 65 args).run Try.prog w = .ok (.enter 65 args) w := enters_of Try.func65 (by kernel_rfl) rfl
    have hr : CmpLays Try.prog 65 #[] encP 2 cmpPP g 0 q.toArray.size w := fun _ _ _ _ x y => comparePairs_grow x.1 x.2 y.1 y.2 _
    have h := AnyQ.slices_SortFunc_total Try.sortP 2 (fun _ => by rfl) (fun _ => by rfl) encP (fun _ => rfl) (fun x v hv => by simp [encP] at hv; rcases hv with rfl | rfl <;> rfl) cmpPP swoPP 65 #[] g 0 c q.toArray w eg hr hH hgl (by simp; omega) totPP
    change Calls Try.prog 64 _ _ _ at h
    rw [show q.toArray.size = q.length from by simp] at h
    refine h.mono ?_
    rintro e w' ⟨rfl, n, os, rfl⟩
    have hs1 : (q.toArray.toList.mergeSort fun x y => !(ltOf cmpPP) y x) = sortP q := by
      unfold sortP
      congr 1
      funext x y
      rw [ltPP]
    rw [hs1]
    have hf : (sortP q).length = q.length := sortP_length q
    have ho := ownV_putRow (q := n) hown (ys := pcells (sortP q)) (by rw [pcells_length, hf])
    rw [← flat_pcells] at ho
    have hb : ∀ B, B ≤ g → Below B w (putRow id (Sort.ahead w n) g 0 (flatK encP 2 (sortP q).toArray)) := fun B hB => below_putRow (Below.refl B w) hB
    have hs : (putRow id (Sort.ahead w n) g 0 (flatK encP 2 (sortP q).toArray)).heap.size = w.heap.size := by simp [putRow, mapBlock, Sort.ahead]
    refine ⟨rfl, own_grow ho os, fun B hB hB2 => below_grow (hb B (by omega)) (by rw [hs]; exact hB2) os, ?_, gb_sorted _⟩
    show w.heap.size ≤ (grow (putRow id (Sort.ahead w n) g 0 (flatK encP 2 (sortP q).toArray)) os).heap.size
    simp only [grow, Array.size_append, hs]
    omega
end Go.Proofs.Ytaemodpolopcfaa
