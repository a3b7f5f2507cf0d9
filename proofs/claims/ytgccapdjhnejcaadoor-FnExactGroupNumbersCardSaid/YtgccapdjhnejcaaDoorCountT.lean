/-
  HOW MANY LISTS OF TIED PEOPLE THERE ARE ('countTied'), and whether there is one ('hasTied'), by their contracts.
-/
import Derived.Test.YtgccapdjhnejcaaDoorTied
namespace Go.Proofs.YtgccapdjhnejcaaDoor
open Go.RowKit Go.Shelf
attribute [local go_sem] Oper.semAt_some

theorem listsC_length_le (t : Nat → Nat → Bool) : ∀ (k : Nat) (told : List Int) (cs : List Nat), (listsC t k told cs).length ≤ 2 ^ cs.length := by
  intro k told cs
  induction h : k + cs.length using Nat.strongRecOn generalizing k told cs with
  | _ n ih =>
    match k, cs with
    | 0, cs => rw [listsC_zero]; exact Nat.one_le_two_pow
    | k + 1, [] => rw [listsC_nil]; simp
    | k + 1, a :: cs =>
      rw [listsC_cons, List.length_append]
      simp only [List.length_cons] at h
      have h0 : (cs.filter (t a)).length ≤ cs.length := List.length_filter_le _ _
      have h1 := ih (k + (cs.filter (t a)).length) (by omega) k (told ++ [(a : Int)]) (cs.filter (t a)) rfl
      have h2 := ih (k + 1 + cs.length) (by omega) (k + 1) told cs rfl
      have h3 : 2 ^ (cs.filter (t a)).length ≤ 2 ^ cs.length := Nat.pow_le_pow_right (by omega) h0
      rw [List.length_cons, Nat.pow_succ]
      omega
theorem set_len {j : Nat} {cs : List Nat} (hs : IsSet j cs) (hcs : ∀ b ∈ cs, b < 12) : cs.length ≤ 12 := by
  have h := List.Nodup.length_le_of_subset (l₁ := cs) (l₂ := List.range 12) (hs.up.imp fun h => Nat.ne_of_lt h) (fun b hb => List.mem_range.2 (hcs b hb))
  simpa using h
theorem lists_few {t : Nat → Nat → Bool} {k : Nat} {told : List Int} {j : Nat} {cs : List Nat} (hs : IsSet j cs) (hcs : ∀ b ∈ cs, b < 12) : (listsC t k told cs).length ≤ 4096 := by
  have h1 := listsC_length_le t k told cs
  have h2 : 2 ^ cs.length ≤ 2 ^ 12 := Nat.pow_le_pow_right (by omega) (set_len hs hcs)
  omega
theorem wrap_next (n : Nat) : wrap64 (wrap64 (n : Int) + 1) = wrap64 ((n + 1 : Nat) : Int) := by unfold wrap64; omega

theorem below_putObj {B l : Nat} {A W : World} (h : Below B A W) (hB : B ≤ W.heap.size) (hl : B ≤ l) (o : Obj) : Below B A (W.putObj l o) := h.grown (grownBy_putObj' W l o) hB (fun k e => by cases e; exact hl)

theorem cell_putObj {W : World} {l b o : Nat} (ob : Obj) (hne : b ≠ l) : (W.putObj l ob).cell? ⟨b, o, none⟩ = W.cell? ⟨b, o, none⟩ := World.cell?_of_block (w := W) (w' := W.putObj l ob) (a := ⟨b, o, none⟩) (World.putObj_heap_other hne)

set_option maxHeartbeats 2000000 in
set_option maxRecDepth 100000 in
theorem countTied_any {T : Nat → Nat} {t : Nat → Nat → Bool} (hT : TiesOf T t) {among : Nat} {cs : List Nat} (hset : IsSet among cs) (hcs : ∀ b ∈ cs, b < 12) {size : Int} (h100 : size ≤ 100) (w : World) (htab : TabW w) :
    Calls Tryd.prog 73 #[.agg (tcells T), .int .u16 among, .int .i64 size] w fun e w' => e = .returned (.int .i64 ((listsC t size.toNat [] cs).length : Int)) ∧ Below w.heap.size w w' := by
  have hfew := lists_few (t := t) (k := size.toNat) (told := []) hset hcs
  refine (callsIn_wide (n := 5)).1 ?_
  refine callsIn_of_wp_marks Tryd.func73 rfl trivial ?_
  simp only [Tryd.ntmps73, List.size_toArray, List.length_cons, List.length_nil, Nat.reduceAdd, Nat.reduceSub, Array.replicate_succ, Array.replicate_zero, List.push_toArray, List.append_toArray, List.nil_append, List.cons_append]
  refine wpIn_wide.2 ?_
  have hTab := Lib.hid htab
  have HT := Lib.hid hT
  have hgot := fun (X : World) (hX : TabW X) => allTied_got hT hset hcs h100 X hX
  unfold tcells at hgot ⊢
  have Got := Lib.hid hgot
  clear htab hT hgot
  go_wp2_with fail
  generalize hW : (w.alloc (Obj.cells #[Value.int IntKind.u16 (T 0), Value.int IntKind.u16 (T 1), Value.int IntKind.u16 (T 2), Value.int IntKind.u16 (T 3), Value.int IntKind.u16 (T 4), Value.int IntKind.u16 (T 5), Value.int IntKind.u16 (T 6), Value.int IntKind.u16 (T 7), Value.int IntKind.u16 (T 8), Value.int IntKind.u16 (T 9), Value.int IntKind.u16 (T 10), Value.int IntKind.u16 (T 11)] 69)).alloc (Obj.cells #[.int .i64 0] 3) = W
  have kW : Below w.heap.size w W := by rw [← hW]; go_grown
  have zW : W.heap.size = w.heap.size + 2 := by rw [← hW]; simp
  have cW : W.cell? ⟨w.heap.size + 1, 0, none⟩ = some (.int .i64 0) := by rw [← hW]; simp
  have fW : W.frozen? ⟨w.heap.size + 1, 0, none⟩ = false := by rw [← hW]; simp
  clear hW
  have pos := hTab.out.pos
  refine (Got.out W (hTab.out.below kW pos)).mono ?_
  rintro e w1 ⟨lb, rfl, hb1, hseq⟩
  have s1 := hb1.size
  have c1 := carry hb1 cW (by omega)
  have f1 := (hb1.frozen (p := ⟨w.heap.size + 1, 0, none⟩) (by simp; omega)).trans fW
  have k1 := kW.trans (hb1.mono kW.size)
  have Seq1 := Lib.hid hseq
  clear hseq cW fW
  go_wp2_with fail
  refine wp_rangeFunc_one rfl (enters_of Tryd.func100 (by kernel_rfl) rfl) Seq1.out (fun j hj => by omega) (fun T x args A C h hs => h.stays hs) (fun T x args W h => h.one)
    (fun S pre X => (∀ j, S j → w1.heap.size ≤ j) ∧ w1.heap.size ≤ X.heap.size ∧ Below w.heap.size w X ∧ X.cell? ⟨w.heap.size + 1, 0, none⟩ = some (.int .i64 (wrap64 (pre.length : Int))) ∧ X.frozen? ⟨w.heap.size + 1, 0, none⟩ = false)
    (fun _ _ _ => False) ?held (fun _ _ _ _ h _ => h.elim) ⟨fun _ h => h.elim, Nat.le_refl _, k1, by simpa [wrap64] using c1, f1⟩ ?body ?done (fun _ _ _ _ _ h _ => h.elim)
  case held =>
    rintro T T' pre A C ⟨a1, a2, a3, a4, a5⟩ hap hT'
    have hn : ¬ T (w.heap.size + 1) := fun h => by have := a1 _ h; omega
    refine ⟨fun j hj => (hT' j hj).elim (a1 j) (by omega), Nat.le_trans a2 hap.below.size, a3.trans (hap.below_of (by omega) fun j hj => by have := a1 j hj; omega), hap.cell (p := ⟨w.heap.size + 1, 0, none⟩) a4 hn, (hap.frozen (p := ⟨w.heap.size + 1, 0, none⟩) a4 hn).trans a5⟩
  case body =>
    rintro l T S pre x v X ⟨a1, a2, a3, a4, a5⟩ _ _
    gi_wp2
    have hn : ¬ (S (w.heap.size + 1) ∨ (w.heap.size + 1 = 0 ∨ W.heap.size ≤ w.heap.size + 1 ∧ w.heap.size + 1 < w1.heap.size)) := fun h => by
      rcases h with h | h
      · have := a1 _ h; omega
      · omega
    refine ⟨Stays.setCell (p := ⟨w.heap.size + 1, 0, none⟩) hn X _, a1, by simpa using a2, a3.setCell (p := ⟨w.heap.size + 1, 0, none⟩) (by simp) _, ?_, ?_⟩
    · rw [World.cell?_setCell_same' _ _ _ (by rw [a4]; rfl), wrap_next, List.length_append]
      rfl
    · rw [World.frozen?_setCell]; exact a5
  case done =>
    rintro S X ⟨a1, a2, a3, a4, a5⟩ hD
    go_wp2
    refine ⟨by simp, .inl ⟨_, _, rfl, run_takeDeferred hD, ?_⟩⟩
    refine ⟨_, results_tmp rfl _ _ _, ?_, below_putObj a3 (by omega) (by omega) _⟩
    rw [show wrap64 ((listsC t size.toNat [] cs).length : Int) = ((listsC t size.toNat [] cs).length : Int) from by unfold wrap64; omega]
    rfl

set_option maxHeartbeats 2000000 in
set_option maxRecDepth 100000 in
theorem hasTied_any {T : Nat → Nat} {t : Nat → Nat → Bool} (hT : TiesOf T t) {among : Nat} {cs : List Nat} (hset : IsSet among cs) (hcs : ∀ b ∈ cs, b < 12) {size : Int} (h100 : size ≤ 100) (w : World) (htab : TabW w) :
    Calls Tryd.prog 66 #[.agg (tcells T), .int .u16 among, .int .i64 size] w fun e w' => e = .returned (.bool (!(listsC t size.toNat [] cs).isEmpty)) ∧ Below w.heap.size w w' := by
  refine (callsIn_wide (n := 5)).1 ?_
  refine callsIn_of_wp_marks Tryd.func66 rfl trivial ?_
  simp only [Tryd.ntmps66, List.size_toArray, List.length_cons, List.length_nil, Nat.reduceAdd, Nat.reduceSub, Array.replicate_succ, Array.replicate_zero, List.push_toArray, List.append_toArray, List.nil_append, List.cons_append]
  refine wpIn_wide.2 ?_
  have hTab := Lib.hid htab
  have HT := Lib.hid hT
  have hgot := fun (X : World) (hX : TabW X) => allTied_got hT hset hcs h100 X hX
  unfold tcells at hgot ⊢
  have Got := Lib.hid hgot
  clear htab hT hgot
  go_wp2_with fail
  generalize hW : (w.alloc (Obj.cells #[Value.int IntKind.u16 (T 0), Value.int IntKind.u16 (T 1), Value.int IntKind.u16 (T 2), Value.int IntKind.u16 (T 3), Value.int IntKind.u16 (T 4), Value.int IntKind.u16 (T 5), Value.int IntKind.u16 (T 6), Value.int IntKind.u16 (T 7), Value.int IntKind.u16 (T 8), Value.int IntKind.u16 (T 9), Value.int IntKind.u16 (T 10), Value.int IntKind.u16 (T 11)] 69)).alloc (Obj.cells #[.bool false] 4) = W
  have kW : Below w.heap.size w W := by rw [← hW]; go_grown
  have zW : W.heap.size = w.heap.size + 2 := by rw [← hW]; simp
  have cW : W.cell? ⟨w.heap.size + 1, 0, none⟩ = some (.bool false) := by rw [← hW]; simp
  have fW : W.frozen? ⟨w.heap.size + 1, 0, none⟩ = false := by rw [← hW]; simp
  clear hW
  have pos := hTab.out.pos
  refine (Got.out W (hTab.out.below kW pos)).mono ?_
  rintro e w1 ⟨lb, rfl, hb1, hseq⟩
  have s1 := hb1.size
  have c1 := carry hb1 cW (by omega)
  have f1 := (hb1.frozen (p := ⟨w.heap.size + 1, 0, none⟩) (by simp; omega)).trans fW
  have k1 := kW.trans (hb1.mono kW.size)
  have Seq1 := Lib.hid hseq
  clear hseq cW fW
  go_wp2_with fail
  refine wp_rangeFunc_one rfl (enters_of Tryd.func100 (by kernel_rfl) rfl) Seq1.out (fun j hj => by omega) (fun T x args A C h hs => h.stays hs) (fun T x args W h => h.one)
    (fun S pre X => (∀ j, S j → w1.heap.size ≤ j) ∧ w1.heap.size ≤ X.heap.size ∧ Below w.heap.size w X ∧ X.cell? ⟨w.heap.size + 1, 0, none⟩ = some (.bool false) ∧ X.frozen? ⟨w.heap.size + 1, 0, none⟩ = false ∧ pre = [])
    (fun c _ X => c = .ret ∧ w1.heap.size ≤ X.heap.size ∧ Below w.heap.size w X ∧ X.cell? ⟨w.heap.size + 1, 0, none⟩ = some (.bool true)) ?held ?heldx ⟨fun _ h => h.elim, Nat.le_refl _, k1, c1, f1, rfl⟩ ?body ?done ?stop
  case held =>
    rintro T T' pre A C ⟨a1, a2, a3, a4, a5, a6⟩ hap hT'
    have hn : ¬ T (w.heap.size + 1) := fun h => by have := a1 _ h; omega
    exact ⟨fun j hj => (hT' j hj).elim (a1 j) (by omega), Nat.le_trans a2 hap.below.size, a3.trans (hap.below_of (by omega) fun j hj => by have := a1 j hj; omega), hap.cell (p := ⟨w.heap.size + 1, 0, none⟩) a4 hn, (hap.frozen (p := ⟨w.heap.size + 1, 0, none⟩) a4 hn).trans a5, a6⟩
  case heldx =>
    rintro c pre A C ⟨a0, a2, a3, a4⟩ hap
    exact ⟨a0, Nat.le_trans a2 hap.below.size, a3.trans (hap.below_of (by omega) fun j hj => by omega), hap.cell (p := ⟨w.heap.size + 1, 0, none⟩) a4 (by simp; omega)⟩
  case body =>
    rintro l T S pre x v X ⟨a1, a2, a3, a4, a5, a6⟩ _ _
    gi_wp2
    refine ⟨Stays.setCell (p := ⟨w.heap.size + 1, 0, none⟩) (by simp; omega) X _, rfl, by simpa using a2, a3.setCell (p := ⟨w.heap.size + 1, 0, none⟩) (by simp) _, ?_⟩
    exact World.cell?_setCell_same' _ _ _ (by rw [a4]; rfl)
  case done =>
    rintro S X ⟨a1, a2, a3, a4, a5, a6⟩ hD
    have hne : listsC t size.toNat [] cs = [] := a6
    have hD2 : (X.setCell ⟨w.heap.size + 1, 0, none⟩ (.bool false)).heap[w1.heap.size]? = some (.deferred (some [])) := (Below.heap_setCell X _ _ _ (by simp; omega)).trans hD
    have c9 : ((X.setCell ⟨w.heap.size + 1, 0, none⟩ (.bool false)).putObj w1.heap.size (.deferred none)).cell? ⟨w.heap.size + 1, 0, none⟩ = some (.bool false) := (cell_putObj _ (by omega)).trans (World.cell?_setCell_same' _ _ _ (by rw [a4]; rfl))
    have k9 := below_putObj (a3.setCell (p := ⟨w.heap.size + 1, 0, none⟩) (by simp) (.bool false)) (by simp; omega) (show w.heap.size ≤ w1.heap.size by omega) (.deferred none)
    go_wp2
    refine ⟨by simp, .inl ⟨_, _, rfl, run_takeDeferred hD2, ?_⟩⟩
    refine ⟨.bool false, by simp [results, Tryd.results66, go_sem, c9], ?_, k9⟩
    rw [hne]
    rfl
  case stop =>
    rintro c pre x X hpre ⟨rfl, a2, a3, a4⟩ hD
    have hne : (listsC t size.toNat [] cs).isEmpty = false := by
      obtain ⟨q, hq⟩ := hpre
      rw [← hq]
      cases pre <;> rfl
    have c9 : (X.putObj w1.heap.size (.deferred none)).cell? ⟨w.heap.size + 1, 0, none⟩ = some (.bool true) := (cell_putObj _ (by omega)).trans a4
    have k9 := below_putObj a3 (by omega) (show w.heap.size ≤ w1.heap.size by omega) (.deferred none)
    go_wp2
    refine ⟨by simp, .inl ⟨_, _, rfl, run_takeDeferred hD, ?_⟩⟩
    refine ⟨.bool true, by simp [results, Tryd.results66, go_sem, c9], ?_, k9⟩
    rw [hne]
    rfl
end Go.Proofs.YtgccapdjhnejcaaDoor
