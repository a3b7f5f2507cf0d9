/-
  'numbersOfTied' by its contract; 'sumOf' of greater numbers. Written by wip/tools/gen_numst.py.
-/
import Derived.Test.YtgccapdjhnejcaaDoorGrLook
import Derived.Test.YtgccapdjhnejcaaDoorCountT
import Derived.Test.YtgccapdjhnejcaaDoorTies
import Derived.Test.YtgccapdjhnejcaaDoorNumsW
namespace Go.Proofs.YtgccapdjhnejcaaDoor
open Go.RowKit

theorem listsC_over (t : Nat → Nat → Bool) (cs : List Nat) {k : Nat} (h : cs.length < k) : listsC t k [] cs = [] := by
  rw [← subsC_size t k [] cs, List.filter_eq_nil_iff]
  intro l hl
  rcases List.mem_cons.1 hl with rfl | hl
  · simp; omega
  · have := subsC_short t [] cs l hl
    simp at this ⊢
    omega
theorem listsC_less (t : Nat → Nat → Bool) : ∀ (k : Nat) (told : List Int) (cs : List Nat), listsC t k told cs = [] → listsC t (k + 1) told cs = [] := by
  intro k told cs
  induction h : k + cs.length using Nat.strongRecOn generalizing k told cs with
  | _ n ih =>
    intro he
    match k, cs with
    | 0, cs => rw [listsC_zero] at he; simp at he
    | k + 1, [] => rw [listsC_nil]
    | k + 1, a :: cs =>
      simp only [List.length_cons] at h
      have h0 : (cs.filter (t a)).length ≤ cs.length := List.length_filter_le _ _
      rw [listsC_cons, List.append_eq_nil_iff] at he
      rw [listsC_cons, ih (k + (cs.filter (t a)).length) (by omega) k _ _ rfl he.1, ih (k + 1 + cs.length) (by omega) (k + 1) _ _ rfl he.2]
      rfl
/-- how many lists there are of 0, 1, .. people -/
def numsK (t : Nat → Nat → Bool) (cs : List Nat) (K : Nat) : List Int := (List.range K).map fun k => ((listsC t k [] cs).length : Int)
theorem numsK_length (t : Nat → Nat → Bool) (cs : List Nat) (K : Nat) : (numsK t cs K).length = K := by simp [numsK]
theorem numsK_succ (t : Nat → Nat → Bool) (cs : List Nat) (K : Nat) : numsK t cs (K + 1) = numsK t cs K ++ [((listsC t K [] cs).length : Int)] := by simp [numsK, List.range_succ]
/-- the least size of which there are none -/
def topK (t : Nat → Nat → Bool) (cs : List Nat) : Nat := (List.range (cs.length + 2)).findIdx fun k => (listsC t k [] cs).isEmpty
theorem topK_lt (t : Nat → Nat → Bool) (cs : List Nat) : topK t cs < (List.range (cs.length + 2)).length :=
  List.findIdx_lt_length_of_exists ⟨cs.length + 1, by simp, by rw [listsC_over t cs (by omega)]; rfl⟩
theorem topK_le (t : Nat → Nat → Bool) (cs : List Nat) : topK t cs ≤ cs.length + 1 := by have := topK_lt t cs; simp at this; omega
theorem topK_none (t : Nat → Nat → Bool) (cs : List Nat) : listsC t (topK t cs) [] cs = [] := by
  have h : (listsC t ((List.range (cs.length + 2))[topK t cs]'(topK_lt t cs)) [] cs).isEmpty = true := List.findIdx_getElem (w := topK_lt t cs)
  rw [List.getElem_range] at h
  simpa using h
theorem topK_some {t : Nat → Nat → Bool} {cs : List Nat} {k : Nat} (h : k < topK t cs) : (listsC t k [] cs).isEmpty = false := by
  have h2 := List.not_of_lt_findIdx h
  simpa using h2
theorem topK_over {t : Nat → Nat → Bool} {cs : List Nat} : ∀ {k : Nat}, topK t cs ≤ k → listsC t k [] cs = [] := by
  intro k
  induction k with
  | zero => intro h; have := topK_none t cs; rwa [show topK t cs = 0 from by omega] at this
  | succ k ih =>
    intro h
    by_cases hk : topK t cs ≤ k
    · exact listsC_less t k [] cs (ih hk)
    · have := topK_none t cs
      rwa [show topK t cs = k + 1 from by omega] at this
def sliceLen : Value → Nat | .slice _ n _ => n | _ => 0

set_option maxHeartbeats 2000000 in
set_option maxRecDepth 100000 in
theorem numbersOfTied_any {T : Nat → Nat} {t : Nat → Nat → Bool} (hT : TiesOf T t) {among : Nat} {cs : List Nat} (hset : IsSet among cs) (hcs : ∀ b ∈ cs, b < 12) (w : World) (htab : TabW w) :
    Calls Tryd.prog 68 #[.agg (tcells T), .int .u16 among] w fun e w' => ∃ A c, e = .returned (.slice A (topK t cs) c) ∧ w'.ownsRow w.heap.size 3 1 (.slice A (topK t cs) c) (topK t cs) (icells (numsK t cs (topK t cs))) ∧ Below w.heap.size w w' := by
  obtain ⟨i0, hi, hz0, hz1, hz2⟩ := info_parts Tryd.infoInt
  have hlen : cs.length ≤ 12 := set_len hset hcs
  obtain ⟨K, hK⟩ : ∃ K, topK t cs = K := ⟨_, rfl⟩
  have hKle := topK_le t cs
  have hsome : ∀ k, k < K → (listsC t k [] cs).isEmpty = false := fun k hk => topK_some (by omega)
  have hnone : (listsC t K [] cs).isEmpty = true := by rw [← hK, topK_none]; rfl
  have h1 := fun (s : Nat) (hs : s ≤ 100) (X : World) (hX : TabW X) => hasTied_any hT hset hcs (size := (s : Int)) (by omega) X hX
  have h2 := fun (s : Nat) (hs : s ≤ 100) (X : World) (hX : TabW X) => countTied_any hT hset hcs (size := (s : Int)) (by omega) X hX
  simp only [Int.toNat_natCast] at h1 h2
  rw [hK] at hKle ⊢
  obtain ⟨W, hW⟩ : ∃ W, w.alloc (Obj.cells (tcells T) 69) = W := ⟨_, rfl⟩
  have kW : Below w.heap.size w W := by rw [← hW]; go_grown
  have zW : W.heap.size = w.heap.size + 1 := by rw [← hW]; simp
  have row0 : W.rowIs w.heap.size 69 12 (fun j => .int .u16 (T j)) := by rw [← hW]; exact rowIs_u16 w T _
  have c0 : W.cell? ⟨w.heap.size, 0, none⟩ = some (.int .u16 (T 0)) := row0.cell (i := 0) (by omega)
  have c1 : W.cell? ⟨w.heap.size, 1, none⟩ = some (.int .u16 (T 1)) := row0.cell (i := 1) (by omega)
  have c2 : W.cell? ⟨w.heap.size, 2, none⟩ = some (.int .u16 (T 2)) := row0.cell (i := 2) (by omega)
  have c3 : W.cell? ⟨w.heap.size, 3, none⟩ = some (.int .u16 (T 3)) := row0.cell (i := 3) (by omega)
  have c4 : W.cell? ⟨w.heap.size, 4, none⟩ = some (.int .u16 (T 4)) := row0.cell (i := 4) (by omega)
  have c5 : W.cell? ⟨w.heap.size, 5, none⟩ = some (.int .u16 (T 5)) := row0.cell (i := 5) (by omega)
  have c6 : W.cell? ⟨w.heap.size, 6, none⟩ = some (.int .u16 (T 6)) := row0.cell (i := 6) (by omega)
  have c7 : W.cell? ⟨w.heap.size, 7, none⟩ = some (.int .u16 (T 7)) := row0.cell (i := 7) (by omega)
  have c8 : W.cell? ⟨w.heap.size, 8, none⟩ = some (.int .u16 (T 8)) := row0.cell (i := 8) (by omega)
  have c9 : W.cell? ⟨w.heap.size, 9, none⟩ = some (.int .u16 (T 9)) := row0.cell (i := 9) (by omega)
  have c10 : W.cell? ⟨w.heap.size, 10, none⟩ = some (.int .u16 (T 10)) := row0.cell (i := 10) (by omega)
  have c11 : W.cell? ⟨w.heap.size, 11, none⟩ = some (.int .u16 (T 11)) := row0.cell (i := 11) (by omega)
  have HTab := Lib.hid htab
  have hpos := htab.pos
  unfold tcells at h1 h2 hW ⊢
  have H1 := Lib.hid h1
  have H2 := Lib.hid h2
  have HW := Lib.hid hW
  have KW := Lib.hid kW
  have Hnone := Lib.hid hnone
  have Hsome := Lib.hid hsome
  clear h1 h2 hW kW hK row0 hset hcs hT htab hsome hnone
  go_enter Tryd.func68, Tryd.ntmps68
  go_wp2_with fail
  rw [HW.out]
  go_loopw [5] (fun v wr => ∃ (k : Nat) (A : Option Addr) (c : Nat), k ≤ K ∧ v = .slice A k c ∧ wr.ownsRow W.heap.size 3 1 v k (icells (numsK t cs k)) ∧ Below W.heap.size W wr) (fun v _ => K - sliceLen v)
  case atStart => exact ⟨0, none, 0, Nat.zero_le _, rfl, World.ownsRow_nil _ _ _ _, Below.refl _ _⟩
  case round =>
    obtain ⟨k, A, c, hk, rfl, own, hb⟩ := hrel
    have s0 := hb.size
    have kr := KW.out.trans (hb.mono KW.out.size)
    have r0 := carry hb c0 (by omega)
    have r1 := carry hb c1 (by omega)
    have r2 := carry hb c2 (by omega)
    have r3 := carry hb c3 (by omega)
    have r4 := carry hb c4 (by omega)
    have r5 := carry hb c5 (by omega)
    have r6 := carry hb c6 (by omega)
    have r7 := carry hb c7 (by omega)
    have r8 := carry hb c8 (by omega)
    have r9 := carry hb c9 (by omega)
    have r10 := carry hb c10 (by omega)
    have r11 := carry hb c11 (by omega)
    have Own := Lib.hid own
    have Hb := Lib.hid hb
    have Kr := Lib.hid kr
    clear own hb kr c0 c1 c2 c3 c4 c5 c6 c7 c8 c9 c10 c11
    by_cases hlt : k < K
    · have he := Hsome.out k hlt
      have Hlt := Lib.hid hlt
      clear hlt
      go_wp2_with fail
      refine (H1.out k (by omega) _ (HTab.out.below Kr.out hpos)).mono ?_
      rw [he]
      rintro e w1 ⟨rfl, hb1⟩
      have s1 := hb1.size
      have u0 := carry hb1 r0 (by omega)
      have u1 := carry hb1 r1 (by omega)
      have u2 := carry hb1 r2 (by omega)
      have u3 := carry hb1 r3 (by omega)
      have u4 := carry hb1 r4 (by omega)
      have u5 := carry hb1 r5 (by omega)
      have u6 := carry hb1 r6 (by omega)
      have u7 := carry hb1 r7 (by omega)
      have u8 := carry hb1 r8 (by omega)
      have u9 := carry hb1 r9 (by omega)
      have u10 := carry hb1 r10 (by omega)
      have u11 := carry hb1 r11 (by omega)
      have Hb1 := Lib.hid hb1
      clear hb1 he r0 r1 r2 r3 r4 r5 r6 r7 r8 r9 r10 r11
      go_wp2_with fail
      refine (H2.out k (by omega) _ (HTab.out.below (Kr.out.trans (Hb1.out.mono Kr.out.size)) hpos)).mono ?_
      rintro e w2 ⟨rfl, hb2⟩
      have s2 := hb2.size
      have own2 := own_below (own_below Own.out Hb1.out (Nat.le_refl _)) hb2 (Nat.le_refl _)
      have hb2' : Below W.heap.size W w2 := (Hb.out.trans (Hb1.out.mono s0)).trans (hb2.mono (by omega))
      go_wp2_with (at_builtin; refine wpList_append_own _ rfl _ _ 25 rfl W.heap.size 3 i0 _ 1 8 Tryd.underlying25 hi hz0 hz1 hz2 rfl (by decide) _ _ _ rfl (own2.alloc _) ⟨w2.heap.size, 0, none⟩ 1 1 [.int .i64 ((listsC t k [] cs).length : Int)] rfl rfl (one_cell (by simp)) (one_one rfl) (by unfold maxLen; omega) (by omega) (by simp; omega) ?_; intro v3 w3 own3 gr3 _; obtain ⟨A3, c3, rfl, _⟩ := own_shape own3)
      have hb3 : Below W.heap.size W w3 := (hb2'.alloc (by omega) _).grown gr3 (by simp; omega) (fun j hj => (own2.lt j hj).1)
      go_roundw
      case rel => exact ⟨k + 1, A3, c3, by have := Hlt.out; omega, by go_num, by rw [numsK_succ, icells_append]; exact own3, hb3⟩
      case measure => have := Hlt.out; simp [sliceLen]; omega
    · have hkK : k = K := by omega
      subst hkK
      have he := Hnone.out
      go_wp2_with fail
      refine (H1.out k (by omega) _ (HTab.out.below Kr.out hpos)).mono ?_
      rw [he]
      rintro e w1 ⟨rfl, hb1⟩
      have own1 := own_below Own.out hb1 (Nat.le_refl _)
      have k1 := Kr.out.trans (hb1.mono Kr.out.size)
      clear hb1 he Own
      go_wp2
      go_ret
      exact ⟨A, c, rfl, own_lower own1 (by omega), k1⟩
def smallI (q : List Int) : Prop := q.length ≤ 100 ∧ ∀ x ∈ q, 0 ≤ x ∧ x ≤ 100000
set_option maxHeartbeats 1000000 in
theorem sumOf_small (q : List Int) (A : Option Addr) (c : Nat) (w : World) (hq : smallI q) (hA : CRead w w.heap.size A (icells q)) :
    Calls Tryd.prog 71 #[.slice A q.length c] w fun e w' => e = .returned (.int .i64 (sumI q)) ∧ w = w' := by
  have hl := hq.1
  have Hq := Lib.hid hq.2
  clear hq
  go_enter Tryd.func71, Tryd.ntmps71
  go_wp2
  go_loop [3, 8] (fun v i => ∃ (k : Nat) (s : Int), k ≤ q.length ∧ i = .int .i64 k ∧ v = .int .i64 s ∧ s = sumI (q.take k) ∧ 0 ≤ s ∧ s ≤ 100000 * k) (fun _ i => q.length - (intOf i).toNat)
  case atStart => exact ⟨0, 0, Nat.zero_le _, rfl, rfl, rfl, by omega, by omega⟩
  case round =>
    obtain ⟨k, s, hk, rfl, rfl, hs, hs0, hs1⟩ := hrel
    have Hs := Lib.hid hs
    clear hs
    by_cases hlt : k < q.length
    · obtain ⟨x, hx⟩ := getSome q k hlt
      obtain ⟨b, off, rfl, hbb, c0⟩ := hA.int hx
      have hx0 := Hq.out x (List.mem_of_getElem? hx)
      have hki : (k : Int) < (q.length : Int) := by omega
      have Hx := Lib.hid hx
      clear hx
      go_wp2
      go_round
      case rel =>
        refine ⟨k + 1, s + x, by omega, by go_num, by go_num, ?_, by omega, by omega⟩
        rw [List.take_add_one, Hx.out, Option.toList_some, sumI_snoc, ← Hs.out]
      case measure => simp [intOf]; omega
    · have hkl : k = q.length := by omega
      subst hkl
      have hge : ¬ ((q.length : Int) < (q.length : Int)) := by omega
      go_wp2
      go_ret
      exact ⟨by rw [Hs.out, List.take_length]; rfl, rfl⟩
end Go.Proofs.YtgccapdjhnejcaaDoor
