/-
  Texts put together for the claims of 'DoesFit' (pack 6): GrAtP, GroupsAt, Clone, Put, PutP, CoupP, PartP, DistP, Fof, DistS, Lists, RowsG, RowsH, Mats.
-/
import Derived.Test.YtefkcfkicmfhlaaDoorDoesFitP1
import Derived.Test.YtefkcfkicmfhlaaDoorDoesFitP2
import Derived.Test.YtefkcfkicmfhlaaDoorDoesFitP3
import Derived.Test.YtefkcfkicmfhlaaDoorDoesFitP4
import Derived.Test.YtefkcfkicmfhlaaDoorDoesFitP5
import Derived.Deep.RegionHeld3
import Derived.Lib.SliceRun
import Derived.Deep.LoopGhost
import Derived.Deep.Slices
import Derived.WideShapes
import Derived.Laws.AppendOwnNone
import Derived.Lib.SlicesCompact
import Derived.Maps.AppendAt
import Derived.Deep.RegionLaw
/-
  HOW MANY GROUPS HAVE A PERSON, AND HOW MANY THERE ARE. Nothing here speaks of the program.
-/
namespace Go.Proofs.YtefkcfkicmfhlaaDoor
open Go.RowKit

theorem subsC_len (t : Nat → Nat → Bool) : ∀ (told : List Int) (cs : List Nat), (subsC t told cs).length = (subsC t [] cs).length := by
  intro told cs
  induction h : cs.length using Nat.strongRecOn generalizing told cs with
  | _ n ih =>
    match cs with
    | [] => rw [subsC_nil, subsC_nil]
    | a :: cs =>
      simp only [List.length_cons] at h
      have h0 : (cs.filter (t a)).length ≤ cs.length := List.length_filter_le _ _
      rw [subsC_cons, subsC_cons, List.length_cons, List.length_cons, List.length_append, List.length_append, ih _ (by omega) (told ++ [(a : Int)]) _ rfl, ih _ (by omega) told cs rfl, ih _ (by omega) ([] ++ [(a : Int)]) _ rfl]
theorem subsC_mem (t : Nat → Nat → Bool) : ∀ (told : List Int) (cs : List Nat), ∀ l ∈ subsC t told cs, ∀ x ∈ l, x ∈ told ∨ ∃ b ∈ cs, x = ((b : Nat) : Int) := by
  intro told cs l hl x hx
  have h1 := subsC_longer t told cs l hl
  have h2 : l ∈ listsC t (l.length - told.length) told cs := by
    rw [← subsC_size]
    exact List.mem_filter.2 ⟨List.mem_cons_of_mem _ hl, by simp; omega⟩
  exact listsC_mem t _ told cs l h2 x hx
theorem subsC_told (t : Nat → Nat → Bool) (told : List Int) (cs : List Nat) : ∀ l ∈ subsC t told cs, ∀ x ∈ told, x ∈ l := by
  intro l hl x hx
  have h1 := subsC_longer t told cs l hl
  have h2 : l ∈ listsC t (l.length - told.length) told cs := by
    rw [← subsC_size]
    exact List.mem_filter.2 ⟨List.mem_cons_of_mem _ hl, by simp; omega⟩
  rw [listsC_told] at h2
  obtain ⟨m, _, e⟩ := List.mem_map.1 h2
  rw [← e]
  exact List.mem_append_left _ hx
theorem hasN_cons (x : List Int) (L : List (List Int)) (a : Nat) : hasN (x :: L) a = hasN L a + (if hasI x a then 1 else 0) := by simp [hasN, List.countP_cons]
theorem hasN_subs_none {t : Nat → Nat → Bool} {told : List Int} {cs : List Nat} {a : Nat} (h0 : (a : Int) ∉ told) (h : a ∉ cs) : hasN (subsC t told cs) a = 0 := by
  refine List.countP_eq_zero.2 fun l hl hc => ?_
  rcases subsC_mem t told cs l hl _ (hasI_mem.1 hc) with h1 | ⟨b, hb, h1⟩
  · exact h0 h1
  · have : a = b := by omega
    exact h (this ▸ hb)
theorem hasN_subs_all {t : Nat → Nat → Bool} {told : List Int} {cs : List Nat} {a : Nat} (h0 : (a : Int) ∈ told) : hasN (subsC t told cs) a = (subsC t told cs).length :=
  List.countP_eq_length.2 fun l hl => hasI_mem.2 (subsC_told t told cs l hl _ h0)
theorem hasN_subs {t : Nat → Nat → Bool} (hsym : ∀ i j, t i j = t j i) {a : Nat} (hirr : t a a = false) : ∀ (told : List Int) (cs : List Nat),
    cs.Pairwise (· < ·) → a ∈ cs → (a : Int) ∉ told → hasN (subsC t told cs) a = (subsC t [] (cs.filter (t a))).length + 1 := by
  intro told cs
  induction h : cs.length using Nat.strongRecOn generalizing told cs with
  | _ n ih =>
    intro hs ha h0
    match cs with
    | [] => simp at ha
    | x :: cs =>
      simp only [List.length_cons] at h
      obtain ⟨hx, hs'⟩ := List.pairwise_cons.1 hs
      have hl0 : (cs.filter (t x)).length ≤ cs.length := List.length_filter_le _ _
      rw [subsC_cons, hasN_cons, hasN_append]
      by_cases e : x = a
      · subst e
        have hn : x ∉ cs := fun hc => by have := hx x hc; omega
        rw [hasN_subs_all (by simp), hasN_subs_none h0 hn, subsC_len, List.filter_cons_of_neg (by simp [hirr]), if_pos (hasI_mem.2 (by simp))]
      · have ha' : a ∈ cs := by rcases List.mem_cons.1 ha with h | h; exact absurd h.symm e; exact h
        have h1 : (a : Int) ∉ told ++ [(x : Int)] := by simp [h0]; omega
        rw [ih cs.length (by omega) told cs rfl hs' ha' h0, if_neg (fun hc => h1 (hasI_mem.1 hc))]
        cases hxa : t x a with
        | true =>
          have hax : t a x = true := by rw [hsym, hxa]
          rw [ih (cs.filter (t x)).length (by omega) _ _ rfl (hs'.filter _) (List.mem_filter.2 ⟨ha', hxa⟩) h1, List.filter_cons_of_pos hax, subsC_cons, List.length_cons, List.length_append, subsC_len t ([] ++ [(x : Int)])]
          rw [show (cs.filter (t x)).filter (t a) = (cs.filter (t a)).filter (t x) from by rw [List.filter_filter, List.filter_filter]; exact List.filter_congr fun b _ => Bool.and_comm _ _]
          omega
        | false =>
          have hax : ¬ t a x = true := by rw [hsym, hxa]; simp
          rw [hasN_subs_none h1 (fun hc => by have := (List.mem_filter.1 hc).2; simp [hxa] at this), List.filter_cons_of_neg hax]
          omega
theorem count_sizes (L : List (List Int)) : ∀ (K : Nat), sumI ((List.range K).map fun k => ((L.filter (fun l => l.length == k)).length : Int)) = ((L.countP fun l => decide (l.length < K) : Nat) : Int) := by
  intro K
  induction K with
  | zero => simp [sumI]
  | succ K ih =>
    rw [List.range_succ, List.map_append, List.map_singleton, sumI_snoc, ih]
    have : L.countP (fun l => decide (l.length < K + 1)) = L.countP (fun l => decide (l.length < K)) + (L.filter (fun l => l.length == K)).length := by
      clear ih
      induction L with
      | nil => simp
      | cons x L ihL =>
        rw [List.countP_cons, List.countP_cons, ihL, List.filter_cons]
        by_cases h1 : x.length < K
        · have h3 : ¬ x.length = K := by omega
          have h4 : x.length < K + 1 := by omega
          simp only [h1, h3, h4, beq_iff_eq, decide_true, if_true, if_false]
          omega
        · by_cases h2 : x.length = K
          · simp [h2]; omega
          · have : ¬ x.length < K + 1 := by omega
            simp [h1, h2, this]
    rw [this]
    omega
theorem sum_numsK (t : Nat → Nat → Bool) (cs : List Nat) : sumI (numsK t cs (topK t cs)) = ((subsC t [] cs).length : Int) + 1 := by
  have h1 := count_sizes ([] :: subsC t [] cs) (topK t cs)
  have h2 : ∀ k, ([] :: subsC t [] cs).filter (fun l => l.length == k) = listsC t k [] cs := fun k => by
    have := subsC_size t k [] cs
    simpa using this
  have h3 : ([] :: subsC t [] cs).countP (fun l => decide (l.length < topK t cs)) = ([] :: subsC t [] cs).length := List.countP_eq_length.2 fun l hl => by
    refine decide_eq_true (Nat.lt_of_not_le fun hle => ?_)
    have := (subsC_has (t := t) (cs := cs) (k := l.length)).2 ⟨l, hl, rfl⟩
    rw [topK_over hle] at this
    simp at this
  simp only [h2] at h1
  rw [numsK, h1, h3]
  simp
theorem numsK_small {t : Nat → Nat → Bool} {j : Nat} {cs : List Nat} (hset : IsSet j cs) (hcs : ∀ b ∈ cs, b < 12) : smallI (numsK t cs (topK t cs)) := by
  have h1 := set_len hset hcs
  have h2 := topK_le t cs
  refine ⟨by rw [numsK_length]; omega, fun x hx => ?_⟩
  obtain ⟨k, _, rfl⟩ := List.mem_map.1 hx
  have := lists_few (t := t) (k := k) (told := []) hset hcs
  omega
end Go.Proofs.YtefkcfkicmfhlaaDoor
/-
  'GroupsAt': the model's and the program's, by their contracts.
-/
namespace Go.Proofs.YtefkcfkicmfhlaaDoor
open Go.RowKit

def groupsAtN (n : Nat) (l : PL) (a : Nat) : Nat := hasN ([] :: subsC (adj l) [] (List.range n)) a
theorem groupsAt_eq {n : Nat} {l : PL} (h : isP n l = true) {a : Nat} (ha : a < n) : sumI (numsK (adj l) ((List.range n).filter (adj l a)) (topK (adj l) ((List.range n).filter (adj l a)))) = (groupsAtN n l a : Int) := by
  unfold groupsAtN
  rw [sum_numsK, hasN_cons, hasN_subs (adj_comm l) (adj_self h a) [] _ List.pairwise_lt_range (List.mem_range.2 ha) (by simp), if_neg (by simp [hasI])]
  simp
def resGroupsAt (p : Int) (l : PL) (a : Int) : Int × Bool := if isP p l && isMan p a then (groupsAtN p.toNat l a.toNat, true) else (0, false)

end Go.Proofs.YtefkcfkicmfhlaaDoor
/-
  slices.Clone of pairs and of numbers, by its contracts, at every address.
-/
namespace Go.Proofs.YtefkcfkicmfhlaaDoor
open Go.RowKit

theorem read_add_P {w : World} {B : Nat} {a : Addr} {l : PL} (h : CRead w B (some a) (pcells l)) : ∀ j u, (pcells l)[j]? = some u → w.cell? (a.add j) = some u := by
  intro j u hj
  obtain ⟨b, off, e, _, hc⟩ := h j u hj
  simp only [Option.some.injEq] at e
  subst e
  rw [Go.WideShapes.add_plain]
  exact hc
set_option maxHeartbeats 1000000 in
set_option maxRecDepth 100000 in
theorem cloneP_any (l : PL) (A : Option Addr) (c : Nat) (w : World) (hl : l.length ≤ 1048576) (hA : CRead w w.heap.size A (pcells l)) :
    Calls Tryd.prog 153 #[.slice A l.length c] w fun e w' => ∃ A' c', e = .returned (.slice A' l.length c') ∧ w'.ownsRow w.heap.size 98 2 (.slice A' l.length c') l.length (pcells l) ∧ Below w.heap.size w w' := by
  obtain ⟨i0, hi, hz0, hz1, hz2⟩ := info_parts Tryd.infoPair
  have q22 : ∀ (w : World) (a : Option Addr) (n c n' c' : Nat), (binOp .eql 32 (.slice a n c) (.slice none n' c')).run Tryd.prog w = .ok (.bool a.isNone) w := fun w a n c n' c' => Lib.run_eql_slice_nil w _ _ a n c n' c' Tryd.underlying32
  have u22 : ∀ w, Sem.run Tryd.prog (underlying 32) w = .ok (TypeDesc.slice 98) w := run_underlying Tryd.underlying32
  cases A with
  | none =>
    have hq : l = [] := by
      cases l with
      | nil => rfl
      | cons x l =>
        obtain ⟨b, off, e, _⟩ := hA 0 _ (by simp [pcells]; rfl)
        cases e
    subst hq
    go_enter Tryd.func153, Tryd.ntmps153
    go_wp2
    go_ret
    exact ⟨none, 0, rfl, World.ownsRow_nil _ _ _ _, Below.refl _ _⟩
  | some a =>
    have hc := read_add_P hA
    have H : Aside (∀ j u, (pcells l)[j]? = some u → w.cell? (a.add j) = some u) := hc
    clear hc hA
    go_enter Tryd.func153, Tryd.ntmps153
    go_wp2_with (at_builtin; refine wpList_append_own _ rfl _ _ 32 rfl w.heap.size 98 i0 (.agg #[.int .i64 0, .int .i64 0]) 2 16 Tryd.underlying32 hi hz0 hz1 hz2 rfl (by decide) _ _ _ rfl (World.ownsRow_made w #[] 0 (Nat.le_refl _) (Nat.zero_le _) rfl) a l.length c (pcells l) rfl ?qc1 ?qc2 ?qc3 ?qc4 ?qc5 ?qc6 ?_)
    case qc1 => exact pcells_length l
    case qc2 =>
      intro j u hj
      exact Lib.cell?_alloc_some _ (H.out j u hj)
    case qc3 => exact pcells_one l
    case qc4 => unfold maxLen; omega
    case qc5 => omega
    case qc6 => simp
    intro v' w1 hown hgrow _

    obtain ⟨A1, c1, rfl, _⟩ := own_shape hown
    go_wp2
    go_ret
    exact ⟨A1, c1, rfl, hown, ((Below.refl _ w).alloc (Nat.le_refl _) _).grown hgrow (by simp) (by intro k hk; simp [Value.ownBlock] at hk; omega)⟩

theorem read_add_I {w : World} {B : Nat} {a : Addr} {l : List Int} (h : CRead w B (some a) (icells l)) : ∀ j u, (icells l)[j]? = some u → w.cell? (a.add j) = some u := by
  intro j u hj
  obtain ⟨b, off, e, _, hc⟩ := h j u hj
  simp only [Option.some.injEq] at e
  subst e
  rw [Go.WideShapes.add_plain]
  exact hc
end Go.Proofs.YtefkcfkicmfhlaaDoor
/-
  'spec.l1Put': a number put into a rising list that lacks it, by its contract.
-/
namespace Go.Proofs.YtefkcfkicmfhlaaDoor
open Go.RowKit

def putAt (l : List Int) (x : Int) : Nat := (l.takeWhile fun y => decide (y < x)).length
def putI (l : List Int) (x : Int) : List Int := l.take (putAt l x) ++ [x] ++ l.drop (putAt l x)
theorem putAt_le (l : List Int) (x : Int) : putAt l x ≤ l.length := by
  unfold putAt
  induction l with
  | nil => simp
  | cons y l ih =>
    rw [List.takeWhile_cons]
    split
    · simp only [List.length_cons]; omega
    · simp
theorem putAt_lt {l : List Int} {x y : Int} {k : Nat} (h : k < putAt l x) (hy : l[k]? = some y) : y < x := by
  unfold putAt at h
  induction l generalizing k with
  | nil => simp at h
  | cons z l ih =>
    rw [List.takeWhile_cons] at h
    split at h
    · rename_i hz
      cases k with
      | zero =>
        have e : z = y := by simpa using hy
        rw [← e]; exact of_decide_eq_true hz
      | succ k => exact ih (by simpa using h) (by simpa using hy)
    · simp at h
theorem putAt_stop {l : List Int} {x y : Int} (hy : l[putAt l x]? = some y) : ¬ y < x := by
  unfold putAt at hy
  induction l with
  | nil => simp at hy
  | cons z l ih =>
    rw [List.takeWhile_cons] at hy
    split at hy
    · exact ih (by simpa using hy)
    · rename_i hz
      have e : z = y := by simpa using hy
      rw [← e]
      intro h
      exact hz (decide_eq_true h)
theorem icells_take (l : List Int) (k : Nat) : icells (l.take k) = (icells l).take k := by simp [icells]
theorem icells_drop (l : List Int) (k : Nat) : icells (l.drop k) = (icells l).drop k := by simp [icells]

set_option maxHeartbeats 2000000 in
set_option maxRecDepth 100000 in
theorem l1Put_any (l : List Int) (x : Int) (g c : Nat) (w : World) (hl : l.length ≤ 12) (hd : l.length ≤ c) (hx : x ∉ l) (hA : CRead w w.heap.size (some ⟨g, 0, none⟩) (icells l)) (hgw : g < w.heap.size) :
    Calls Tryd.prog 128 #[.slice (some ⟨g, 0, none⟩) l.length c, .int .i64 x] w fun e w' => ∃ A' c', e = .returned (.slice A' (l.length + 1) c') ∧ w'.ownsRow w.heap.size 3 1 (.slice A' (l.length + 1) c') (l.length + 1) (icells (putI l x)) ∧ Below w.heap.size w w' := by
  obtain ⟨i0, hi, hz0, hz1, hz2⟩ := info_parts Tryd.infoInt
  have hpl := putAt_le l x
  have H : Aside (∀ j u, (icells l)[j]? = some u → w.cell? ((⟨g, 0, none⟩ : Addr).add j) = some u) := read_add_I hA
  have hat : ∀ k y, l[k]? = some y → w.cell? ⟨g, k, none⟩ = some (.int .i64 y) := fun k y h => by
    have := H.out k _ (icells_at h)
    rw [Addr.add_lit, Nat.zero_add] at this
    exact this
  have Hat := Lib.hid hat
  clear hA hat
  go_enter Tryd.func128, Tryd.ntmps128
  go_wp2_with fail
  go_loopw [5] (fun i wr => ∃ k : Nat, k ≤ putAt l x ∧ i = .int .i64 k ∧ w = wr) (fun i _ => putAt l x - (intOf i).toNat)
  case atStart => exact ⟨0, Nat.zero_le _, rfl, rfl⟩
  case round =>
    obtain ⟨k, hk, rfl, rfl⟩ := hrel
    by_cases hlt : k < putAt l x
    · obtain ⟨y, hy⟩ := getSome l k (by omega)
      have hyx := putAt_lt hlt hy
      have d0 := Hat.out k y hy
      have hki : (k : Int) < (l.length : Int) := by omega
      have Hy := Lib.hid hy
      clear hy
      go_wp2
      go_roundw
      case rel => exact ⟨k + 1, by omega, by go_num, trivial⟩
      case measure => simp [intOf]; omega
    · have hkl : k = putAt l x := by omega
      have HT := Lib.hid (show ∀ j u, (icells (l.take k))[j]? = some u → w.cell? ((⟨g, 0, none⟩ : Addr).add j) = some u from fun j u hj => H.out j u (by
        rw [icells_take, List.getElem?_take] at hj
        split at hj
        · exact hj
        · cases hj))
      have HD := Lib.hid (show ∀ j u, (icells (l.drop k))[j]? = some u → w.cell? ((⟨g, k, none⟩ : Addr).add j) = some u from fun j u hj => by
        rw [icells_drop, List.getElem?_drop] at hj
        have := H.out _ u hj
        rw [Addr.add_lit] at this ⊢
        rwa [Nat.zero_add] at this)
      by_cases hln : k < l.length
      · obtain ⟨y, hy⟩ := getSome l k hln
        have hyx := putAt_stop (hkl ▸ hy)
        have d0 := Hat.out k y hy
        have hki : (k : Int) < (l.length : Int) := by omega
        have hne : (y == x) = false := by
          rw [beq_eq_false_iff_ne]
          rintro rfl
          exact hx (List.mem_of_getElem? hy)
        have Hkl := Lib.hid hkl
        clear hy hkl
        have hkc : ¬ (c - k = 0) := by omega
        have hn : k + 1 + (l.length - k) = l.length + 1 := by omega
        go_wp2_with (at_builtin; first | (refine wpList_append_own _ rfl _ _ 64 rfl w.heap.size 3 i0 _ 1 8 Tryd.underlying64 hi hz0 hz1 hz2 rfl (by decide) (.slice A2 (k + 1) c2) (k + 1) _ rfl own2 ⟨g, k, none⟩ (l.length - k) (c - k) (icells (l.drop k)) rfl (by rw [icells_length, List.length_drop]; omega) (fun j u hj => by have h5 := HD.out j u hj; rw [Addr.add_lit] at h5 ⊢; exact carry k2 h5 hgw) (icells_one _) (by unfold maxLen; omega) (by omega) k2.size ?_; intro v3 w3 own3 gr3 _; have k3 : Below w.heap.size w w3 := k2.grown gr3 k2.size (fun m hm => (own2.lt m hm).1); obtain ⟨A3, c3, rfl, _⟩ := own_shape own3) | (refine wpList_append_own _ rfl _ _ 64 rfl w.heap.size 3 i0 _ 1 8 Tryd.underlying64 hi hz0 hz1 hz2 rfl (by decide) (.slice A1 k c1) k _ rfl (own1.alloc _) ⟨w1.heap.size, 0, none⟩ 1 1 [.int .i64 x] rfl rfl (one_cell (by simp)) (one_one rfl) (by unfold maxLen; omega) (by omega) (by have := k1.size; simp; omega) ?_; intro v2 w2 own2 gr2 _; have k2 : Below w.heap.size w w2 := (k1.alloc k1.size _).grown gr2 (by have := k1.size; simp; omega) (fun m hm => (own1.lt m hm).1); obtain ⟨A2, c2, rfl, _⟩ := own_shape own2) | (refine wpList_append_own _ rfl _ _ 64 rfl w.heap.size 3 i0 _ 1 8 Tryd.underlying64 hi hz0 hz1 hz2 rfl (by decide) (.slice (some ⟨w.heap.size, 0, none⟩) 0 0) 0 [] rfl (World.ownsRow_made w #[] 0 (Nat.le_refl _) (Nat.zero_le _) rfl) ⟨g, 0, none⟩ k c (icells (l.take k)) rfl (by rw [icells_length, List.length_take]; omega) (fun j u hj => Lib.cell?_alloc_some _ (HT.out j u hj)) (icells_one _) (by unfold maxLen; omega) (by omega) (by simp) ?_; intro v1 w1 own1 gr1 _; have k1 : Below w.heap.size w w1 := ((Below.refl _ w).alloc (Nat.le_refl _) _).grown gr1 (by simp) (by intro m hm; simp [Value.ownBlock] at hm; omega); simp only [Nat.zero_add, List.nil_append] at own1; obtain ⟨A1, c1, rfl, _⟩ := own_shape own1))
        go_ret
        refine ⟨A3, c3, rfl, ?_, k3⟩
        rw [hn] at own3
        rw [putI, ← Hkl.out, icells_append, icells_append]
        exact own3
      · have hki : ¬ ((k : Int) < (l.length : Int)) := by omega
        have Hkl := Lib.hid hkl
        have Hdn := Lib.hid (show icells (l.drop k) = [] by rw [List.drop_of_length_le (by omega)]; rfl)
        have hn : k + 1 + (l.length - k) = l.length + 1 := by omega
        clear hkl
        by_cases hkc : c - k = 0
        · go_wp2_with (at_builtin; first | (refine wpList_append_own _ rfl _ _ 64 rfl w.heap.size 3 i0 _ 1 8 Tryd.underlying64 hi hz0 hz1 hz2 rfl (by decide) (.slice A2 (k + 1) c2) (k + 1) _ rfl own2 ⟨g, 0, none⟩ (l.length - k) 0 (icells (l.drop k)) rfl (by rw [icells_length, List.length_drop]; omega) (fun j u hj => by rw [Hdn.out] at hj; cases hj) (icells_one _) (by unfold maxLen; omega) (by omega) k2.size ?_; intro v3 w3 own3 gr3 _; have k3 : Below w.heap.size w w3 := k2.grown gr3 k2.size (fun m hm => (own2.lt m hm).1); obtain ⟨A3, c3, rfl, _⟩ := own_shape own3) | (refine wpList_append_own _ rfl _ _ 64 rfl w.heap.size 3 i0 _ 1 8 Tryd.underlying64 hi hz0 hz1 hz2 rfl (by decide) (.slice A1 k c1) k _ rfl (own1.alloc _) ⟨w1.heap.size, 0, none⟩ 1 1 [.int .i64 x] rfl rfl (one_cell (by simp)) (one_one rfl) (by unfold maxLen; omega) (by omega) (by have := k1.size; simp; omega) ?_; intro v2 w2 own2 gr2 _; have k2 : Below w.heap.size w w2 := (k1.alloc k1.size _).grown gr2 (by have := k1.size; simp; omega) (fun m hm => (own1.lt m hm).1); obtain ⟨A2, c2, rfl, _⟩ := own_shape own2) | (refine wpList_append_own _ rfl _ _ 64 rfl w.heap.size 3 i0 _ 1 8 Tryd.underlying64 hi hz0 hz1 hz2 rfl (by decide) (.slice (some ⟨w.heap.size, 0, none⟩) 0 0) 0 [] rfl (World.ownsRow_made w #[] 0 (Nat.le_refl _) (Nat.zero_le _) rfl) ⟨g, 0, none⟩ k c (icells (l.take k)) rfl (by rw [icells_length, List.length_take]; omega) (fun j u hj => Lib.cell?_alloc_some _ (HT.out j u hj)) (icells_one _) (by unfold maxLen; omega) (by omega) (by simp) ?_; intro v1 w1 own1 gr1 _; have k1 : Below w.heap.size w w1 := ((Below.refl _ w).alloc (Nat.le_refl _) _).grown gr1 (by simp) (by intro m hm; simp [Value.ownBlock] at hm; omega); simp only [Nat.zero_add, List.nil_append] at own1; obtain ⟨A1, c1, rfl, _⟩ := own_shape own1))
          go_ret
          refine ⟨A3, c3, rfl, ?_, k3⟩
          rw [hn] at own3
          rw [putI, ← Hkl.out, icells_append, icells_append]
          exact own3
        · go_wp2_with (at_builtin; first | (refine wpList_append_own _ rfl _ _ 64 rfl w.heap.size 3 i0 _ 1 8 Tryd.underlying64 hi hz0 hz1 hz2 rfl (by decide) (.slice A2 (k + 1) c2) (k + 1) _ rfl own2 ⟨g, k, none⟩ (l.length - k) (c - k) (icells (l.drop k)) rfl (by rw [icells_length, List.length_drop]; omega) (fun j u hj => by have h5 := HD.out j u hj; rw [Addr.add_lit] at h5 ⊢; exact carry k2 h5 hgw) (icells_one _) (by unfold maxLen; omega) (by omega) k2.size ?_; intro v3 w3 own3 gr3 _; have k3 : Below w.heap.size w w3 := k2.grown gr3 k2.size (fun m hm => (own2.lt m hm).1); obtain ⟨A3, c3, rfl, _⟩ := own_shape own3) | (refine wpList_append_own _ rfl _ _ 64 rfl w.heap.size 3 i0 _ 1 8 Tryd.underlying64 hi hz0 hz1 hz2 rfl (by decide) (.slice A1 k c1) k _ rfl (own1.alloc _) ⟨w1.heap.size, 0, none⟩ 1 1 [.int .i64 x] rfl rfl (one_cell (by simp)) (one_one rfl) (by unfold maxLen; omega) (by omega) (by have := k1.size; simp; omega) ?_; intro v2 w2 own2 gr2 _; have k2 : Below w.heap.size w w2 := (k1.alloc k1.size _).grown gr2 (by have := k1.size; simp; omega) (fun m hm => (own1.lt m hm).1); obtain ⟨A2, c2, rfl, _⟩ := own_shape own2) | (refine wpList_append_own _ rfl _ _ 64 rfl w.heap.size 3 i0 _ 1 8 Tryd.underlying64 hi hz0 hz1 hz2 rfl (by decide) (.slice (some ⟨w.heap.size, 0, none⟩) 0 0) 0 [] rfl (World.ownsRow_made w #[] 0 (Nat.le_refl _) (Nat.zero_le _) rfl) ⟨g, 0, none⟩ k c (icells (l.take k)) rfl (by rw [icells_length, List.length_take]; omega) (fun j u hj => Lib.cell?_alloc_some _ (HT.out j u hj)) (icells_one _) (by unfold maxLen; omega) (by omega) (by simp) ?_; intro v1 w1 own1 gr1 _; have k1 : Below w.heap.size w w1 := ((Below.refl _ w).alloc (Nat.le_refl _) _).grown gr1 (by simp) (by intro m hm; simp [Value.ownBlock] at hm; omega); simp only [Nat.zero_add, List.nil_append] at own1; obtain ⟨A1, c1, rfl, _⟩ := own_shape own1))
          go_ret
          refine ⟨A3, c3, rfl, ?_, k3⟩
          rw [hn] at own3
          rw [putI, ← Hkl.out, icells_append, icells_append]
          exact own3

set_option maxHeartbeats 2000000 in
set_option maxRecDepth 100000 in
theorem l1Put_nil (x : Int) (w : World) :
    Calls Tryd.prog 128 #[.slice none 0 0, .int .i64 x] w fun e w' => ∃ A' c', e = .returned (.slice A' 1 c') ∧ w'.ownsRow w.heap.size 3 1 (.slice A' 1 c') 1 (icells [x]) ∧ Below w.heap.size w w' := by
  obtain ⟨i0, hi, hz0, hz1, hz2⟩ := info_parts Tryd.infoInt
  go_enter Tryd.func128, Tryd.ntmps128
  go_wp2_with fail
  go_loopw [5] (fun i wr => i = .int .i64 0 ∧ w = wr) (fun _ _ => 0)
  case atStart => exact ⟨rfl, rfl⟩
  case round =>
    obtain ⟨rfl, rfl⟩ := hrel
    go_wp2_with (at_builtin; first | (refine wpList_append_own_none rfl _ _ 64 rfl w.heap.size 3 i0 1 Tryd.underlying64 hi (.slice A2 1 c2) 1 _ rfl own2 rfl ?_) | (refine wpList_append_own_none rfl _ _ 64 rfl w.heap.size 3 i0 1 Tryd.underlying64 hi (.slice (some ⟨w.heap.size, 0, none⟩) 0 0) 0 [] rfl (World.ownsRow_made w #[] 0 (Nat.le_refl _) (Nat.zero_le _) rfl) rfl ?_) | (refine wpList_append_own _ rfl _ _ 64 rfl w.heap.size 3 i0 _ 1 8 Tryd.underlying64 hi hz0 hz1 hz2 rfl (by decide) (.slice (some ⟨w.heap.size, 0, none⟩) 0 0) 0 [] rfl ((World.ownsRow_made w #[] 0 (Nat.le_refl _) (Nat.zero_le _) rfl).alloc _) ⟨w.heap.size + 1, 0, none⟩ 1 1 [.int .i64 x] rfl rfl (one_cell (by simp)) (one_one rfl) (by unfold maxLen; omega) (by omega) (by simp; omega) ?_; intro v2 w2 own2 gr2 _; have k2 : Below w.heap.size w w2 := (((Below.refl _ w).alloc (Nat.le_refl _) _).alloc (by simp) _).grown gr2 (by simp; omega) (by intro m hm; simp [Value.ownBlock] at hm; omega); simp only [Nat.zero_add, List.nil_append] at own2; obtain ⟨A2, c2, rfl, _⟩ := own_shape own2))
    go_ret
    exact ⟨A2, c2, rfl, own2, k2⟩
end Go.Proofs.YtefkcfkicmfhlaaDoor
/-
  A NUMBER PUT INTO A RISING LIST: its members, its length, that it rises. Nothing here speaks of the program.
-/
namespace Go.Proofs.YtefkcfkicmfhlaaDoor
open Go.RowKit

theorem putI_mem {l : List Int} {x y : Int} : y ∈ putI l x ↔ y = x ∨ y ∈ l := by
  unfold putI
  have h : y ∈ l ↔ y ∈ l.take (putAt l x) ∨ y ∈ l.drop (putAt l x) := by rw [← List.mem_append, List.take_append_drop]
  simp only [List.mem_append, List.mem_singleton, h]
  constructor
  · rintro ((h | h) | h)
    · exact .inr (.inl h)
    · exact .inl h
    · exact .inr (.inr h)
  · rintro (h | h | h)
    · exact .inl (.inr h)
    · exact .inl (.inl h)
    · exact .inr h
theorem putI_length (l : List Int) (x : Int) : (putI l x).length = l.length + 1 := by
  have := putAt_le l x
  unfold putI
  simp only [List.length_append, List.length_take, List.length_drop, List.length_singleton]
  omega
theorem putI_up {l : List Int} {x : Int} (hl : l.Pairwise (· < ·)) (hx : x ∉ l) : (putI l x).Pairwise (· < ·) := by
  unfold putI
  have h1 : ∀ y ∈ l.take (putAt l x), y < x := by
    intro y hy
    obtain ⟨k, hk, e⟩ := List.getElem_of_mem hy
    rw [List.length_take] at hk
    rw [List.getElem_take] at e
    exact putAt_lt (l := l) (x := x) (k := k) (by omega) (by rw [List.getElem?_eq_getElem (by omega), e])
  have h2 : ∀ y ∈ l.drop (putAt l x), x < y := by
    intro y hy
    obtain ⟨k, hk, e⟩ := List.getElem_of_mem hy
    rw [List.length_drop] at hk
    rw [List.getElem_drop] at e
    have hlt : putAt l x < l.length := by omega
    have h0 := putAt_stop (l := l) (x := x) (y := l[putAt l x]) (List.getElem?_eq_getElem hlt)
    have hne : l[putAt l x] ≠ x := fun h => hx (h ▸ List.getElem_mem hlt)
    have hle : l[putAt l x] ≤ y := by
      rw [← e]
      by_cases hk0 : k = 0
      · subst hk0; simp
      · have := List.pairwise_iff_getElem.1 hl (putAt l x) (putAt l x + k) hlt (by omega) (by omega)
        omega
    omega
  refine List.pairwise_append.2 ⟨List.pairwise_append.2 ⟨hl.sublist (List.take_sublist _ _), by simp, fun y hy z hz => ?_⟩, hl.sublist (List.drop_sublist _ _), fun y hy z hz => ?_⟩
  · simp only [List.mem_singleton] at hz; subst hz; exact h1 y hy
  · rcases List.mem_append.1 hy with hy | hy
    · have := h1 y hy; have := h2 z hz; omega
    · simp only [List.mem_singleton] at hy; subst hy; exact h2 z hz
end Go.Proofs.YtefkcfkicmfhlaaDoor
/-
  PARTIES OF COUPLES, as plain lists: numbers told, sorted, different. Nothing here speaks of the program.
-/
namespace Go.Proofs.YtefkcfkicmfhlaaDoor
open Go.RowKit Go.Lib

def sortUp (q : List Int) : List Int := q.mergeSort fun x y => decide (x ≤ y)
theorem sortUp_perm (q : List Int) : (sortUp q).Perm q := List.mergeSort_perm q _
theorem sortUp_length (q : List Int) : (sortUp q).length = q.length := (sortUp_perm q).length_eq
theorem sortUp_sorted (q : List Int) : (sortUp q).Pairwise (· ≤ ·) := by
  have h := List.pairwise_mergeSort (le := fun x y : Int => decide (x ≤ y)) (fun a b c h1 h2 => by simp at *; omega) (fun a b => by simp; omega) q
  exact h.imp fun {a b} h => of_decide_eq_true h
theorem sortUp_up {q : List Int} (h : q.Nodup) : (sortUp q).Pairwise (· < ·) := by
  have h1 := sortUp_sorted q
  have h2 : (sortUp q).Nodup := (sortUp_perm q).nodup_iff.2 h
  exact (h1.and h2).imp fun {a b} h => by omega
theorem up_eq {a b : List Int} (ha : a.Pairwise (· < ·)) (hb : b.Pairwise (· < ·)) (h : ∀ x, x ∈ a ↔ x ∈ b) : a = b := by
  induction a generalizing b with
  | nil =>
    cases b with
    | nil => rfl
    | cons y b => exact absurd ((h y).2 List.mem_cons_self) (by simp)
  | cons x a ih =>
    cases b with
    | nil => exact absurd ((h x).1 List.mem_cons_self) (by simp)
    | cons y b =>
      have ha' := List.pairwise_cons.1 ha
      have hb' := List.pairwise_cons.1 hb
      have e : x = y := by
        rcases List.mem_cons.1 ((h x).1 List.mem_cons_self) with h1 | h1
        · exact h1
        · rcases List.mem_cons.1 ((h y).2 List.mem_cons_self) with h2 | h2
          · exact h2.symm
          · have := ha'.1 y h2; have := hb'.1 x h1; omega
      subst e
      congr 1
      refine ih ha'.2 hb'.2 fun z => ?_
      constructor
      · intro hz
        have hne := ha'.1 z hz
        rcases List.mem_cons.1 ((h z).1 (List.mem_cons_of_mem _ hz)) with h1 | h1
        · omega
        · exact h1
      · intro hz
        have hne := hb'.1 z hz
        rcases List.mem_cons.1 ((h z).2 (List.mem_cons_of_mem _ hz)) with h1 | h1
        · omega
        · exact h1
/-- one number more put among those sorted -/
theorem put_sortUp {q : List Int} {x : Int} (h : (q ++ [x]).Nodup) : putI (sortUp q) x = sortUp (q ++ [x]) := by
  have hq : q.Nodup := h.sublist (List.sublist_append_left _ _)
  have hx : x ∉ q := fun hm => by
    have := (List.nodup_append.1 h).2.2
    exact absurd rfl (this x hm x (by simp))
  refine up_eq (putI_up (sortUp_up hq) fun hm => hx ((sortUp_perm q).mem_iff.1 hm)) (sortUp_up h) fun y => ?_
  rw [putI_mem, (sortUp_perm q).mem_iff, (sortUp_perm (q ++ [x])).mem_iff, List.mem_append, List.mem_singleton]
  exact Or.comm
/-! ## Compact -/
theorem compactUpTo_le (d : Array Int) (m : Nat) : (compactUpTo d m).length ≤ m := by
  unfold compactUpTo
  rw [List.length_map]
  exact Nat.le_trans (List.length_filter_le _ _) (by simp)
theorem compactUpTo_lt (d : Array Int) {j : Nat} : ∀ {m : Nat}, j < m → keeps d j = false → (compactUpTo d m).length < m := by
  intro m
  induction m with
  | zero => intro h; omega
  | succ m ih =>
    intro hj hk
    rw [compactUpTo_succ, List.length_append]
    by_cases e : j = m
    · subst e
      have := compactUpTo_le d j
      rw [hk]
      simp
      omega
    · have := ih (by omega) hk
      split
      · simp only [List.length_singleton]; omega
      · simp only [List.length_nil]; omega
theorem bang_at {zs : List Int} {j : Nat} (hj : j < zs.length) : zs.toArray[j]! = zs[j] := by
  simp [hj]
theorem compact_len {zs : List Int} (hs : zs.Pairwise (· ≤ ·)) : decide ((compact zs).length = zs.length) = decide zs.Nodup := by
  by_cases h : ∀ j, j < zs.length → keeps zs.toArray j = true
  · have e : compact zs = zs := compact_all zs h
    have hn : zs.Nodup := by
      unfold List.Nodup
      rw [List.pairwise_iff_getElem]
      intro i j hi hj hij
      have hk := h j hj
      unfold keeps at hk
      have hk2 := of_decide_eq_true hk
      rw [bang_at hj, bang_at (show j - 1 < zs.length by omega)] at hk2
      have h1 : zs[i] ≤ zs[j - 1] := by
        by_cases e2 : i = j - 1
        · subst e2; exact Int.le_refl _
        · exact List.pairwise_iff_getElem.1 hs i (j - 1) hi (by omega) (by omega)
      have h2 := List.pairwise_iff_getElem.1 hs (j - 1) j (by omega) hj (by omega)
      rcases hk2 with h3 | h3
      · omega
      · omega
    rw [e, decide_eq_true rfl, decide_eq_true hn]
  · have h' : ∃ j, j < zs.length ∧ keeps zs.toArray j = false := by
      refine Classical.byContradiction fun hc => h fun j hj => ?_
      cases hk : keeps zs.toArray j with
      | true => rfl
      | false => exact absurd ⟨j, hj, hk⟩ hc
    obtain ⟨j, hj, hk⟩ := h'
    have h1 : (compact zs).length < zs.length := compactUpTo_lt _ hj hk
    have hn : ¬ zs.Nodup := by
      intro hn
      unfold keeps at hk
      have hk2 := of_decide_eq_false hk
      rw [bang_at hj, bang_at (show j - 1 < zs.length by omega)] at hk2
      have h3 : j ≠ 0 := fun e => hk2 (.inl e)
      have h4 : zs[j] = zs[j - 1] := Classical.byContradiction fun e => hk2 (.inr e)
      have := List.pairwise_iff_getElem.1 hn (j - 1) j (by omega) hj (by omega)
      exact this h4.symm
    rw [decide_eq_false (by omega), decide_eq_false hn]
/-! ## What is answered -/
def goodC (p : Int) (l : PL) : Bool := isP p l && decide (2 ≤ p) && decide (p % 2 = 0)
def apartC (l : PL) : Bool := l.all fun q => decide (q.1 / 2 ≠ q.2 / 2)
def toldC (p : Int) (l : PL) : List Int := (numsOf p.toNat l).drop 1
def areC (p : Int) (l : PL) : Bool := apartC l && decide (toldC p l).Nodup
def resAreCouples (p : Int) (l : PL) : Bool × Bool := if goodC p l then (areC p l, true) else (false, false)
def resToldNumbers (p : Int) (l : PL) : List Int × Bool := if goodC p l && areC p l then (sortUp (toldC p l), true) else ([], false)
def resSpouseNumber (p : Int) (l : PL) : Int × Bool := if goodC p l && areC p l then ((numsOf p.toNat l).getD 1 0, true) else (0, false)
theorem toldC_length {p : Int} (l : PL) (h : 2 ≤ p) : ((toldC p l).length : Int) = p - 1 := by
  unfold toldC
  rw [List.length_drop, numsOf_length]
  omega
theorem goodC_parts {p : Int} {l : PL} (h : goodC p l = true) : isP p l = true ∧ 2 ≤ p ∧ p % 2 = 0 := by
  simp only [goodC, Bool.and_eq_true, decide_eq_true_eq] at h
  exact ⟨h.1.1, h.1.2, h.2⟩
theorem resToldNumbers_len (p : Int) (l : PL) : (resToldNumbers p l).1.length ≤ 1048576 := by
  unfold resToldNumbers
  split
  · rename_i h
    rw [Bool.and_eq_true] at h
    obtain ⟨h1, h2, _⟩ := goodC_parts h.1
    have := isP_range h1
    have := toldC_length l h2
    show (sortUp _).length ≤ _
    rw [sortUp_length]
    omega
  · simp
/-- the first of the numbers told that stands before it, too -/
theorem nodup_no {q : List Int} {i : Nat} {x : Int} (hx : q[i]? = some x) (h : x ∈ q.take i) : ¬ q.Nodup := by
  intro hn
  obtain ⟨j, hj, e⟩ := List.getElem_of_mem h
  rw [List.length_take] at hj
  rw [List.getElem_take] at e
  obtain ⟨hi, e2⟩ := List.getElem?_eq_some_iff.1 hx
  exact List.pairwise_iff_getElem.1 hn j i (by omega) hi (by omega) (e.trans e2.symm)
theorem nodup_of {q : List Int} (h : ∀ i x, q[i]? = some x → x ∉ q.take i) : q.Nodup := by
  unfold List.Nodup
  rw [List.pairwise_iff_getElem]
  intro i j hi hj hij e
  refine h j q[j] (List.getElem?_eq_getElem hj) ?_
  rw [← e]
  exact List.mem_take_iff_getElem.2 ⟨i, by omega, rfl⟩
end Go.Proofs.YtefkcfkicmfhlaaDoor
/-
  A PART OF A PARTY, FOUND BY A QUEUE, pure: what the queue holds is the part of its first one.
-/
namespace Go.Proofs.YtefkcfkicmfhlaaDoor
open Go.RowKit

theorem lab_in {n : Nat} {l : PL} (hp : isP n l = true) : ∀ q ∈ l, q.1.toNat < n ∧ q.2.toNat < n := fun q hq => by
  have := (isP_list hp).2.2.1 q hq
  omega
theorem lab_adj {n : Nat} {l : PL} (hp : isP n l = true) {x y : Nat} (h : adj l x y = true) : lab n l x = lab n l y := by
  unfold adj at h
  rw [Bool.or_eq_true, List.contains_iff_mem, List.contains_iff_mem] at h
  rcases h with h | h
  · have := lab_pair (lab_in hp) _ h
    simpa using this
  · have := lab_pair (lab_in hp) _ h
    simpa using this.symm
theorem adj_mem {l : PL} {q : Int × Int} (hq : q ∈ l) (h1 : 0 ≤ q.1) (h2 : 0 ≤ q.2) : adj l q.1.toNat q.2.toNat = true := by
  unfold adj
  rw [Bool.or_eq_true, List.contains_iff_mem]
  left
  rw [show ((q.1.toNat : Nat) : Int) = q.1 by omega, show ((q.2.toNat : Nat) : Int) = q.2 by omega]
  exact hq
/-- a queue of people of one part, i of whom have been looked at -/
structure Pfs (n : Nat) (l : PL) (a : Nat) (Q : List Nat) (i : Nat) : Prop where
  start : a ∈ Q
  inn : ∀ x, x ∈ Q → x < n
  nodup : Q.Nodup
  lab : ∀ x, x ∈ Q → lab n l x = a
  closed : ∀ (j x b : Nat), j < i → Q[j]? = some x → adj l x b = true → b ∈ Q
section
variable {n a i : Nat} {l : PL} {Q : List Nat}
theorem Pfs.begin (ha : a < n) (hf : Go.Proofs.YtefkcfkicmfhlaaDoor.lab n l a = a) : Pfs n l a [a] 0 :=
  ⟨by simp, fun x hx => by simp at hx; omega, by simp, fun x hx => by simp at hx; subst hx; exact hf, fun j x b hj => by omega⟩
theorem Pfs.push (hp : isP n l = true) (h : Pfs n l a Q i) {u b : Nat} (hu : Q[i]? = some u) (hub : adj l u b = true) (hb : b ∉ Q) : Pfs n l a (Q ++ [b]) i := by
  have hil := (List.getElem?_eq_some_iff.1 hu).1
  refine ⟨List.mem_append_left _ h.start, fun x hx => ?_, ?_, fun x hx => ?_, fun j x c hj hx hxc => ?_⟩
  · rcases List.mem_append.1 hx with h1 | h1
    · exact h.inn x h1
    · rw [List.mem_singleton] at h1; subst h1; exact (adj_of hp hub).2.1
  · rw [List.nodup_append]
    exact ⟨h.nodup, by simp, fun x hx y hy e => by rw [List.mem_singleton] at hy; subst hy; subst e; exact hb hx⟩
  · rcases List.mem_append.1 hx with h1 | h1
    · exact h.lab x h1
    · rw [List.mem_singleton] at h1; subst h1; rw [← lab_adj hp hub]; exact h.lab u (List.mem_of_getElem? hu)
  · rw [List.getElem?_append_left (by omega)] at hx
    exact List.mem_append_left _ (h.closed j x c hj hx hxc)
theorem Pfs.next (h : Pfs n l a Q i) {u : Nat} (hu : Q[i]? = some u) (hall : ∀ b, adj l u b = true → b ∈ Q) : Pfs n l a Q (i + 1) :=
  ⟨h.start, h.inn, h.nodup, h.lab, fun j x b hj hx hxb => by
    by_cases hji : j = i
    · subst hji; rw [hu] at hx; rw [← Option.some.inj hx] at hxb; exact hall b hxb
    · exact h.closed j x b (by omega) hx hxb⟩
theorem Pfs.few (h : Pfs n l a Q i) : Q.length ≤ n := by
  have h1 : Q.length ≤ (List.range n).length := List.Nodup.length_le_of_subset h.nodup (fun x hx => List.mem_range.2 (h.inn x hx))
  simpa using h1
theorem Pfs.whole (hp : isP n l = true) (ha : a < n) (h : Pfs n l a Q i) (hi : Q.length ≤ i) {x : Nat} (hx : x < n) : x ∈ Q ↔ Go.Proofs.YtefkcfkicmfhlaaDoor.lab n l x = a := by
  constructor
  · exact h.lab x
  · intro e
    have hcl : ∀ y b, y ∈ Q → adj l y b = true → b ∈ Q := fun y b hy hyb => by
      obtain ⟨j, hj⟩ := List.getElem?_of_mem hy
      exact h.closed j y b (by have := (List.getElem?_eq_some_iff.1 hj).1; omega) hj hyb
    have hS : ∀ q ∈ l, (q.1.toNat ∈ Q ↔ q.2.toNat ∈ Q) := fun q hq => by
      have hr := (isP_list hp).2.2.1 q hq
      have h1 := adj_mem hq (by omega) (by omega)
      exact ⟨fun h2 => hcl _ _ h2 h1, fun h2 => hcl _ _ h2 (by rw [adj_comm]; exact h1)⟩
    have := lab_closed (S := fun y => y ∈ Q) (lab_in hp) hS a x ha hx ((h.lab a h.start).trans e.symm)
    exact this.1 h.start
/-- the people looked at, in order -/
def partQ (Q : List Nat) (i : Nat) : List Int := sortUp ((Q.take i).map fun (x : Nat) => (x : Int))
theorem partQ_zero (Q : List Nat) : partQ Q 0 = [] := by
  apply List.eq_nil_of_length_eq_zero
  unfold partQ
  rw [sortUp_length]
  simp
theorem partQ_length {Q : List Nat} {i : Nat} (h : i ≤ Q.length) : (partQ Q i).length = i := by
  unfold partQ
  rw [sortUp_length, List.length_map, List.length_take]
  omega
theorem ints_nodup {Q : List Nat} (h : Q.Nodup) : (Q.map fun (x : Nat) => (x : Int)).Nodup := by
  rw [List.Nodup, List.pairwise_map]
  exact h.imp fun {a b} hab e => hab (by omega)
theorem partQ_next {Q : List Nat} {i u : Nat} (h : Q.Nodup) (hu : Q[i]? = some u) : (u : Int) ∉ partQ Q i ∧ putI (partQ Q i) u = partQ Q (i + 1) := by
  have e : (Q.take (i + 1)).map (fun (x : Nat) => (x : Int)) = (Q.take i).map (fun (x : Nat) => (x : Int)) ++ [(u : Int)] := by
    rw [List.take_add_one, hu, Option.toList_some, List.map_append]; rfl
  have hn : ((Q.take i).map (fun (x : Nat) => (x : Int)) ++ [(u : Int)]).Nodup := by
    rw [← e]
    exact ints_nodup (h.sublist (List.take_sublist _ _))
  unfold partQ
  constructor
  · rw [(sortUp_perm _).mem_iff]
    intro hm
    exact (List.nodup_append.1 hn).2.2 _ hm _ (by simp) rfl
  · rw [e]
    exact put_sortUp hn
theorem Pfs.row (hp : isP n l = true) (ha : a < n) (h : Pfs n l a Q i) (hi : Q.length ≤ i) : partQ Q i = rowOf (Go.Proofs.YtefkcfkicmfhlaaDoor.lab n l) n a := by
  unfold partQ
  rw [List.take_of_length_le hi]
  refine up_eq (sortUp_up (ints_nodup h.nodup)) ?_ fun x => ?_
  · unfold rowOf
    rw [List.pairwise_map]
    exact (List.pairwise_lt_range.filter _).imp fun {a b} hab => by omega
  · rw [(sortUp_perm _).mem_iff]
    unfold rowOf
    simp only [List.mem_map, List.mem_filter, List.mem_range, beq_iff_eq]
    constructor
    · rintro ⟨y, hy, rfl⟩
      exact ⟨y, ⟨h.inn y hy, h.lab y hy⟩, rfl⟩
    · rintro ⟨y, ⟨hy, hl⟩, rfl⟩
      exact ⟨y, (h.whole hp ha hi hy).2 hl, rfl⟩
end
/-- who has been seen: those of parts with a first one before a, and those in the queue -/
def snQ (n : Nat) (l : PL) (a : Nat) (Q : List Nat) (x : Nat) : Bool := decide (lab n l x < a) || Q.contains x
theorem snQ_nil (n : Nat) (l : PL) (a x : Nat) : snQ n l a [] x = decide (lab n l x < a) := by simp [snQ]
theorem snQ_push (n : Nat) (l : PL) (a b : Nat) (Q : List Nat) : (fun x => if x = b then true else snQ n l a Q x) = snQ n l a (Q ++ [b]) := by
  funext x
  unfold snQ
  by_cases h : x = b
  · subst h; simp
  · rw [if_neg h]
    have : (Q ++ [b]).contains x = Q.contains x := by
      rw [Bool.eq_iff_iff, List.contains_iff_mem, List.contains_iff_mem, List.mem_append, List.mem_singleton]
      exact ⟨fun h1 => h1.resolve_right h, .inl⟩
    rw [this]
theorem snQ_friend {n a i u b : Nat} {l : PL} {Q : List Nat} (hp : isP n l = true) (h : Pfs n l a Q i) (hu : u ∈ Q) (hub : adj l u b = true) : snQ n l a Q b = Q.contains b := by
  unfold snQ
  rw [decide_eq_false (by rw [← lab_adj hp hub, h.lab u hu]; omega), Bool.false_or]
theorem snQ_done {n a i x : Nat} {l : PL} {Q : List Nat} (hp : isP n l = true) (ha : a < n) (h : Pfs n l a Q i) (hi : Q.length ≤ i) (hx : x < n) : snQ n l a Q x = snQ n l (a + 1) [] x := by
  unfold snQ
  rw [Bool.eq_iff_iff]
  simp only [Bool.or_eq_true, decide_eq_true_eq, List.contains_iff_mem, List.not_mem_nil, or_false]
  rw [h.whole hp ha hi hx]
  omega
/-- the parts whose first ones lie before a -/
def partsTo (f : Nat → Int) (n a : Nat) : List (List Int) := (reps f a).map (rowOf f n)
theorem partsTo_all (f : Nat → Int) (n : Nat) : partsTo f n n = partsI f n := rfl
theorem partsTo_new {f : Nat → Int} {n a : Nat} (h : f a = a) : partsTo f n (a + 1) = partsTo f n a ++ [rowOf f n a] := by unfold partsTo; rw [reps_new h, List.map_append]; rfl
theorem partsTo_old {f : Nat → Int} {n a : Nat} (h : f a ≠ a) : partsTo f n (a + 1) = partsTo f n a := by unfold partsTo; rw [reps_old h]
theorem partsTo_few (f : Nat → Int) (n a : Nat) : (partsTo f n a).length ≤ a := by unfold partsTo; rw [List.length_map]; exact reps_length_le f a
end Go.Proofs.YtefkcfkicmfhlaaDoor
/-
  HOW FAR PEOPLE ARE, in pure terms: who is reached by at most so many steps, the distance, and what a queue of people who are looked at one after another knows of it.
-/
namespace Go.Proofs.YtefkcfkicmfhlaaDoor

/-- who is reached by a walk of at most d steps -/
def rch (n : Nat) (t : Nat → Nat → Bool) (a : Nat) : Nat → Nat → Bool
  | 0, x => decide (x = a)
  | d + 1, x => rch n t a d x || (List.range n).any fun y => rch n t a d y && t y x
section
variable {n a : Nat} {t : Nat → Nat → Bool}
theorem rch_succ {d x : Nat} : rch n t a (d + 1) x = true ↔ rch n t a d x = true ∨ ∃ y, y < n ∧ rch n t a d y = true ∧ t y x = true := by
  simp only [rch, Bool.or_eq_true, List.any_eq_true, List.mem_range, Bool.and_eq_true]
theorem rch_mono {d x : Nat} (h : rch n t a d x = true) : ∀ {e : Nat}, d ≤ e → rch n t a e x = true := by
  intro e he
  induction e with
  | zero => rw [show d = 0 by omega] at h; exact h
  | succ e ih =>
    by_cases hd : d = e + 1
    · rw [← hd]; exact h
    · exact rch_succ.2 (.inl (ih (by omega)))
theorem rch_lt (ha : a < n) (ht : ∀ y x, t y x = true → x < n) {d x : Nat} (h : rch n t a d x = true) : x < n := by
  induction d generalizing x with
  | zero => simp [rch] at h; omega
  | succ d ih =>
    rcases rch_succ.1 h with h | ⟨y, _, _, h⟩
    · exact ih h
    · exact ht y x h
theorem rch_stop {d : Nat} (h : ∀ x, rch n t a (d + 1) x = rch n t a d x) (e : Nat) : ∀ x, rch n t a (d + e) x = rch n t a d x := by
  induction e with
  | zero => intro x; rfl
  | succ e ih =>
    intro x
    rw [← h x, Bool.eq_iff_iff]
    show rch n t a ((d + e) + 1) x = true ↔ _
    rw [rch_succ, rch_succ, ih x]
    constructor
    · rintro (h1 | ⟨y, hy, h1, h2⟩)
      · exact .inl h1
      · exact .inr ⟨y, hy, by rw [← ih y]; exact h1, h2⟩
    · rintro (h1 | ⟨y, hy, h1, h2⟩)
      · exact .inl h1
      · exact .inr ⟨y, hy, by rw [ih y]; exact h1, h2⟩
end
/-- the distance of x, -1 if there is none -/
def IsDist (n : Nat) (t : Nat → Nat → Bool) (a x : Nat) (o : Int) : Prop :=
  (o = -1 ∧ ∀ d, rch n t a d x = false) ∨ ∃ d : Nat, o = d ∧ rch n t a d x = true ∧ ∀ e, e < d → rch n t a e x = false
section
variable {n a x : Nat} {t : Nat → Nat → Bool}
theorem IsDist.unique {o o' : Int} (h : IsDist n t a x o) (h' : IsDist n t a x o') : o = o' := by
  rcases h with ⟨rfl, h⟩ | ⟨d, rfl, h1, h2⟩
  · rcases h' with ⟨rfl, _⟩ | ⟨d, rfl, h1, _⟩
    · rfl
    · rw [h d] at h1; cases h1
  · rcases h' with ⟨rfl, h⟩ | ⟨d', rfl, h1', h2'⟩
    · rw [h d] at h1; cases h1
    · rcases Nat.lt_trichotomy d d' with hd | hd | hd
      · rw [h2' d hd] at h1; cases h1
      · rw [hd]
      · rw [h2 d' hd] at h1'; cases h1'
theorem least_rch (d : Nat) (h : rch n t a d x = true) : ∃ m, m ≤ d ∧ rch n t a m x = true ∧ ∀ e, e < m → rch n t a e x = false := by
  induction d with
  | zero => exact ⟨0, Nat.le_refl _, h, fun e he => by omega⟩
  | succ d ih =>
    cases hd : rch n t a d x with
    | true => obtain ⟨m, h1, h2, h3⟩ := ih hd; exact ⟨m, by omega, h2, h3⟩
    | false =>
      refine ⟨d + 1, Nat.le_refl _, h, fun e he => ?_⟩
      cases he2 : rch n t a e x with
      | false => rfl
      | true => rw [rch_mono he2 (show e ≤ d by omega)] at hd; cases hd
theorem exists_dist (n : Nat) (t : Nat → Nat → Bool) (a x : Nat) : ∃ o, IsDist n t a x o := by
  by_cases h : ∃ d, rch n t a d x = true
  · obtain ⟨d, hd⟩ := h
    obtain ⟨m, _, h2, h3⟩ := least_rch d hd
    exact ⟨m, .inr ⟨m, rfl, h2, h3⟩⟩
  · refine ⟨-1, .inl ⟨rfl, fun d => ?_⟩⟩
    cases hd : rch n t a d x with
    | false => rfl
    | true => exact absurd ⟨d, hd⟩ h
end
noncomputable def distO (n : Nat) (t : Nat → Nat → Bool) (a x : Nat) : Int := Classical.choose (exists_dist n t a x)
section
variable {n a : Nat} {t : Nat → Nat → Bool}
theorem distO_spec (n : Nat) (t : Nat → Nat → Bool) (a x : Nat) : IsDist n t a x (distO n t a x) := Classical.choose_spec (exists_dist n t a x)
theorem IsDist.eq {x : Nat} {o : Int} (h : IsDist n t a x o) : distO n t a x = o := (distO_spec n t a x).unique h
theorem distO_ge (n : Nat) (t : Nat → Nat → Bool) (a x : Nat) : -1 ≤ distO n t a x := by
  rcases distO_spec n t a x with ⟨h, _⟩ | ⟨d, h, _⟩ <;> omega
theorem distO_self : distO n t a a = 0 := IsDist.eq (.inr ⟨0, rfl, by simp [rch], fun e he => by omega⟩)
/-- a queue of people who are looked at one after another, with what is told of how far they are; k of them have been looked at -/
structure Bfs (n : Nat) (t : Nat → Nat → Bool) (a : Nat) (Q : List Nat) (o : Nat → Int) (k : Nat) : Prop where
  start : a ∈ Q
  inn : ∀ x, x ∈ Q → x < n
  nodup : Q.Nodup
  out : ∀ x, x ∉ Q → o x = -1
  known : ∀ x, x ∈ Q → 0 ≤ o x
  exact : ∀ x, x ∈ Q → IsDist n t a x (o x)
  sorted : ∀ (i j x y : Nat), i ≤ j → Q[i]? = some x → Q[j]? = some y → o x ≤ o y
  small : ∀ x, x ∈ Q → o x ≤ Q.length
  last : ∀ (x u : Nat), x ∈ Q → Q[k]? = some u → o x ≤ o u + 1
  closed : ∀ (i x b : Nat), i < k → Q[i]? = some x → b < n → t x b = true → b ∈ Q
def updI (o : Nat → Int) (b : Nat) (v : Int) : Nat → Int := fun x => if x = b then v else o x
theorem Bfs.begin (ha : a < n) : Bfs n t a [a] (updI (fun _ => -1) a 0) 0 := by
  refine ⟨by simp, fun x hx => by simp at hx; omega, by simp, fun x hx => ?_, fun x hx => ?_, fun x hx => ?_, fun i j x y _ hi hj => ?_, fun x hx => ?_, fun x u hx hu => ?_, fun i x b hi => by omega⟩
  · simp only [List.mem_singleton] at hx; simp [updI, hx]
  · simp only [List.mem_singleton] at hx; simp [updI, hx]
  · simp only [List.mem_singleton] at hx
    subst hx
    simp only [updI, if_true]
    exact .inr ⟨0, rfl, by simp [rch], fun e he => by omega⟩
  · have h1 : i = 0 := by have := (List.getElem?_eq_some_iff.1 hi).1; simp at this; exact this
    have h2 : j = 0 := by have := (List.getElem?_eq_some_iff.1 hj).1; simp at this; exact this
    subst h1 h2
    rw [hi] at hj
    rw [Option.some.inj hj]
    exact Int.le_refl _
  · simp only [List.mem_singleton] at hx
    subst hx
    simp [updI]
  · simp only [List.mem_singleton] at hx
    simp at hu
    subst hx hu
    simp [updI]
theorem Bfs.few {Q : List Nat} {o : Nat → Int} {k : Nat} (h : Bfs n t a Q o k) : Q.length ≤ n := by
  have := List.Nodup.length_le_of_subset (l₁ := Q) (l₂ := List.range n) h.nodup fun x hx => List.mem_range.2 (h.inn x hx)
  simpa using this
/-- all who are nearer than the one that is looked at are in the queue -/
theorem Bfs.near {Q : List Nat} {o : Nat → Int} {k u : Nat} (h : Bfs n t a Q o k) (hu : Q[k]? = some u) (j : Nat) : (j : Int) ≤ o u → ∀ x, x < n → rch n t a j x = true → x ∈ Q := by
  induction j with
  | zero => intro _ x _ hx; simp [rch] at hx; rw [hx]; exact h.start
  | succ j ih =>
    intro hj x hxn hx
    rcases rch_succ.1 hx with hx | ⟨y, hyn, hy, hyx⟩
    · exact ih (by omega) x hxn hx
    · have hyQ := ih (by omega) y hyn hy
      have hoy : o y ≤ j := by
        rcases h.exact y hyQ with ⟨e, _⟩ | ⟨d, e, _, hm⟩
        · omega
        · rw [e]
          by_cases hdj : d ≤ j
          · omega
          · rw [hm j (by omega)] at hy; cases hy
      obtain ⟨i, hi⟩ := List.getElem?_of_mem hyQ
      by_cases hik : i < k
      · exact h.closed i y x hik hi hxn hyx
      · have := h.sorted k i u y (by omega) hu hi
        omega
theorem Bfs.push {Q : List Nat} {o : Nat → Int} {k u b : Nat} (h : Bfs n t a Q o k) (hu : Q[k]? = some u) (hb : b < n) (hub : t u b = true) (hbQ : o b < 0) : Bfs n t a (Q ++ [b]) (updI o b (o u + 1)) k := by
  have hbq : b ∉ Q := fun hm => by have := h.known b hm; omega
  have huQ : u ∈ Q := List.mem_of_getElem? hu
  have hne : u ≠ b := fun e => hbq (e ▸ huQ)
  have hold : ∀ x, x ∈ Q → updI o b (o u + 1) x = o x := fun x hx => if_neg fun (e : x = b) => hbq (e ▸ hx)
  have hnew : updI o b (o u + 1) b = o u + 1 := if_pos rfl
  have hk := (List.getElem?_eq_some_iff.1 hu).1
  have hat : ∀ {i x : Nat}, (Q ++ [b])[i]? = some x → (i < Q.length ∧ Q[i]? = some x) ∨ (i = Q.length ∧ x = b) := by
    intro i x hi
    by_cases hlt : i < Q.length
    · left; rw [List.getElem?_append_left hlt] at hi; exact ⟨hlt, hi⟩
    · right
      rw [List.getElem?_append_right (by omega)] at hi
      have := (List.getElem?_eq_some_iff.1 hi).1
      simp at this
      have e : i - Q.length = 0 := by omega
      rw [e] at hi
      simp at hi
      exact ⟨by omega, hi.symm⟩
  refine ⟨List.mem_append_left _ h.start, fun x hx => ?_, ?_, fun x hx => ?_, fun x hx => ?_, fun x hx => ?_, fun i j x y hij hi hj => ?_, fun x hx => ?_, fun x v hx hv => ?_, fun i x c hi hx hc htc => ?_⟩
  · rcases List.mem_append.1 hx with hx | hx
    · exact h.inn x hx
    · simp at hx; omega
  · rw [List.nodup_append]
    refine ⟨h.nodup, by simp, fun x hx y hy => ?_⟩
    simp at hy
    subst hy
    exact fun e => hbq (e ▸ hx)
  · rw [List.mem_append, not_or] at hx
    have hxb : x ≠ b := by simpa using hx.2
    rw [updI, if_neg hxb]
    exact h.out x hx.1
  · rcases List.mem_append.1 hx with hx | hx
    · rw [hold x hx]; exact h.known x hx
    · simp at hx; subst hx; rw [hnew]; have := h.known u huQ; omega
  · rcases List.mem_append.1 hx with hx | hx
    · rw [hold x hx]; exact h.exact x hx
    · simp at hx; subst hx; rw [hnew]
      rcases h.exact u huQ with ⟨e, _⟩ | ⟨d, e, hd, _⟩
      · have := h.known u huQ; omega
      · refine .inr ⟨d + 1, by rw [e]; rfl, rch_succ.2 (.inr ⟨u, h.inn u huQ, hd, hub⟩), fun j hj => ?_⟩
        cases hr : rch n t a j x with
        | false => rfl
        | true => exact absurd (h.near hu j (by rw [e]; omega) x hb hr) hbq
  · rcases hat hi with ⟨h1, hi'⟩ | ⟨h1, rfl⟩
    · rcases hat hj with ⟨h2, hj'⟩ | ⟨h2, rfl⟩
      · rw [hold x (List.mem_of_getElem? hi'), hold y (List.mem_of_getElem? hj')]; exact h.sorted i j x y hij hi' hj'
      · rw [hold x (List.mem_of_getElem? hi'), hnew]; exact h.last x u (List.mem_of_getElem? hi') hu
    · rcases hat hj with ⟨h2, hj'⟩ | ⟨h2, rfl⟩
      · omega
      · exact Int.le_refl _
  · rw [List.length_append, List.length_singleton]
    rcases List.mem_append.1 hx with hx | hx
    · rw [hold x hx]; have := h.small x hx; omega
    · simp at hx; subst hx; rw [hnew]; have := h.small u huQ; omega
  · rw [List.getElem?_append_left hk, hu] at hv
    have := Option.some.inj hv
    subst this
    rw [hold u huQ]
    rcases List.mem_append.1 hx with hx | hx
    · rw [hold x hx]; exact h.last x u hx hu
    · simp at hx; subst hx; rw [hnew]; exact Int.le_refl _
  · rcases hat hx with ⟨h1, hx⟩ | ⟨h1, rfl⟩
    · exact List.mem_append_left _ (h.closed i x c hi hx hc htc)
    · omega
theorem Bfs.next {Q : List Nat} {o : Nat → Int} {k u : Nat} (h : Bfs n t a Q o k) (hu : Q[k]? = some u) (hall : ∀ b, b < n → t u b = true → b ∈ Q) : Bfs n t a Q o (k + 1) := by
  refine ⟨h.start, h.inn, h.nodup, h.out, h.known, h.exact, h.sorted, h.small, fun x v hx hv => ?_, fun i x b hi hx hb htb => ?_⟩
  · have h1 := h.last x u hx hu
    have h2 := h.sorted k (k + 1) u v (by omega) hu hv
    omega
  · by_cases hik : i = k
    · subst hik
      rw [hu] at hx
      have := Option.some.inj hx
      subst this
      exact hall b hb htb
    · exact h.closed i x b (by omega) hx hb htb
theorem Bfs.done {Q : List Nat} {o : Nat → Int} {k : Nat} (h : Bfs n t a Q o k) (hk : Q.length ≤ k) (ht : ∀ y x, t y x = true → x < n) (x : Nat) : o x = distO n t a x := by
  have hcl : ∀ d y, rch n t a d y = true → y ∈ Q := by
    intro d
    induction d with
    | zero => intro y hy; simp [rch] at hy; rw [hy]; exact h.start
    | succ d ih =>
      intro y hy
      rcases rch_succ.1 hy with hy | ⟨z, hz, h1, h2⟩
      · exact ih y hy
      · obtain ⟨i, hi⟩ := List.getElem?_of_mem (ih z h1)
        have := (List.getElem?_eq_some_iff.1 hi).1
        exact h.closed i z y (by omega) hi (ht z y h2) h2
  by_cases hx : x ∈ Q
  · exact (h.exact x hx).eq.symm
  · rw [h.out x hx]
    refine (IsDist.eq (.inl ⟨rfl, fun d => ?_⟩)).symm
    cases hr : rch n t a d x with
    | false => rfl
    | true => exact absurd (hcl d x hr) hx
end
theorem range_set (n : Nat) (o : Nat → Int) (b : Nat) (v : Int) : ((List.range n).map o).set b v = (List.range n).map (updI o b v) := by
  refine List.ext_getElem (by simp) fun i h1 h2 => ?_
  simp only [List.length_set, List.length_map, List.length_range] at h1
  rw [List.getElem_set]
  simp only [List.getElem_map, List.getElem_range, updI]
  by_cases h : b = i
  · rw [if_pos h, if_pos h.symm]
  · rw [if_neg h, if_neg (fun e => h e.symm)]
/-- the crowd of all who are friends of some, with those told -/
def orT (T : Nat → Nat) (cs : List Nat) (R : Nat) : Nat := cs.foldl (fun r c => r ||| T c) R
theorem orT_snoc (T : Nat → Nat) (cs : List Nat) (c R : Nat) : orT T (cs ++ [c]) R = orT T cs R ||| T c := by simp [orT]
theorem orT_bit (T : Nat → Nat) (cs : List Nat) (R x : Nat) : (orT T cs R).testBit x = (R.testBit x || cs.any fun c => (T c).testBit x) := by
  induction cs generalizing R with
  | nil => simp [orT]
  | cons c cs ih =>
    show (orT T cs (R ||| T c)).testBit x = _
    rw [ih, Nat.testBit_or, List.any_cons, Bool.or_assoc]
theorem orT_small (T : Nat → Nat) (cs : List Nat) (R : Nat) (hR : R < 65536) (hT : ∀ c ∈ cs, T c < 65536) : orT T cs R < 65536 := by
  induction cs generalizing R with
  | nil => exact hR
  | cons c cs ih => exact ih (R ||| T c) (Nat.or_lt_two_pow (n := 16) hR (hT c List.mem_cons_self)) fun c hc => hT c (List.mem_cons_of_mem _ hc)
theorem orT_ge (T : Nat → Nat) (cs : List Nat) (R : Nat) : R ≤ orT T cs R := by
  induction cs generalizing R with
  | nil => exact Nat.le_refl _
  | cons c cs ih => exact Nat.le_trans Nat.left_le_or (ih (R ||| T c))
/-- what the program knows: the crowd that is reached by at most d steps -/
structure Reached (n : Nat) (t : Nat → Nat → Bool) (a d R : Nat) : Prop where
  bit : ∀ x, R.testBit x = rch n t a d x
  most : d ≤ R
  lt : R < 65536
theorem Reached.begin (n : Nat) (t : Nat → Nat → Bool) {a : Nat} (ha : a < 16) : Reached n t a 0 (2 ^ a) := by
  refine ⟨fun x => ?_, Nat.zero_le _, Nat.pow_lt_pow_right (n := 16) (by omega) ha⟩
  rw [Nat.testBit_two_pow]
  simp only [rch]
  rw [decide_eq_decide]
  exact eq_comm
theorem Reached.step_bit {n : Nat} {t : Nat → Nat → Bool} {a d R : Nat} {T : Nat → Nat} {cs : List Nat} (h : Reached n t a d R) (hcs : ∀ b, R.testBit b = true ↔ b ∈ cs) (hin : ∀ c ∈ cs, c < n) (hT : ∀ c x, c ∈ cs → (T c).testBit x = t c x) (x : Nat) :
    (orT T cs R).testBit x = rch n t a (d + 1) x := by
  rw [orT_bit, h.bit, Bool.eq_iff_iff, rch_succ, Bool.or_eq_true, List.any_eq_true]
  constructor
  · rintro (h1 | ⟨c, hc, h2⟩)
    · exact .inl h1
    · exact .inr ⟨c, hin c hc, by rw [← h.bit]; exact (hcs c).2 hc, by rw [← hT c x hc]; exact h2⟩
  · rintro (h1 | ⟨y, hy, h1, h2⟩)
    · exact .inl h1
    · have hc := (hcs y).1 (by rw [h.bit]; exact h1)
      exact .inr ⟨y, hc, by rw [hT y x hc]; exact h2⟩
theorem Reached.step {n : Nat} {t : Nat → Nat → Bool} {a d R : Nat} {T : Nat → Nat} {cs : List Nat} (h : Reached n t a d R) (hcs : ∀ b, R.testBit b = true ↔ b ∈ cs) (hin : ∀ c ∈ cs, c < n) (hT : ∀ c x, c ∈ cs → (T c).testBit x = t c x) (hTs : ∀ c ∈ cs, T c < 65536) (hne : orT T cs R ≠ R) :
    Reached n t a (d + 1) (orT T cs R) := by
  have h1 := orT_ge T cs R
  have h2 := h.most
  exact ⟨h.step_bit hcs hin hT, by omega, orT_small T cs R h.lt hTs⟩
theorem Reached.stop {n : Nat} {t : Nat → Nat → Bool} {a d R b : Nat} {T : Nat → Nat} {cs : List Nat} (h : Reached n t a d R) (hcs : ∀ b, R.testBit b = true ↔ b ∈ cs) (hin : ∀ c ∈ cs, c < n) (hT : ∀ c x, c ∈ cs → (T c).testBit x = t c x) (heq : orT T cs R = R) (hb : R.testBit b = false) :
    distO n t a b = -1 := by
  have hs := rch_stop (n := n) (t := t) (a := a) (d := d) fun x => by rw [← h.step_bit hcs hin hT x, heq, h.bit]
  refine IsDist.eq (.inl ⟨rfl, fun e => ?_⟩)
  cases hr : rch n t a e b with
  | false => rfl
  | true =>
    have h1 := rch_mono hr (show e ≤ d + e by omega)
    rw [hs e b, ← h.bit, hb] at h1
    cases h1
theorem Reached.found {n : Nat} {t : Nat → Nat → Bool} {a d R b : Nat} (h : Reached n t a d R) (hb : R.testBit b = true) (hno : ∀ e, e < d → rch n t a e b = false) : distO n t a b = d :=
  IsDist.eq (.inr ⟨d, rfl, by rw [← h.bit]; exact hb, hno⟩)
end Go.Proofs.YtefkcfkicmfhlaaDoor
/-
  'FriendsOf': the model's and the program's, by their contracts.
-/
namespace Go.Proofs.YtefkcfkicmfhlaaDoor
open Go.RowKit

def friendsI (l : PL) (a : Int) : List Int := l.filterMap fun q => if q.1 = a then some q.2 else if q.2 = a then some q.1 else none
def friendR (n : Nat) (t : Nat → Bool) : List Int := ((List.range n).filter t).map fun b : Nat => (b : Int)
theorem isorted_ext : ∀ {l m : List Int}, l.Pairwise (· < ·) → m.Pairwise (· < ·) → (∀ q, q ∈ l ↔ q ∈ m) → l = m
  | [], [], _, _, _ => rfl
  | [], b :: m, _, _, h => by have := (h b).2 (List.mem_cons_self ..); cases this
  | a :: l, [], _, _, h => by have := (h a).1 (List.mem_cons_self ..); cases this
  | a :: l, b :: m, hl, hm, h => by
    rw [List.pairwise_cons] at hl hm
    have hab : a = b := by
      rcases List.mem_cons.1 ((h a).1 (List.mem_cons_self ..)) with e | e
      · exact e
      · rcases List.mem_cons.1 ((h b).2 (List.mem_cons_self ..)) with e' | e'
        · exact e'.symm
        · have h1 := hm.1 a e; have h2 := hl.1 b e'; omega
    subst hab
    rw [isorted_ext hl.2 hm.2 fun q => ?_]
    constructor
    · intro hq
      rcases List.mem_cons.1 ((h q).1 (List.mem_cons_of_mem _ hq)) with e | e
      · subst e; have := hl.1 q hq; omega
      · exact e
    · intro hq
      rcases List.mem_cons.1 ((h q).2 (List.mem_cons_of_mem _ hq)) with e | e
      · subst e; have := hm.1 q hq; omega
      · exact e
theorem friendR_sorted (n : Nat) (t : Nat → Bool) : (friendR n t).Pairwise (· < ·) := by
  unfold friendR
  rw [List.pairwise_map]
  exact List.Pairwise.imp (fun {a b} h => by omega) ((List.pairwise_lt_range (n := n)).filter _)
theorem friendsI_sorted {p : Int} {l : PL} (h : isP p l = true) (a : Int) : (friendsI l a).Pairwise (· < ·) := by
  obtain ⟨_, _, hm, hs⟩ := isP_list h
  unfold friendsI
  rw [List.pairwise_filterMap]
  refine List.Pairwise.imp_of_mem (fun {q q'} hq hq' hlt u hu v hv => ?_) hs
  have h1 := hm q hq
  have h2 := hm q' hq'
  unfold plt at hlt
  split at hu
  · split at hv
    · simp at hu hv; omega
    · split at hv
      · simp at hu hv; omega
      · cases hv
  · split at hu
    · split at hv
      · simp at hu hv; omega
      · split at hv
        · simp at hu hv; omega
        · cases hv
    · cases hu
theorem friends_same {n : Nat} {l : PL} (h : isP n l = true) (a : Nat) : friendR n (adj l a) = friendsI l a := by
  refine isorted_ext (friendR_sorted _ _) (friendsI_sorted h _) fun x => ?_
  obtain ⟨_, _, hm, _⟩ := isP_list h
  simp only [friendR, friendsI, List.mem_map, List.mem_filter, List.mem_range, List.mem_filterMap, adj, Bool.or_eq_true, List.contains_iff_mem]
  constructor
  · rintro ⟨b, ⟨_, hb | hb⟩, rfl⟩
    · exact ⟨_, hb, by simp⟩
    · refine ⟨_, hb, ?_⟩
      have := hm _ hb
      simp only at this ⊢
      rw [if_neg (by omega)]; simp
  · rintro ⟨q, hq, he⟩
    have := hm q hq
    obtain ⟨u, v⟩ := q
    simp only at this he
    split at he
    · rename_i hu
      simp at he
      subst hu
      refine ⟨x.toNat, ⟨by omega, .inl ?_⟩, by omega⟩
      rw [show ((x.toNat : Nat) : Int) = v from by omega]
      exact hq
    · split at he
      · rename_i hv
        simp at he
        subst hv
        refine ⟨x.toNat, ⟨by omega, .inr ?_⟩, by omega⟩
        rw [show ((x.toNat : Nat) : Int) = u from by omega]
        exact hq
      · cases he
theorem friendsI_le (l : PL) (a : Int) : (friendsI l a).length ≤ l.length := List.length_filterMap_le _ _
theorem friendsI_snoc (l : PL) (x y a : Int) : friendsI (l ++ [(x, y)]) a = friendsI l a ++ if x = a then [y] else if y = a then [x] else [] := by
  unfold friendsI
  rw [List.filterMap_append]
  congr 1
  simp only [List.filterMap_cons, List.filterMap_nil]
  by_cases h1 : x = a
  · simp [h1]
  · by_cases h2 : y = a <;> simp [h1, h2]
theorem friendR_snoc (k : Nat) (t : Nat → Bool) : friendR (k + 1) t = friendR k t ++ if t k = true then [(k : Int)] else [] := by
  unfold friendR
  rw [List.range_succ, List.filter_append, List.map_append]
  congr 1
  by_cases h : t k = true <;> simp [h]
theorem friendR_le (k : Nat) (t : Nat → Bool) : (friendR k t).length ≤ k := by
  unfold friendR
  rw [List.length_map]
  exact Nat.le_trans (List.length_filter_le _ _) (by simp)

set_option maxHeartbeats 1000000 in
set_option maxRecDepth 100000 in
theorem paFriends_any (n a : Nat) (t : Nat → Nat → Bool) (A : Option Addr) (c : Nat) (G : Nat → Nat) (B : Nat) (w : World) (hn : n ≤ 12) (ha : a < n) (tab : TabG w B (.slice A n c) n n G t) :
    Calls Tryd.prog 129 #[.slice A n c, .int .i64 a] w fun e w' => ∃ A' c', e = .returned (.slice A' (friendR n (t a)).length c') ∧
      w'.ownsRow w.heap.size 3 1 (.slice A' (friendR n (t a)).length c') (friendR n (t a)).length (icells (friendR n (t a))) ∧ Below w.heap.size w w' := by
  obtain ⟨i0, hi, hz0, hz1, hz2⟩ := info_parts Tryd.infoInt
  obtain ⟨g, rfl⟩ := own_form tab.own (by omega)
  have d0 := tab.outer ha
  have hai : (a : Int) < n := by omega
  go_enter Tryd.func129, Tryd.ntmps129
  go_wp2
  clear d0
  go_loopw [5, 13] (fun v i wr => ∃ k : Nat, k ≤ n ∧ i = .int .i64 k ∧ wr.ownsRow w.heap.size 3 1 v (friendR k (t a)).length (icells (friendR k (t a))) ∧ Below w.heap.size w wr) (fun _ i _ => n - (intOf i).toNat)
  case atStart => exact ⟨0, Nat.zero_le _, rfl, World.ownsRow_nil _ _ _ _, Below.refl _ _⟩
  case round =>
    obtain ⟨k, hk, rfl, hown, hb⟩ := hrel
    have hs := hb.size
    by_cases hlt : k < n
    · have hki : (k : Int) < n := by omega
      have d1 := (tab.below hb (Nat.le_refl _)).cell ha hlt
      have hle := friendR_le k (t a)
      have Hsn := Lib.hid (friendR_snoc k (t a))
      cases ht : t a k with
      | false =>
        rw [ht] at d1
        have Ht := Lib.hid ht
        clear ht
        go_wp2
        go_roundw
        case rel =>
          refine ⟨k + 1, by omega, by go_num, ?_, hb⟩
          rw [Hsn.out, Ht.out]
          simp only [Bool.false_eq_true, if_false, List.append_nil]
          exact hown
        case measure => simp [intOf]; omega
      | true =>
        rw [ht] at d1
        have Ht := Lib.hid ht
        clear ht
        go_wp2_with (at_builtin; refine wpList_append_own _ rfl _ _ 64 rfl w.heap.size 3 i0 _ 1 8 Tryd.underlying64 hi hz0 hz1 hz2 rfl (by decide) _ _ _ rfl (hown.alloc _) ⟨wr.heap.size, 0, none⟩ 1 1 [.int .i64 k] rfl rfl (one_cell (by simp)) (one_one rfl) (by unfold maxLen; omega) (by omega) (by simp; omega) ?_; intro v1 w3 hown3 hg3 _; obtain ⟨A1, d1', rfl, _⟩ := own_shape hown3)
        go_roundw
        case rel =>
          refine ⟨k + 1, by omega, by go_num, ?_, ?_⟩
          · rw [Hsn.out, Ht.out]
            simp only [if_true]
            rw [icells_append, List.length_append]
            exact hown3
          · exact (hb.alloc hs _).grown hg3 (by simp; omega) (fun k hk => (hown.lt k hk).1)
        case measure => simp [intOf]; omega
    · have hkl : n = k := by omega
      subst hkl
      have hge : ¬ ((n : Int) < n) := by omega
      obtain ⟨A', c', rfl, _⟩ := own_shape hown
      have Hown := Lib.hid hown
      clear hown
      go_wp2
      go_ret
      exact ⟨A', c', rfl, Hown.out, hb⟩

def resFriendsOf (p : Int) (l : PL) (a : Int) : List Int × Bool := if isP p l && isMan p a then (friendsI l a, true) else ([], false)
theorem resFriendsOf_len (p : Int) (l : PL) (a : Int) : (resFriendsOf p l a).1.length ≤ 1048576 := by
  unfold resFriendsOf
  split
  · rename_i h
    simp only [Bool.and_eq_true] at h
    have h1 := isP_length h.1
    have h2 := isP_range h.1
    have h3 := people_sq h2.1 h2.2
    have h4 := friendsI_le l a
    show (friendsI l a).length ≤ 1048576
    omega
  · simp

end Go.Proofs.YtefkcfkicmfhlaaDoor
/-
  THE MODEL's DISTANCES of all people from one, by contract.
-/
namespace Go.Proofs.YtefkcfkicmfhlaaDoor
open Go.RowKit

theorem own_built1 (w : World) (a : Int) : (w.alloc (Obj.cells #[.int .i64 a] 3)).ownsRow w.heap.size 3 1 (.slice (some ⟨w.heap.size, 0, none⟩) 1 1) 1 (icells [a]) :=
  ⟨by simp [icells], .inr ⟨w.heap.size, 1, #[.int .i64 a], rfl, Nat.le_refl _, heap_alloc_new w _, Nat.le_refl _, by unfold maxLen; omega, rfl, by simp [icells]⟩⟩
def qcells (Q : List Nat) : List Value := icells (Q.map fun b : Nat => (b : Int))
theorem friendR_at {n j : Nat} {f : Nat → Bool} {x : Int} (h : (friendR n f)[j]? = some x) : ∃ y : Nat, x = y ∧ y < n ∧ f y = true := by
  have := List.mem_of_getElem? h
  unfold friendR at this
  obtain ⟨y, hy, rfl⟩ := List.mem_map.1 this
  obtain ⟨h1, h2⟩ := List.mem_filter.1 hy
  exact ⟨y, rfl, List.mem_range.1 h1, h2⟩
theorem friendR_all {n b : Nat} {f : Nat → Bool} (hb : b < n) (hf : f b = true) : ∃ j : Nat, (friendR n f)[j]? = some (b : Int) := by
  refine List.getElem?_of_mem ?_
  unfold friendR
  exact List.mem_map.2 ⟨b, List.mem_filter.2 ⟨List.mem_range.2 hb, hf⟩, rfl⟩
theorem index_row {gq i m c : Nat} (hi : i < m) (v : World) : (Instr.indexAt 64 (.slice (some ⟨gq, 0, none⟩) m c) (.int .i64 i)).run Tryd.prog v = .ok (.pointer (some ⟨gq, i, none⟩)) v := by
  have h0 : (0 : Int) ≤ i ∧ (i : Int) < m := by omega
  simp [go_sem, Tryd.underlying64, h0, Addr.add]
  omega
end Go.Proofs.YtefkcfkicmfhlaaDoor
/-
  LISTS OF LISTS OF NUMBERS, read; the laws' own comparison of two that are equal.
-/
namespace Go.Proofs.YtefkcfkicmfhlaaDoor
open Go.RowKit

/-- a slice of slices of numbers can be read: its headers, and the rows that they name, lie below B -/
def SRead (w : World) (B : Nat) (A : Option Addr) (LL : List (List Int)) : Prop :=
  ∀ i l, LL[i]? = some l → ∃ b off A' c', A = some ⟨b, off, none⟩ ∧ b < B ∧ w.cell? ⟨b, off + i, none⟩ = some (.slice A' l.length c') ∧ CRead w B A' (icells l)
theorem SRead.below {w w' : World} {B B' : Nat} {A : Option Addr} {LL : List (List Int)} (h : SRead w B A LL) (hb : Below B w w') (hB : B ≤ B') : SRead w' B' A LL := by
  intro i l hi
  obtain ⟨b, off, A', c', e, hlt, hc, hr⟩ := h i l hi
  exact ⟨b, off, A', c', e, by omega, carry hb hc hlt, (hr.below hb (Nat.le_refl _)).more hB⟩

/-- how many numbers lie in the first rows -/
def lens (ns : List Nat) (k : Nat) : Nat := (ns.take k).sum
theorem lens_succ {ns : List Nat} {k n : Nat} (h : ns[k]? = some n) : lens ns (k + 1) = lens ns k + n := by
  unfold lens
  rw [List.take_add_one, h, Option.toList_some, List.sum_append]
  simp
theorem lens_le (ns : List Nat) : ∀ k, lens ns k ≤ ns.sum := by
  intro k
  unfold lens
  have h := congrArg List.sum (List.take_append_drop k ns)
  rw [List.sum_append] at h
  omega
/-- the marks of rows of such lengths, counted on from row to row -/
def rowMarks (k0 : Int) (ns : List Nat) : List (List Int) := (List.range ns.length).map fun i => imarks (k0 + lens ns i) (ns.getD i 0)
theorem rowMarks_length (k0 : Int) (ns : List Nat) : (rowMarks k0 ns).length = ns.length := by simp [rowMarks]
theorem rowMarks_at {k0 : Int} {ns : List Nat} {k n : Nat} (h : ns[k]? = some n) : (rowMarks k0 ns)[k]? = some (imarks (k0 + lens ns k) n) := by
  have hk := (List.getElem?_eq_some_iff.1 h).1
  simp [rowMarks, hk, List.getD_eq_getElem?_getD]
  have := (List.getElem?_eq_some_iff.1 h).2
  rw [this]

end Go.Proofs.YtefkcfkicmfhlaaDoor
/-
  A LIST OF LISTS OF NUMBERS OF THE CALL's OWN: its headers a row, each of its rows a row, all in blocks of their own; 'laws.markIntSS' by its contract.
-/
namespace Go.Proofs.YtefkcfkicmfhlaaDoor
open Go.RowKit

theorem own_apart {w : World} {B B' : Nat} {e e' : TypeId} {s s' n n' : Nat} {v v' : Value} {xs xs' : List Value} (h1 : w.ownsRow B e s v n xs) (h2 : w.ownsRow B' e' s' v' n' xs') (hne : e ≠ e') : v.ownBlock = none ∨ v.ownBlock ≠ v'.ownBlock := by
  rcases h1.2 with ⟨rfl, _⟩ | ⟨g, cap, cur, rfl, _, hh, _⟩
  · left; simp [Value.ownBlock]
  · right
    rcases h2.2 with ⟨rfl, _⟩ | ⟨g', cap', cur', rfl, _, hh', _⟩
    · simp [Value.ownBlock]
    · intro e3
      have e4 : g = g' := by simpa [Value.ownBlock] using e3
      subst e4
      rw [hh] at hh'
      injection hh' with h
      injection h with _ ht
      exact hne ht

/-- n rows of numbers, row i under the slice (R i, N i, C i) -/
structure RowsG (w : World) (B : Nat) (v : Value) (n : Nat) (R : Nat → Option Addr) (C N : Nat → Nat) (F : Nat → List Int) : Prop where
  own : w.ownsRow B 64 1 v n ((List.range n).map fun i => Value.slice (R i) (N i) (C i))
  row : ∀ i, i < n → (F i).length = N i ∧ w.ownsRow B 3 1 (.slice (R i) (N i) (C i)) (N i) (icells (F i))
  apart : ∀ i j, i < n → j < n → i ≠ j → (Value.slice (R i) (N i) (C i)).ownBlock = none ∨ (Value.slice (R i) (N i) (C i)).ownBlock ≠ (Value.slice (R j) (N j) (C j)).ownBlock
section
variable {w w' : World} {B n : Nat} {v : Value} {R : Nat → Option Addr} {C N : Nat → Nat} {F F' : Nat → List Int}
theorem RowsG.congr (h : RowsG w B v n R C N F) (e : ∀ i, i < n → F i = F' i) : RowsG w B v n R C N F' :=
  ⟨h.own, fun i hi => by rw [← e i hi]; exact h.row i hi, h.apart⟩
theorem RowsG.kept (h : RowsG w B v n R C N F) (hg : w.grownBy w' none) : RowsG w' B v n R C N F :=
  ⟨h.own.kept hg (by cases v.ownBlock <;> simp), fun i hi => ⟨(h.row i hi).1, (h.row i hi).2.kept hg (by cases (Value.slice (R i) (N i) (C i)).ownBlock <;> simp)⟩, h.apart⟩
/-- another row i of the same length -/
theorem RowsG.set (h : RowsG w B v n R C N F) {k : Nat} (hk : k < n) {l : List Int} (hl : l.length = N k) (hg : w.grownBy w' (Value.slice (R k) (N k) (C k)).ownBlock) (ho : w'.ownsRow B 3 1 (.slice (R k) (N k) (C k)) (N k) (icells l)) :
    RowsG w' B v n R C N (fun i => if i = k then l else F i) := by
  refine ⟨h.own.kept hg (own_apart h.own (h.row k hk).2 (by decide)), fun i hi => ?_, h.apart⟩
  by_cases e : i = k
  · subst e
    simp only [if_true]
    exact ⟨hl, ho⟩
  · simp only [if_neg e]
    exact ⟨(h.row i hi).1, (h.row i hi).2.kept hg (h.apart i k hi hk e)⟩
theorem RowsG.read {A : Option Addr} {c : Nat} {LL : List (List Int)} (h : RowsG w B (.slice A n c) n R C N F) (hn : LL.length = n) (hL : ∀ i l, LL[i]? = some l → F i = l) : SRead w w.heap.size A LL := by
  intro i l hi
  have hin : i < n := by have := (List.getElem?_eq_some_iff.1 hi).1; omega
  obtain ⟨g, rfl⟩ := own_form h.own (by omega)
  obtain ⟨h1, h2⟩ := h.row i hin
  rw [hL i l hi] at h1 h2
  refine ⟨g, 0, R i, C i, rfl, (own_lt h.own).2, ?_, CRead.of_own h2⟩
  rw [Nat.zero_add, h.own.cellAt i (by omega)]
  simp [hin, h1]
end

end Go.Proofs.YtefkcfkicmfhlaaDoor
/-
  A LIST OF LISTS OF NUMBERS OF THE CALL's OWN: a row of none put behind it, and a number put behind one of its rows.
-/
namespace Go.Proofs.YtefkcfkicmfhlaaDoor
open Go.RowKit

section
variable {w w' w2 : World} {B n : Nat} {v v' : Value} {R : Nat → Option Addr} {C N : Nat → Nat} {F : Nat → List Int}
def upN {α : Type} (f : Nat → α) (k : Nat) (x : α) : Nat → α := fun i => if i = k then x else f i
theorem upN_self {α : Type} (f : Nat → α) (k : Nat) (x : α) : upN f k x k = x := by simp [upN]
theorem upN_ne {α : Type} (f : Nat → α) {k i : Nat} (x : α) (h : i ≠ k) : upN f k x i = f i := by simp [upN, h]
/-- behind an append of one header, nil -/
theorem RowsG.push (h : RowsG w B v n R C N F) (hg : w.grownBy w' v.ownBlock) (ho : w'.ownsRow B 64 1 v' (n + 1) (((List.range n).map fun i => Value.slice (R i) (N i) (C i)) ++ [.slice none 0 0])) :
    RowsG w' B v' (n + 1) (upN R n none) (upN C n 0) (upN N n 0) (upN F n []) := by
  refine ⟨?_, fun i hi => ?_, fun i j hi hj hij => ?_⟩
  · rw [List.range_succ, List.map_append, List.map_singleton, upN_self, upN_self, upN_self]
    rw [List.map_congr_left (g := fun i => Value.slice (R i) (N i) (C i)) fun i hi => by
      have : i ≠ n := by have := List.mem_range.1 hi; omega
      rw [upN_ne _ _ this, upN_ne _ _ this, upN_ne _ _ this]]
    exact ho
  · by_cases e : i = n
    · subst e
      simp only [upN_self]
      exact ⟨rfl, World.ownsRow_nil _ _ _ _⟩
    · simp only [upN_ne _ _ e]
      have hin : i < n := by omega
      exact ⟨(h.row i hin).1, (h.row i hin).2.kept hg (own_apart (h.row i hin).2 h.own (by decide))⟩
  · by_cases e : i = n
    · subst e
      simp only [upN_self]
      left; simp [Value.ownBlock]
    · simp only [upN_ne _ _ e]
      by_cases e2 : j = n
      · subst e2
        simp only [upN_self]
        cases hq : (Value.slice (R i) (N i) (C i)).ownBlock with
        | none => exact .inl rfl
        | some b => right; simp [Value.ownBlock]
      · simp only [upN_ne _ _ e2]
        exact h.apart i j (by omega) (by omega) hij
theorem map_range_set {α : Type} (f : Nat → α) (k : Nat) (x : α) (n : Nat) : ((List.range n).map f).set k x = (List.range n).map (upN f k x) := by
  apply List.ext_getElem (by simp)
  intro j h1 h2
  rw [List.getElem_set]
  simp only [List.getElem_map, List.getElem_range]
  by_cases e : k = j
  · subst e; simp [upN]
  · rw [if_neg e, upN_ne _ _ (fun h => e h.symm)]
/-- behind an append of a number to row k and the store of its header -/
theorem RowsG.grow {g c : Nat} (h : RowsG w B (.slice (some ⟨g, 0, none⟩) n c) n R C N F) {k : Nat} (hk : k < n) {x : Int} {b d : Nat}
    (hg : w.grownBy w2 (Value.slice (R k) (N k) (C k)).ownBlock) (ho : w2.ownsRow B 3 1 (.slice (some ⟨b, 0, none⟩) (N k + 1) d) (N k + 1) (icells (F k) ++ [.int .i64 x]))
    (hat : (Value.slice (R k) (N k) (C k)).ownBlock = some b ∨ b = w.heap.size) :
    RowsG (w2.setCell ⟨g, k, none⟩ (.slice (some ⟨b, 0, none⟩) (N k + 1) d)) B (.slice (some ⟨g, 0, none⟩) n c) n (upN R k (some ⟨b, 0, none⟩)) (upN C k d) (upN N k (N k + 1)) (upN F k (F k ++ [x])) := by
  have own2 := h.own.kept hg (own_apart h.own (h.row k hk).2 (by decide))
  have hst := own2.stored k (.slice (some ⟨b, 0, none⟩) (N k + 1) d)
  have hob : (Value.slice (some ⟨g, 0, none⟩) n c).ownBlock = some g := by simp [Value.ownBlock]
  refine ⟨?_, fun i hi => ?_, fun i j hi hj hij => ?_⟩
  · have h1 := hst.1
    rw [map_range_set] at h1
    rw [List.map_congr_left (g := upN (fun i => Value.slice (R i) (N i) (C i)) k (.slice (some ⟨b, 0, none⟩) (N k + 1) d)) fun i _ => by
      by_cases e : i = k
      · subst e; simp only [upN_self]
      · simp only [upN_ne _ _ e]]
    exact h1
  · by_cases e : i = k
    · subst e
      simp only [upN_self]
      refine ⟨by rw [List.length_append, (h.row i hi).1]; rfl, ?_⟩
      rw [icells_append]
      refine World.ownsRow.kept ho hst.2 ?_
      rw [← hob]
      exact own_apart ho own2 (by decide)
    · simp only [upN_ne _ _ e]
      have hr := (h.row i hi).2.kept hg (h.apart i k hi hk e)
      refine ⟨(h.row i hi).1, hr.kept hst.2 ?_⟩
      rw [← hob]
      exact own_apart hr own2 (by decide)
  · have hlt : ∀ i, i < n → ∀ m, (Value.slice (R i) (N i) (C i)).ownBlock = some m → m < w.heap.size := fun i hi m hm => ((h.row i hi).2.lt m hm).2
    have hbn : (Value.slice (some ⟨b, 0, none⟩) (N k + 1) d).ownBlock = some b := by simp [Value.ownBlock]
    by_cases e : i = k
    · subst e
      simp only [upN_self, upN_ne _ _ (fun h => hij h.symm), hbn]
      right
      intro e2
      rcases hat with h1 | h1
      · rcases h.apart i j hi hj hij with h2 | h2
        · rw [h1] at h2; cases h2
        · exact h2 (h1.trans e2)
      · have := hlt j hj b e2.symm
        omega
    · by_cases e2 : j = k
      · subst e2
        simp only [upN_self, upN_ne _ _ e, hbn]
        cases hq : (Value.slice (R i) (N i) (C i)).ownBlock with
        | none => exact .inl rfl
        | some m =>
          right
          intro e3
          have e4 : m = b := by simpa using e3
          subst e4
          rcases hat with h1 | h1
          · rcases h.apart i j hi hj hij with h2 | h2
            · rw [hq] at h2; cases h2
            · exact h2 (hq.trans h1.symm)
          · have := hlt i hi m hq
            omega
      · simp only [upN_ne _ _ e, upN_ne _ _ e2]
        exact h.apart i j hi hj hij
end
end Go.Proofs.YtefkcfkicmfhlaaDoor
/-
  LISTS OF LISTS OF NUMBERS AS RESULTS: rows of the call's own, apart from each other; what the laws' marking and counting need of them.
-/
namespace Go.Proofs.YtefkcfkicmfhlaaDoor
open Go.RowKit

/-- the rows of a list of lists, each in a block of its own -/
def RowsL (w : World) (B : Nat) (v : Value) (LL : List (List Int)) (R : Nat → Option Addr) (C : Nat → Nat) : Prop :=
  RowsG w B v LL.length R C (fun i => (LL.getD i []).length) (fun i => LL.getD i [])
section
variable {w w' : World} {B n : Nat} {v v' : Value} {R : Nat → Option Addr} {C N : Nat → Nat} {F F' : Nat → List Int} {LL : List (List Int)}
theorem RowsG.below (h : RowsG w B v n R C N F) (hb : Below w.heap.size w w') : RowsG w' B v n R C N F :=
  ⟨own_below h.own hb (Nat.le_refl _), fun i hi => ⟨(h.row i hi).1, own_below (h.row i hi).2 hb (Nat.le_refl _)⟩, h.apart⟩
theorem RowsG.lower {B' : Nat} (h : RowsG w B v n R C N F) (hB : B' ≤ B) : RowsG w B' v n R C N F :=
  ⟨own_lower h.own hB, fun i hi => ⟨(h.row i hi).1, own_lower (h.row i hi).2 hB⟩, h.apart⟩
theorem own_from {e : TypeId} {s m : Nat} {u : Value} {xs : List Value} (h : w.ownsRow B e s u m xs) {x : Value} {lo hi : Nat} (hl : Lies x lo hi) (hB : hi ≤ B) : u.ownBlock = none ∨ u.ownBlock ≠ x.ownBlock := by
  cases e1 : u.ownBlock with
  | none => exact .inl rfl
  | some k =>
    right
    intro e2
    have h1 := (h.lt k e1).1
    have h2 := (hl k e2.symm).2
    omega
theorem RowsG.keptG (h : RowsG w B v n R C N F) {x : Value} {lo hi : Nat} (hg : w.grownBy w' x.ownBlock) (hl : Lies x lo hi) (hB : hi ≤ B) : RowsG w' B v n R C N F :=
  ⟨h.own.kept hg (own_from h.own hl hB), fun i hi => ⟨(h.row i hi).1, (h.row i hi).2.kept hg (own_from (h.row i hi).2 hl hB)⟩, h.apart⟩
theorem RowsL.none (w : World) (B : Nat) : RowsL w B (Value.slice Option.none 0 0) [] (fun _ => Option.none) (fun _ => 0) :=
  ⟨World.ownsRow_nil _ _ _ _, fun _ hi => absurd hi (Nat.not_lt_zero _), fun _ _ hi => absurd hi (Nat.not_lt_zero _)⟩
theorem getD_of {i : Nat} {l : List Int} (h : LL[i]? = some l) : LL.getD i [] = l := by rw [List.getD_eq_getElem?_getD, h]; rfl
theorem RowsL.below (h : RowsL w B v LL R C) (hb : Below w.heap.size w w') : RowsL w' B v LL R C := RowsG.below h hb
theorem RowsL.lower {B' : Nat} (h : RowsL w B v LL R C) (hB : B' ≤ B) : RowsL w B' v LL R C := RowsG.lower h hB
theorem RowsL.keptG (h : RowsL w B v LL R C) {x : Value} {lo hi : Nat} (hg : w.grownBy w' x.ownBlock) (hl : Lies x lo hi) (hB : hi ≤ B) : RowsL w' B v LL R C := RowsG.keptG h hg hl hB
theorem SRead.more {A : Option Addr} {B' : Nat} (h : SRead w B A LL) (hB : B ≤ B') : SRead w B' A LL := by
  intro i l hi
  obtain ⟨b, off, A', c', e, hlt, hc, hr⟩ := h i l hi
  exact ⟨b, off, A', c', e, by omega, hc, hr.more hB⟩
theorem RowsL.read {A : Option Addr} {c : Nat} (h : RowsL w B (.slice A LL.length c) LL R C) : SRead w w.heap.size A LL := RowsG.read h rfl fun _ _ hi => getD_of hi
/-- a row of its own put behind them, and its header -/
theorem RowsL.push (h : RowsL w B v LL R C) {l : List Int} {A : Option Addr} {c : Nat} (hr : w.ownsRow B 3 1 (.slice A l.length c) l.length (icells l))
    (hap : ∀ i, i < LL.length → (Value.slice (R i) (LL.getD i []).length (C i)).ownBlock = Option.none ∨ (Value.slice (R i) (LL.getD i []).length (C i)).ownBlock ≠ (Value.slice A l.length c).ownBlock)
    (hg : w.grownBy w' v.ownBlock) (ho : w'.ownsRow B 64 1 v' (LL.length + 1) (((List.range LL.length).map fun i => Value.slice (R i) (LL.getD i []).length (C i)) ++ [.slice A l.length c])) :
    RowsL w' B v' (LL ++ [l]) (upN R LL.length A) (upN C LL.length c) := by
  have hne : ∀ i, i < LL.length → (LL ++ [l]).getD i [] = LL.getD i [] := fun i hi => by
    rw [List.getD_eq_getElem?_getD, List.getD_eq_getElem?_getD, List.getElem?_append_left hi]
  have heq : (LL ++ [l]).getD LL.length [] = l := by rw [List.getD_eq_getElem?_getD]; simp
  unfold RowsL
  rw [List.length_append, List.length_singleton]
  refine ⟨?_, fun i hi => ?_, fun i j hi hj hij => ?_⟩
  · rw [List.range_succ, List.map_append, List.map_singleton, upN_self, upN_self, heq]
    rw [List.map_congr_left (g := fun i => Value.slice (R i) (LL.getD i []).length (C i)) fun i hi => by
      have := List.mem_range.1 hi
      rw [upN_ne _ _ (by omega), upN_ne _ _ (by omega), hne i this]]
    exact ho
  · by_cases e : i = LL.length
    · subst e
      simp only [upN_self, heq]
      exact ⟨trivial, hr.kept hg (own_apart hr h.own (by decide))⟩
    · have hin : i < LL.length := by omega
      simp only [upN_ne _ _ e, hne i hin]
      exact ⟨trivial, (h.row i hin).2.kept hg (own_apart (h.row i hin).2 h.own (by decide))⟩
  · by_cases e : i = LL.length
    · subst e
      have hjn : j < LL.length := by omega
      simp only [upN_self, upN_ne _ _ (show j ≠ LL.length by omega), heq, hne j hjn]
      cases hq : (Value.slice A l.length c).ownBlock with
      | none => exact .inl rfl
      | some b =>
        right
        intro e2
        rcases hap j hjn with h3 | h3
        · rw [h3] at e2; cases e2
        · rw [hq] at h3; exact h3 e2.symm
    · have hin : i < LL.length := by omega
      by_cases e2 : j = LL.length
      · subst e2
        simp only [upN_self, upN_ne _ _ e, heq, hne i hin]
        exact hap i hin
      · have hjn : j < LL.length := by omega
        simp only [upN_ne _ _ e, upN_ne _ _ e2, hne i hin, hne j hjn]
        exact h.apart i j hin hjn hij
/-- a row made behind a world is apart from the rows of that world -/
theorem RowsL.fresh (h : RowsL w B v LL R C) {x : Value} {lo hi : Nat} (hx : Lies x lo hi) (hlo : w.heap.size ≤ lo) : ∀ i, i < LL.length → (Value.slice (R i) (LL.getD i []).length (C i)).ownBlock = Option.none ∨ (Value.slice (R i) (LL.getD i []).length (C i)).ownBlock ≠ x.ownBlock := by
  intro i hi
  cases e1 : (Value.slice (R i) (LL.getD i []).length (C i)).ownBlock with
  | none => exact .inl rfl
  | some k =>
    right
    intro e2
    have h1 := ((h.row i hi).2.lt k e1).2
    have h2 := (hx k e2.symm).1
    omega
theorem LRows.read {A : Option Addr} {c : Nat} {hs : List Value} (h : LRows w B (.slice A LL.length c) LL hs) : SRead w w.heap.size A LL := by
  intro i l hi
  have hin : i < LL.length := (List.getElem?_eq_some_iff.1 hi).1
  obtain ⟨g, rfl⟩ := own_form h.own (by omega)
  obtain ⟨A', c', e, o⟩ := h.row i l hi
  refine ⟨g, 0, A', c', rfl, (own_lt h.own).2, ?_, CRead.of_own o⟩
  rw [Nat.zero_add, h.own.cellAt i (by omega)]
  exact e
end
/-- how many numbers lie in all rows -/
def sumL (LL : List (List Int)) : Nat := (LL.map List.length).sum
theorem sumL_row {LL : List (List Int)} {l : List Int} (h : l ∈ LL) : l.length ≤ sumL LL := by
  unfold sumL
  induction LL with
  | nil => cases h
  | cons x LL ih =>
    simp only [List.map_cons, List.sum_cons]
    rcases List.mem_cons.1 h with rfl | h
    · omega
    · have := ih h; omega
theorem sumL_le {LL : List (List Int)} {m : Nat} (h : ∀ l ∈ LL, l.length ≤ m) : sumL LL ≤ LL.length * m := by
  unfold sumL
  induction LL with
  | nil => simp
  | cons x LL ih =>
    simp only [List.map_cons, List.sum_cons, List.length_cons]
    have h1 := h x List.mem_cons_self
    have h2 := ih fun l hl => h l (List.mem_cons_of_mem _ hl)
    rw [Nat.add_mul]
    omega
theorem lens_at (LL : List (List Int)) (i : Nat) : (LL.map List.length).getD i 0 = (LL.getD i []).length := by
  rw [List.getD_eq_getElem?_getD, List.getD_eq_getElem?_getD, List.getElem?_map]
  cases LL[i]? <;> rfl
/-- the rows are marked, counted on from k0 -/
def MarkedL (w : World) (B : Nat) (v : Value) (LL : List (List Int)) (k0 : Int) (R : Nat → Option Addr) (C : Nat → Nat) : Prop :=
  RowsG w B v LL.length R C (fun i => (LL.getD i []).length) (fun i => imarks (k0 + lens (LL.map List.length) i) (LL.getD i []).length)
theorem MarkedL.below {w w' : World} {B : Nat} {v : Value} {LL : List (List Int)} {k0 : Int} {R : Nat → Option Addr} {C : Nat → Nat} (h : MarkedL w B v LL k0 R C) (hb : Below w.heap.size w w') : MarkedL w' B v LL k0 R C := RowsG.below h hb
/-- A call came back with lists of numbers, and whether it did. -/
def GotRowsOk (w : World) (LL : List (List Int)) (ok : Bool) (e : Ending) (w' : World) : Prop :=
  ∃ A c R C, e = .returned (.tuple #[.slice A LL.length c, .bool ok]) ∧ RowsL w' w.heap.size (.slice A LL.length c) LL R C ∧ Below w.heap.size w w'
/-- the same of the model's: that they can be read is enough -/
def ReadRowsOk (w : World) (LL : List (List Int)) (ok : Bool) (e : Ending) (w' : World) : Prop :=
  ∃ A c, e = .returned (.tuple #[.slice A LL.length c, .bool ok]) ∧ SRead w' w'.heap.size A LL ∧ Below w.heap.size w w'
theorem SRead.nil (w : World) (B : Nat) (A : Option Addr) : SRead w B A [] := fun i l h => by simp at h
end Go.Proofs.YtefkcfkicmfhlaaDoor
