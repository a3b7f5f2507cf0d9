/-
  HOW MANY GROUPS HAVE A PERSON, AND HOW MANY THERE ARE. Nothing here speaks of the program.
-/
import Derived.Test.YtgccapdjhnejcaaDoorNumsT
namespace Go.Proofs.YtgccapdjhnejcaaDoor
open Go.RowKit

theorem subsC_len (t : Nat → Nat → Bool) : ∀ (told : List Int) (cs : List Nat), (subsC t told cs).length = (subsC t [] cs).length := by
  intro told cs
  induction h : cs.length using Nat.strongRecOn generalizing told cs with
  | _ n ih =>
    match cs with
    | [] => rw [subsC_nil, subsC_nil]
    | a :: cs =>
      simp only [List.length_cons] at h
      have h0 : (cs.filter (t a)).length ≤ cs.length := List.length_filter_le _ _
      rw [subsC_cons, subsC_cons, List.length_cons, List.length_cons, List.length_append, List.length_append, ih _ (by omega) (told ++ [(a : Int)]) _ rfl, ih _ (by omega) told cs rfl, ih _ (by omega) ([] ++ [(a : Int)]) _ rfl]
theorem subsC_mem (t : Nat → Nat → Bool) : ∀ (told : List Int) (cs : List Nat), ∀ l ∈ subsC t told cs, ∀ x ∈ l, x ∈ told ∨ ∃ b ∈ cs, x = ((b : Nat) : Int) := by
  intro told cs l hl x hx
  have h1 := subsC_longer t told cs l hl
  have h2 : l ∈ listsC t (l.length - told.length) told cs := by
    rw [← subsC_size]
    exact List.mem_filter.2 ⟨List.mem_cons_of_mem _ hl, by simp; omega⟩
  exact listsC_mem t _ told cs l h2 x hx
theorem subsC_told (t : Nat → Nat → Bool) (told : List Int) (cs : List Nat) : ∀ l ∈ subsC t told cs, ∀ x ∈ told, x ∈ l := by
  intro l hl x hx
  have h1 := subsC_longer t told cs l hl
  have h2 : l ∈ listsC t (l.length - told.length) told cs := by
    rw [← subsC_size]
    exact List.mem_filter.2 ⟨List.mem_cons_of_mem _ hl, by simp; omega⟩
  rw [listsC_told] at h2
  obtain ⟨m, _, e⟩ := List.mem_map.1 h2
  rw [← e]
  exact List.mem_append_left _ hx
theorem hasN_cons (x : List Int) (L : List (List Int)) (a : Nat) : hasN (x :: L) a = hasN L a + (if hasI x a then 1 else 0) := by simp [hasN, List.countP_cons]
theorem hasN_subs_none {t : Nat → Nat → Bool} {told : List Int} {cs : List Nat} {a : Nat} (h0 : (a : Int) ∉ told) (h : a ∉ cs) : hasN (subsC t told cs) a = 0 := by
  refine List.countP_eq_zero.2 fun l hl hc => ?_
  rcases subsC_mem t told cs l hl _ (hasI_mem.1 hc) with h1 | ⟨b, hb, h1⟩
  · exact h0 h1
  · have : a = b := by omega
    exact h (this ▸ hb)
theorem hasN_subs_all {t : Nat → Nat → Bool} {told : List Int} {cs : List Nat} {a : Nat} (h0 : (a : Int) ∈ told) : hasN (subsC t told cs) a = (subsC t told cs).length :=
  List.countP_eq_length.2 fun l hl => hasI_mem.2 (subsC_told t told cs l hl _ h0)
theorem hasN_subs {t : Nat → Nat → Bool} (hsym : ∀ i j, t i j = t j i) {a : Nat} (hirr : t a a = false) : ∀ (told : List Int) (cs : List Nat),
    cs.Pairwise (· < ·) → a ∈ cs → (a : Int) ∉ told → hasN (subsC t told cs) a = (subsC t [] (cs.filter (t a))).length + 1 := by
  intro told cs
  induction h : cs.length using Nat.strongRecOn generalizing told cs with
  | _ n ih =>
    intro hs ha h0
    match cs with
    | [] => simp at ha
    | x :: cs =>
      simp only [List.length_cons] at h
      obtain ⟨hx, hs'⟩ := List.pairwise_cons.1 hs
      have hl0 : (cs.filter (t x)).length ≤ cs.length := List.length_filter_le _ _
      rw [subsC_cons, hasN_cons, hasN_append]
      by_cases e : x = a
      · subst e
        have hn : x ∉ cs := fun hc => by have := hx x hc; omega
        rw [hasN_subs_all (by simp), hasN_subs_none h0 hn, subsC_len, List.filter_cons_of_neg (by simp [hirr]), if_pos (hasI_mem.2 (by simp))]
      · have ha' : a ∈ cs := by rcases List.mem_cons.1 ha with h | h; exact absurd h.symm e; exact h
        have h1 : (a : Int) ∉ told ++ [(x : Int)] := by simp [h0]; omega
        rw [ih cs.length (by omega) told cs rfl hs' ha' h0, if_neg (fun hc => h1 (hasI_mem.1 hc))]
        cases hxa : t x a with
        | true =>
          have hax : t a x = true := by rw [hsym, hxa]
          rw [ih (cs.filter (t x)).length (by omega) _ _ rfl (hs'.filter _) (List.mem_filter.2 ⟨ha', hxa⟩) h1, List.filter_cons_of_pos hax, subsC_cons, List.length_cons, List.length_append, subsC_len t ([] ++ [(x : Int)])]
          rw [show (cs.filter (t x)).filter (t a) = (cs.filter (t a)).filter (t x) from by rw [List.filter_filter, List.filter_filter]; exact List.filter_congr fun b _ => Bool.and_comm _ _]
          omega
        | false =>
          have hax : ¬ t a x = true := by rw [hsym, hxa]; simp
          rw [hasN_subs_none h1 (fun hc => by have := (List.mem_filter.1 hc).2; simp [hxa] at this), List.filter_cons_of_neg hax]
          omega
theorem count_sizes (L : List (List Int)) : ∀ (K : Nat), sumI ((List.range K).map fun k => ((L.filter (fun l => l.length == k)).length : Int)) = ((L.countP fun l => decide (l.length < K) : Nat) : Int) := by
  intro K
  induction K with
  | zero => simp [sumI]
  | succ K ih =>
    rw [List.range_succ, List.map_append, List.map_singleton, sumI_snoc, ih]
    have : L.countP (fun l => decide (l.length < K + 1)) = L.countP (fun l => decide (l.length < K)) + (L.filter (fun l => l.length == K)).length := by
      clear ih
      induction L with
      | nil => simp
      | cons x L ihL =>
        rw [List.countP_cons, List.countP_cons, ihL, List.filter_cons]
        by_cases h1 : x.length < K
        · have h3 : ¬ x.length = K := by omega
          have h4 : x.length < K + 1 := by omega
          simp only [h1, h3, h4, beq_iff_eq, decide_true, if_true, if_false]
          omega
        · by_cases h2 : x.length = K
          · simp [h2]; omega
          · have : ¬ x.length < K + 1 := by omega
            simp [h1, h2, this]
    rw [this]
    omega
theorem sum_numsK (t : Nat → Nat → Bool) (cs : List Nat) : sumI (numsK t cs (topK t cs)) = ((subsC t [] cs).length : Int) + 1 := by
  have h1 := count_sizes ([] :: subsC t [] cs) (topK t cs)
  have h2 : ∀ k, ([] :: subsC t [] cs).filter (fun l => l.length == k) = listsC t k [] cs := fun k => by
    have := subsC_size t k [] cs
    simpa using this
  have h3 : ([] :: subsC t [] cs).countP (fun l => decide (l.length < topK t cs)) = ([] :: subsC t [] cs).length := List.countP_eq_length.2 fun l hl => by
    refine decide_eq_true (Nat.lt_of_not_le fun hle => ?_)
    have := (subsC_has (t := t) (cs := cs) (k := l.length)).2 ⟨l, hl, rfl⟩
    rw [topK_over hle] at this
    simp at this
  simp only [h2] at h1
  rw [numsK, h1, h3]
  simp
theorem numsK_small {t : Nat → Nat → Bool} {j : Nat} {cs : List Nat} (hset : IsSet j cs) (hcs : ∀ b ∈ cs, b < 12) : smallI (numsK t cs (topK t cs)) := by
  have h1 := set_len hset hcs
  have h2 := topK_le t cs
  refine ⟨by rw [numsK_length]; omega, fun x hx => ?_⟩
  obtain ⟨k, _, rfl⟩ := List.mem_map.1 hx
  have := lists_few (t := t) (k := k) (told := []) hset hcs
  omega
end Go.Proofs.YtgccapdjhnejcaaDoor
