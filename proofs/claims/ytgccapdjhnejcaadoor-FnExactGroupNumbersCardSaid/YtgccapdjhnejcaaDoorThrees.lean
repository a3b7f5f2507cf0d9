/-
  HOW MANY LISTS OF TIED PEOPLE HAVE A PERSON. Nothing here speaks of the program.
-/
import Derived.Test.YtgccapdjhnejcaaDoorTiedP
import Derived.Test.YtgccapdjhnejcaaDoorHas
namespace Go.Proofs.YtgccapdjhnejcaaDoor
open Go.RowKit

theorem listsC_told (t : Nat → Nat → Bool) : ∀ (k : Nat) (told : List Int) (cs : List Nat), listsC t k told cs = (listsC t k [] cs).map (told ++ ·) := by
  intro k told cs
  induction h : k + cs.length using Nat.strongRecOn generalizing k told cs with
  | _ n ih =>
    match k, cs with
    | 0, cs => rw [listsC_zero, listsC_zero]; simp
    | k + 1, [] => rw [listsC_nil, listsC_nil]; rfl
    | k + 1, a :: cs =>
      simp only [List.length_cons] at h
      have h0 : (cs.filter (t a)).length ≤ cs.length := List.length_filter_le _ _
      rw [listsC_cons, listsC_cons, List.map_append, ih (k + (cs.filter (t a)).length) (by omega) k (told ++ [(a : Int)]) _ rfl, ih (k + 1 + cs.length) (by omega) (k + 1) told cs rfl,
        ih (k + (cs.filter (t a)).length) (by omega) k ([] ++ [(a : Int)]) _ rfl, List.map_map]
      congr 1
      refine List.map_congr_left fun x _ => ?_
      simp
theorem listsC_len (t : Nat → Nat → Bool) (k : Nat) (told : List Int) (cs : List Nat) : (listsC t k told cs).length = (listsC t k [] cs).length := by rw [listsC_told, List.length_map]
theorem listsC_size (t : Nat → Nat → Bool) : ∀ (k : Nat) (told : List Int) (cs : List Nat), ∀ l ∈ listsC t k told cs, l.length = told.length + k := by
  intro k told cs
  induction h : k + cs.length using Nat.strongRecOn generalizing k told cs with
  | _ n ih =>
    match k, cs with
    | 0, cs => rw [listsC_zero]; simp
    | k + 1, [] => rw [listsC_nil]; simp
    | k + 1, a :: cs =>
      simp only [List.length_cons] at h
      have h0 : (cs.filter (t a)).length ≤ cs.length := List.length_filter_le _ _
      rw [listsC_cons]
      intro l hl
      rcases List.mem_append.1 hl with hl | hl
      · have := ih (k + (cs.filter (t a)).length) (by omega) k _ _ rfl l hl
        simp at this
        omega
      · have := ih (k + 1 + cs.length) (by omega) (k + 1) _ _ rfl l hl
        omega
/-- whom a list has -/
theorem listsC_mem (t : Nat → Nat → Bool) : ∀ (k : Nat) (told : List Int) (cs : List Nat), ∀ l ∈ listsC t k told cs, ∀ x ∈ l, x ∈ told ∨ ∃ b ∈ cs, x = ((b : Nat) : Int) := by
  intro k told cs
  induction h : k + cs.length using Nat.strongRecOn generalizing k told cs with
  | _ n ih =>
    match k, cs with
    | 0, cs => rw [listsC_zero]; intro l hl x hx; simp at hl; subst hl; exact .inl hx
    | k + 1, [] => rw [listsC_nil]; simp
    | k + 1, a :: cs =>
      simp only [List.length_cons] at h
      have h0 : (cs.filter (t a)).length ≤ cs.length := List.length_filter_le _ _
      rw [listsC_cons]
      intro l hl x hx
      rcases List.mem_append.1 hl with hl | hl
      · rcases ih (k + (cs.filter (t a)).length) (by omega) k _ _ rfl l hl x hx with h1 | ⟨b, hb, h1⟩
        · rcases List.mem_append.1 h1 with h1 | h1
          · exact .inl h1
          · simp at h1
            exact .inr ⟨a, by simp, h1⟩
        · exact .inr ⟨b, by simp [(List.mem_filter.1 hb).1], h1⟩
      · rcases ih (k + 1 + cs.length) (by omega) (k + 1) _ _ rfl l hl x hx with h1 | ⟨b, hb, h1⟩
        · exact .inl h1
        · exact .inr ⟨b, by simp [hb], h1⟩
/-- how many lists have a person -/
def hasN (L : List (List Int)) (a : Nat) : Nat := L.countP (hasI · a)
theorem hasN_append (L M : List (List Int)) (a : Nat) : hasN (L ++ M) a = hasN L a + hasN M a := List.countP_append
theorem hasN_none {t : Nat → Nat → Bool} {k : Nat} {told : List Int} {cs : List Nat} {a : Nat} (h0 : (a : Int) ∉ told) (h : a ∉ cs) : hasN (listsC t k told cs) a = 0 := by
  refine List.countP_eq_zero.2 fun l hl hc => ?_
  rcases listsC_mem t k told cs l hl _ (hasI_mem.1 hc) with h1 | ⟨b, hb, h1⟩
  · exact h0 h1
  · have : a = b := by omega
    exact h (this ▸ hb)
theorem hasN_all {t : Nat → Nat → Bool} {k : Nat} {told : List Int} {cs : List Nat} {a : Nat} (h0 : (a : Int) ∈ told) : hasN (listsC t k told cs) a = (listsC t k told cs).length := by
  refine List.countP_eq_length.2 fun l hl => ?_
  rw [listsC_told] at hl
  obtain ⟨m, _, rfl⟩ := List.mem_map.1 hl
  exact hasI_mem.2 (List.mem_append_left _ h0)
theorem hasN_listsC {t : Nat → Nat → Bool} (hsym : ∀ i j, t i j = t j i) {a : Nat} (hirr : t a a = false) : ∀ (k : Nat) (told : List Int) (cs : List Nat),
    cs.Pairwise (· < ·) → a ∈ cs → (a : Int) ∉ told → hasN (listsC t (k + 1) told cs) a = (listsC t k [] (cs.filter (t a))).length := by
  intro k told cs
  induction h : k + cs.length using Nat.strongRecOn generalizing k told cs with
  | _ n ih =>
    intro hs ha h0
    match cs with
    | [] => simp at ha
    | x :: cs =>
      simp only [List.length_cons] at h
      obtain ⟨hx, hs'⟩ := List.pairwise_cons.1 hs
      have hl0 : (cs.filter (t x)).length ≤ cs.length := List.length_filter_le _ _
      rw [listsC_cons, hasN_append]
      by_cases e : x = a
      · subst e
        have hn : x ∉ cs := fun hc => by have := hx x hc; omega
        rw [hasN_all (by simp), hasN_none h0 hn, listsC_len, List.filter_cons_of_neg (by simp [hirr])]
        omega
      · have ha' : a ∈ cs := by rcases List.mem_cons.1 ha with h | h; exact absurd h.symm e; exact h
        have h1 : (a : Int) ∉ told ++ [(x : Int)] := by simp [h0]; omega
        rw [ih (k + cs.length) (by omega) k told cs rfl hs' ha' h0]
        match k with
        | 0 =>
          rw [listsC_zero, listsC_zero, listsC_zero]
          have : hasN [told ++ [(x : Int)]] a = 0 := List.countP_eq_zero.2 fun l hl hc => by
            simp only [List.mem_singleton] at hl
            subst hl
            exact h1 (hasI_mem.1 hc)
          rw [this]
          simp
        | k + 1 =>
          cases hxa : t x a with
          | true =>
            have hax : t a x = true := by rw [hsym, hxa]
            rw [ih (k + (cs.filter (t x)).length) (by omega) k _ _ rfl (hs'.filter _) (List.mem_filter.2 ⟨ha', hxa⟩) h1, List.filter_cons_of_pos hax, listsC_cons, List.length_append, listsC_len t k ([] ++ [(x : Int)])]
            congr 2
            rw [List.filter_filter, List.filter_filter]
            congr 1
            exact List.filter_congr fun b _ => Bool.and_comm _ _
          | false =>
            have hax : ¬ t a x = true := by rw [hsym, hxa]; simp
            rw [hasN_none h1 (fun hc => by have := (List.mem_filter.1 hc).2; simp [hxa] at this), List.filter_cons_of_neg hax]
            omega
end Go.Proofs.YtgccapdjhnejcaaDoor
